/-
  Of all tapes each place leads, by the table, by just as many as its stake says; two places' shares are as the tree's; of up to 6 stakes below 6, and tapes of up to 12 bits.
  Conditions: the program's tables read, when the call begins, as its text lays them (the card ties that).
-/
import Derived.Test.YtkhlkggdibaefaaGreatDoorLGf
import Derived.BigQuiet
import Derived.ShutString
import Derived.Test.YtkhlkggdibaefaaGreatDoorTie
import Derived.Test.YtkhlkggdibaefaaGreatDoorCards
import Derived.SevenTiedAt
import Derived.ChangeOld
namespace Go.Proofs.YtkhlkggdibaefaaGreatDoor.wholeAlias
open Go.ChangeShapes Go.WideShapes Go.ChangeAt Go.RowKit
set_option linter.unusedVariables false
set_option linter.unusedSimpArgs false
set_option maxRecDepth 100000

theorem own : ownKnob Tryz.prog.godebug = none := by kernel_rfl
theorem laidOut : laidOutB Tryz.prog = true := by kernel_rfl

theorem need256 : ∀ c, c < 256 → needN ((c + 1 : Nat) : Int) ≤ 8 := by decide +kernel
theorem draw_numA (x k b t : Nat) (hk : needN (b : Int) = k) (hk4 : k ≤ 64) (hb1 : 1 ≤ b) (hb2 : b ≤ 256) (t1 : 1 ≤ t) (t4 : t ≤ 64) (hx : x < (2 ^ k) ^ t) : DrawsAs (k * t) (hits (2 ^ k) b t x) (drawR (numT x (k * t)) (b : Int) (t : Int)) := by
  have hr : rightS (numT x (k * t)) = true := (takeE_ok.1 (numT_take x (k * t) 0 0 (by omega) (by omega)).1).1
  have hB : drawB (numT x (k * t)) (b : Int) (t : Int) = true := by
    unfold drawB
    rw [hr, Bool.true_and]
    exact decide_eq_true ⟨by omega, by omega, by omega, by omega⟩
  unfold drawR
  rw [if_pos hB, hk, Int.toNat_natCast]
  have h := numT_draw x k b t hk4 t (Nat.le_refl _)
  rw [Nat.mod_eq_of_lt hx, Nat.sub_self, Nat.mul_zero] at h
  exact h
theorem draws_someA {bits v : Nat} {h : Option Nat} {r : Int × Src × Int} (hd : DrawsAs bits h r) (e : h = some v) : r.1 = (v : Int) ∧ r.2.2 = 0 ∧ r.2.1.at_ ≤ (bits : Int) := by subst e; exact hd
theorem draws_noneA {bits : Nat} {h : Option Nat} {r : Int × Src × Int} (hd : DrawsAs bits h r) (e : h = none) : r.2.2 = 9 ∧ r.2.1.at_ = (bits : Int) := by subst e; exact hd
theorem retNE_lenA {w w' : World} {e : Ending} {zs : List Int} {n : Nat} (h : RetNE w (0, zs) e w') (hn : zs.length = n) : ∃ A c, e = .returned (.tuple #[.slice A n c, .int .i64 0]) ∧ n ≤ c ∧ c ≤ maxLen ∧ Rd .u32 w' w'.heap.size A n zs ∧ Below w.heap.size w w' := by subst hn; exact h
theorem retN_lenA {w w' : World} {e : Ending} {zs : List Int} {n : Nat} (h : RetN w zs e w') (hn : zs.length = n) : ∃ A c, e = .returned (.slice A n c) ∧ n ≤ c ∧ c ≤ maxLen ∧ Rd .u32 w' w'.heap.size A n zs ∧ Below w.heap.size w w' := by subst hn; exact h
set_option maxHeartbeats 32000000 in
theorem walk (a0 : Option Addr) (n c : Nat) (zs : List Int) (a1 : Int) (w : World) (hrd : Rd .u64 w w.heap.size a0 n zs) (lc : n ≤ c) (cm : c ≤ maxLen) (hw : ∀ z ∈ zs, (Lit.int .u64 z).wf = true) (w1 : (Lit.int .u8 a1).wf = true) (hkst : Kst w) :
    Calls Tryz.prog 4 #[.slice a0 n c, .int .u8 a1] w fun e w' => e = .returned (.bool true) ∧ Below w.heap.size w w' := by
  obtain ⟨ti, hti, hz0, hz1, hzb⟩ := info_parts info_u64d
  have HKS := Lib.hid hkst
  have G0 : Hid (Fx [.rdb .u64 w.heap.size a0 n zs, .bel w] w) := Lib.hid ⟨⟨hrd, Nat.le_refl _⟩, Below.refl _ _, trivial⟩
  have hlen := hrd.len
  have hz : ∀ z ∈ zs, 0 ≤ z ∧ z < 18446744073709551616 := fun z h => by
    obtain ⟨h1, h2⟩ := bounds_u64 (hw z h)
    omega
  have m0 : 0 ≤ a1 := (bounds_u8 w1).1
  have m1 : a1 < 256 := by have := (bounds_u8 w1).2; omega
  have hcm : (c : Int) ≤ 9223372036854775807 := by unfold maxLen at cm; omega
  have hncI : (n : Int) ≤ (c : Int) := by omega
  by_cases hg : 6 < n
  · have hg2 : (6 : Int) < (n : Int) := by omega
    clear hrd hw hz hg hkst lc cm w1 m0 m1
    go_enter Tryz.func4, Tryz.ntmps4
    go_wp2_with (first
      | (go_at_call 9; (with_reducible refine (aliveT_c _ (HKS.out.below (Fx.e1 G0.out))).mono ?_); rintro e w1 ⟨rfl, hbw1⟩; have G2 := Lib.hid (Fx.below G0.out hbw1); clear G0; clear hbw1))
    go_ret
    exact ⟨rfl, (Fx.e1 G2.out)⟩
  have hg2 : (n : Int) ≤ 6 := by omega
  have hsm := fun W h => small_c zs a0 n c (by omega) hcm lc hz 6 (by omega) (by omega) W h
  unfold RetSm at hsm
  have hS : ∀ z ∈ smlL 6 zs, 0 ≤ z ∧ z < 6 := smlL_in (by omega)
  have hlS : (smlL 6 zs).length = n := (smlL_len 6 zs).trans hlen
  have hsum := smlL_sum (b := 6) (by omega) (l := zs) n (by omega)
  rw [List.take_of_length_le (by omega)] at hsum
  obtain ⟨S, hSS⟩ : ∃ S, smlL 6 zs = S := ⟨_, rfl⟩
  rw [hSS] at hsm hS hlS hsum
  have HS0 : Hid (∀ z ∈ S, 0 ≤ z) := Lib.hid (fun z h => (hS z h).1)
  have HS1 : Hid (∀ z ∈ S, 0 ≤ z ∧ z < 18446744073709551616) := Lib.hid (fun z h => by have := hS z h; omega)
  have HLS := Lib.hid hlS
  have htm : a1.tmod 3 = a1 % 3 := Int.tmod_eq_emod_of_nonneg m0
  obtain ⟨q, hq⟩ : ∃ q, a1 % 3 = q := ⟨_, rfl⟩
  have q0 : 0 ≤ q := by rw [← hq]; exact Int.emod_nonneg _ (by omega)
  have q1 : q < 3 := by rw [← hq]; exact Int.emod_lt_of_pos _ (by omega)
  rw [hq] at htm
  obtain ⟨t, ht⟩ : ∃ t : Nat, 1 + q = (t : Int) := ⟨(1 + q).toNat, by omega⟩
  have ht1 : 1 ≤ t := by omega
  have ht3 : t ≤ 3 := by omega
  obtain ⟨tt, hbs⟩ := Int.eq_ofNat_of_zero_le hsum.1
  have hb36 : tt ≤ 36 := by have := hsum.2; omega
  clear hrd hw hSS hS lc cm hlen hq w1 hkst hg hz
  by_cases hbz : tt = 0
  · subst hbz
    rw [show sumL S = 0 from hbs] at hsm
    have HSM := Lib.hid hsm
    clear hsm hbs hsum hb36
    go_enter Tryz.func4, Tryz.ntmps4
    go_wp2_with (first
      | (go_at_call 9; (with_reducible refine (aliveT_c _ (HKS.out.below (Fx.e1 G0.out))).mono ?_); rintro e w1 ⟨rfl, hbw1⟩; have G2 := Lib.hid (Fx.below G0.out hbw1); clear G0; clear hbw1)
      | (go_at_call 10; (with_reducible refine (HSM.out _ (Fx.r0 G2.out)).mono ?_); rintro e w3 ⟨A4, c5, rfl, hrw3, hlw3, hmw3, hbw3⟩; have lc5 := Lib.hid hlw3; have mc5 := Lib.hid hmw3; have G6 := Lib.hid (Fx.addR G2.out hbw3 hrw3); clear G2; clear hrw3 hbw3 hlw3 hmw3))
    go_ret
    exact ⟨rfl, (Fx.e2 G6.out)⟩
  rw [hbs] at hsm
  have HSM := Lib.hid hsm
  have HBS := Lib.hid hbs
  have n0 : 0 < n := by
    rcases Nat.eq_zero_or_pos n with h0 | h0
    · rw [h0] at hlS
      rw [List.length_eq_zero_iff.1 hlS] at hbs
      exact absurd (show (0 : Int) = (tt : Int) from hbs) (by omega)
    · exact h0
  obtain ⟨b, hb⟩ : ∃ b, n * tt = b := ⟨_, rfl⟩
  have hbI : (n : Int) * (tt : Int) = (b : Int) := by rw [← hb]; push_cast; rfl
  have hb1 : 1 ≤ b := by rw [← hb]; exact Nat.mul_pos n0 (by omega)
  have hb256 : b ≤ 216 := by rw [← hb]; exact Nat.mul_le_mul (show n ≤ 6 by omega) hb36
  have hb33 : (b : Int) ≤ 216 := by omega
  have hb34 : ((tt : Int) == 0) = false := by rw [beq_eq_false_iff_ne]; omega
  have hb35 : (1 : Int) ≤ (b : Int) := by omega
  have hwr : IntKind.u64.wrap ((n : Int) * (tt : Int)) = (b : Int) := by rw [hbI, IntKind.wrap_u64]; omega
  have k4 := need256 (b - 1) (by omega)
  rw [show b - 1 + 1 = b by omega] at k4
  have hmay : mayB (b : Int) (t : Int) = true := mayB_iff.2 ⟨by omega, by omega, by omega, by omega⟩
  have hmaT : mayB (tt : Int) (t : Int) = true := mayB_iff.2 ⟨by omega, by omega, by omega, by omega⟩
  have hoP : oddP (b : Int) = 2 ^ needN (b : Int) := rfl
  have hn := fun W => r8need_c (b : Int) (by omega) (by omega) W
  obtain ⟨k, hk⟩ : ∃ k, needN (b : Int) = k := ⟨_, rfl⟩
  rw [hk] at k4 hn hoP
  obtain ⟨M, hM⟩ : ∃ M, k * t = M := ⟨_, rfl⟩
  have hkt : (k : Int) * (t : Int) = (M : Int) := by rw [← hM]; push_cast; rfl
  have hM24 : M ≤ 24 := by rw [← hM]; exact Nat.mul_le_mul k4 ht3
  have HN := Lib.hid hn
  have kk1 : (k : Int) ≤ 8 := by omega
  have mm1 : (M : Int) ≤ 24 := by omega
  by_cases hbig : 12 < M
  · have mm2 : (12 : Int) < (M : Int) := by omega
    clear hn hk hM hM24 hbig k4 hb1 hbz HBS HS0 HLS ht1 ht3 hb256 hb36 hsm hsum hbs hmay hmaT hoP hb hbI
    go_enter Tryz.func4, Tryz.ntmps4
    go_wp2_with (first
      | (go_at_call 9; (with_reducible refine (aliveT_c _ (HKS.out.below (Fx.e1 G0.out))).mono ?_); rintro e w1 ⟨rfl, hbw1⟩; have G2 := Lib.hid (Fx.below G0.out hbw1); clear G0; clear hbw1)
      | (go_at_call 10; (with_reducible refine (HSM.out _ (Fx.r0 G2.out)).mono ?_); rintro e w3 ⟨A4, c5, rfl, hrw3, hlw3, hmw3, hbw3⟩; have lc5 := Lib.hid hlw3; have mc5 := Lib.hid hmw3; have G6 := Lib.hid (Fx.addR G2.out hbw3 hrw3); clear G2; clear hrw3 hbw3 hlw3 hmw3)
      | (go_at_call 11; (with_reducible refine (HN.out _).mono ?_); rintro e _ ⟨rfl, rfl⟩))
    go_ret
    exact ⟨rfl, (Fx.e2 G6.out)⟩
  have hsm11 : M ≤ 12 := by omega
  have mm2 : (M : Int) ≤ 12 := by omega
  have hN1 : 2 ^ M = (2 ^ k) ^ t := by rw [← hM, Nat.pow_mul]
  have hN2 : 2 ^ M ≤ 4096 := Nat.pow_le_pow_right (n := 2) (by omega) hsm11
  have hP2 := fun W => r8pow_c 2 M (fun i hi => Nat.lt_of_le_of_lt (Nat.pow_le_pow_right (n := 2) (by omega) (show i ≤ 12 by omega)) (by decide)) (by omega) W
  rw [show ((2 : Nat) : Int) = 2 from rfl] at hP2
  have hss : sumL S < 9223372036854775808 := by omega
  have he : tbE S = 0 := tbE_iff.2 ⟨by omega, hss, by omega, by rw [hlS, hbs, hbI]; omega⟩
  have hDr := fun x (hx : x < (2 ^ k) ^ t) => draw_numA x k b t hk (by omega) hb1 (by omega) ht1 (by omega) hx
  have hle := fun i (hi : i < n) => pickR_all HS0.out he hbs (show S.length * tt = b by rw [hlS]; exact hb) hmay (i := i) (by rw [hlS]; exact hi)
  have hpe := fun i (hi : i < n) => pik_each HS0.out he hbs (show S.length * tt = b by rw [hlS]; exact hb) hmay (i := i) (by rw [hlS]; exact hi)
  have hte := fun i (hi : i < n) => (leadR_all HS0.out hbs hmaT (i := i) (by rw [hlS]; exact hi)).trans (by rw [led_each HS0.out hbs hmaT (i := i) (by rw [hlS]; exact hi)])
  rw [hoP] at hle hpe
  rw [hN1] at hN2 hP2
  rw [hM] at hDr
  clear hN1 hk hoP
  obtain ⟨Q, hQ⟩ : ∃ Q, 2 ^ k = Q := ⟨_, rfl⟩
  rw [hQ] at hN2 hP2 hDr hle hpe
  clear hQ
  obtain ⟨N, hN⟩ : ∃ N, Q ^ t = N := ⟨_, rfl⟩
  rw [hN] at hN2 hP2 hDr hle hpe
  obtain ⟨E1, hE1⟩ : ∃ x, eachV (tt : Int) (t : Int) = x := ⟨_, rfl⟩
  obtain ⟨E2, hE2⟩ : ∃ x, eachV (b : Int) (t : Int) = x := ⟨_, rfl⟩
  rw [hE1] at hte
  rw [hE2] at hpe
  obtain ⟨i0, i1, -, i3⟩ := tb_in (l := S) HS0.out
  have hok := i3 (by rw [hlS]; omega)
  obtain ⟨l1, hr, hcut, ho⟩ := tb_right HS0.out he
  have e0 := (tb_abi HS0.out he).1
  rw [hlS] at l1
  rw [hbs] at e0
  have hbt := fun A c W h => q14build_c S HS1.out A n c (by omega) W h
  have hpic := fun (i : Nat) (hi : i < n) A c W h => q16pick_c (i : Int) (by omega) (by omega) (t : Int) (by omega) (by omega) S HS1.out A n c (by omega) W h
  have hlea := fun (i : Nat) (hi : i < n) A c W h => q16lead_c (i : Int) (by omega) (by omega) (t : Int) (by omega) (by omega) S HS1.out A n c (by omega) W h
  obtain ⟨ts, hts⟩ : ∃ x, tbC S = x := ⟨_, rfl⟩
  have htb := fun A c W h => calls_tab (hbt A c W h) e0 hts he ((congrArg List.length hts).trans (hts ▸ l1))
  rw [e0, hts] at hle hpe
  rw [e0] at hr
  rw [hts] at hok l1 hr
  have hld := fun A c (hc : n ≤ c) (hm : c ≤ maxLen) x A0 c0 h1 h2 W h3 h4 h5 => q15draw_c (tt : Int) (by omega) (by omega) ts hok A n c (by omega) hc hm (numT x M) (numT_ok x M (by omega)) (t : Int) (by omega) (by omega) A0 c0 h1 h2 W h3 h4 h5
  have hled := fun x => pikT_go (T := (tt : Int)) (ts := ts) (numT x M) (t : Int) hr
  have hzz : tabZ (tt : Int) ts = (b : Int) := by unfold tabZ; rw [if_pos hr, l1, hbI]
  rw [hzz] at hled
  have hoi : ∀ u : Nat, u < b → ∃ o : Nat, o < n ∧ owV (tt : Int) ts (u : Int) = (o : Int) ∧ owE (tt : Int) ts (u : Int) = 0 := fun u hu => by
    have := ow_in (u := (u : Int)) hr (by omega) (by rw [l1, hbI]; omega)
    rwa [l1] at this
  have hsg : ∀ i, i < n → 0 ≤ S.getD i 0 := fun i hi => HS0.out _ (getD_in (by rw [hlS]; exact hi))
  have hprod : ∀ i j, i < n → j < n → (S.getD i 0).toNat * E1 * pikC (tt : Int) ts Q b t j N = (S.getD j 0).toNat * E1 * pikC (tt : Int) ts Q b t i N := fun i j hi hj => by
    rw [hpe i hi, hpe j hj, hlS]
    obtain ⟨u, hu⟩ := Int.eq_ofNat_of_zero_le (hsg i hi)
    obtain ⟨v, hv⟩ := Int.eq_ofNat_of_zero_le (hsg j hj)
    rw [hu, hv, ← Int.natCast_mul, ← Int.natCast_mul]
    simp only [Int.toNat_natCast]
    simp only [Nat.mul_comm, Nat.mul_assoc, Nat.mul_left_comm]
  have HV := Lib.hid (fun x v h => hits_lt Q b t x v h)
  have HDR := Lib.hid hDr
  have HPIC := Lib.hid hpic
  have HLEA := Lib.hid hlea
  have HPIR := Lib.hid hle
  have HLER := Lib.hid hte
  have HPRO := Lib.hid hprod
  have HOI := Lib.hid hoi
  have HL1 := Lib.hid l1
  have HP2 := Lib.hid hP2
  have HTB := Lib.hid htb
  have HLD := Lib.hid hld
  have HLED := Lib.hid hled
  have HZ0 := Lib.hid zero_src
  have HZL := Lib.hid (show Src.zero.seed.length = 32 from rfl)
  have hmk : ∀ W, (Instr.makeSlice 22 (.int .i64 (n : Int)) (.int .i64 (n : Int))).run Tryz.prog W = .ok (.slice (some ⟨W.heap.size, 0, none⟩) n n) (W.alloc (.cells (intsA .u64 (List.replicate n 0)) 24)) := fun W => run_make_ints (P := Tryz.prog) 22 24 ti .u64 Tryz.underlying22 hti hz0 hz1 .i64 .i64 n (by rw [hzb]; omega) (by omega) W
  clear hDr hpic hlea hle hpe hte hprod hsg hP2 htb hbt hld hled hn hsm hsum hbs hss hmay hmaT hN hE1 hE2 hM hbz hbig k4 hM24 hb256 hb36 hb hlS hti hz0 hz1 hzb i0 i1 i3 hok l1 hr hcut ho e0 hts he hzz hoi
  go_enter Tryz.func4, Tryz.ntmps4
  go_wp2_with (first
    | (go_at_call 9; (with_reducible refine (aliveT_c _ (HKS.out.below (Fx.e1 G0.out))).mono ?_); rintro e w1 ⟨rfl, hbw1⟩; have G2 := Lib.hid (Fx.below G0.out hbw1); clear G0; clear hbw1)
    | (go_at_call 10; (with_reducible refine (HSM.out _ (Fx.r0 G2.out)).mono ?_); rintro e w3 ⟨A4, c5, rfl, hrw3, hlw3, hmw3, hbw3⟩; have lc5 := Lib.hid hlw3; have mc5 := Lib.hid hmw3; have G6 := Lib.hid (Fx.addR G2.out hbw3 hrw3); clear G2; clear hrw3 hbw3 hlw3 hmw3)
    | (go_at_call 11; (with_reducible refine (HN.out _).mono ?_); rintro e _ ⟨rfl, rfl⟩)
    | (go_at_call 21; (with_reducible refine (HTB.out _ _ _ (Fx.r0 G6.out)).mono ?_); rintro e w7 ⟨A8, c9, rfl, hrw7, hlw7, hmw7, hbw7⟩; have lc9 := Lib.hid hlw7; have mc9 := Lib.hid hmw7; have G10 := Lib.hid (Fx.addP G6.out hbw7 hrw7); clear G6; clear hrw7 hbw7 hlw7 hmw7)
    | (with_reducible refine at_any ?_; refine at_dst 10 rfl ?_; refine wpList_alloc_any rfl 54 rfl #[.int .u64 0, .slice none 0 0] zero_tabL ?_; intro w11 hkw11 hsw11 hbw11; have U12 := Lib.hid (Fx.under_new G10.out rfl); have G13 := Lib.hid (Fx.newB G10.out hkw11.out hbw11); clear G10; clear hkw11 hsw11 hbw11)
    | (with_reducible refine at_any ?_; refine at_store 10 rfl ?_; refine wpList_store_any rfl 54 (.tmp 10) (.tmp 62) rfl w7.heap.size rfl 54 #[.int .u64 0, .slice none 0 0] (#[.int .u64 (tt : Int), .slice A8 n c9]) (Fx.b0 G13.out) rfl (sameT2 _ _ _ _) (sizedT _ _) (onesT _ _ _ _) ?_; intro w14 hkw14 hsw14 hbw14 how14; have G15 := Lib.hid (Fx.put1B G13.out U12.out hkw14.out hsw14.out hbw14 how14); clear G13; clear hkw14 hsw14 hbw14 how14))
  clear hmk
  obtain ⟨go, hgo⟩ : ∃ g, w14.heap.size = g := ⟨_, rfl⟩
  have hnew : Fx [.blk w14.heap.size 24 (intsA .u64 (List.replicate n 0)), .blk w7.heap.size 54 (#[.int .u64 (tt : Int), .slice A8 n c9]), .kept w7.heap.size (fun W => RdPr .u64 .i64 W W.heap.size A8 n ts), .rdb .u64 w3.heap.size A4 n S, .rdb .u64 w.heap.size a0 n zs, .bel w] (w14.alloc (.cells (intsA .u64 (List.replicate n 0)) 24)) := Fx.newB G15.out (Blk.new _ _ _) ((Below.refl _ _).alloc (Nat.le_refl _) _)
  have HU : Hid (Fx.under w14.heap.size [.blk w7.heap.size 54 (#[.int .u64 (tt : Int), .slice A8 n c9]), .kept w7.heap.size (fun W => RdPr .u64 .i64 W W.heap.size A8 n ts), .rdb .u64 w3.heap.size A4 n S, .rdb .u64 w.heap.size a0 n zs, .bel w]) := Lib.hid (Fx.under_new G15.out rfl)
  rw [hgo] at hnew HU
  rw [hgo]
  obtain ⟨wo, hwo⟩ : ∃ wo, w14.alloc (.cells (intsA .u64 (List.replicate n 0)) 24) = wo := ⟨_, rfl⟩
  rw [hwo] at hnew ⊢
  rw [← HL1.out, ← pikL_zero (tt : Int) ts Q b t, HL1.out] at hnew
  have HNEW := Lib.hid hnew
  clear hnew hwo hgo G15
  go_loopw [13] (fun xx wr => ∃ x : Nat, x ≤ N ∧ xx = .int .u64 (x : Int) ∧ Fx [.blk go 24 (intsA .u64 (pikL (tt : Int) ts Q b t x)), .blk w7.heap.size 54 (#[.int .u64 (tt : Int), .slice A8 n c9]), .kept w7.heap.size (fun W => RdPr .u64 .i64 W W.heap.size A8 n ts), .rdb .u64 w3.heap.size A4 n S, .rdb .u64 w.heap.size a0 n zs, .bel w] wr) (fun xx _ => N - (intOf xx).toNat)
  case atStart => exact ⟨0, by omega, rfl, HNEW.out⟩
  case round =>
    clear HNEW
    obtain ⟨x, hx, rfl, hrel⟩ := hrel
    have G9 := Lib.hid hrel
    clear hrel
    by_cases hlt : x < N
    · have hD := HDR.out x hlt
      have okS := numT_ok x M (by omega)
      have hle := HLED.out x
      have hsc := fun W => source_c x M (by omega) (by omega) W
      unfold RetSrc at hsc
      have okX := (pikT_in (tt : Int) ts (numT x M) (t : Int) okS).1
      have hL9 := fun AF c hc hm => HLD.out AF c hc hm x
      rw [hle] at okX
      unfold RetLead at hL9
      rw [hle] at hL9
      have hgo : (drawR (numT x M) (b : Int) (t : Int)).2.2 = 0 → pikGo (tt : Int) ts (drawR (numT x M) (b : Int) (t : Int)) = (owV (tt : Int) ts (drawR (numT x M) (b : Int) (t : Int)).1, (drawR (numT x M) (b : Int) (t : Int)).2.1, 0) := fun h => if_pos h
      have hgn : (drawR (numT x M) (b : Int) (t : Int)).2.2 ≠ 0 → pikGo (tt : Int) ts (drawR (numT x M) (b : Int) (t : Int)) = (0, (drawR (numT x M) (b : Int) (t : Int)).2.1, (drawR (numT x M) (b : Int) (t : Int)).2.2) := fun h => if_neg h
      have hx2 : (x : Int) < (N : Int) := by omega
      have hx1 : (x : Int) < 4096 := by omega
      clear hle
      cases hh : hits Q b t x with
      | none =>
        obtain ⟨he9, hat⟩ := draws_noneA hD hh
        have e1 := hgn (by rw [he9]; decide)
        rw [he9] at e1
        rw [e1] at okX hL9
        dsimp only at okX hL9
        obtain ⟨X, hX⟩ : ∃ X, (drawR (numT x M) (b : Int) (t : Int)).2.1 = X := ⟨_, rfl⟩
        rw [hX] at okX hL9 hat
        have hcx : ∀ (W : World) (g : Nat) A c (h : Blk W g 40 (srcV X A c)), W.cell? ⟨g, 36, none⟩ = some (.int .u64 (M : Int)) := fun W g A c h => by rw [(h.cell 36).trans (srcV_at X okX.sl A c), hat]
        have HNX := Lib.hid (pikL_miss (tt : Int) ts Q b t x hh)
        obtain ⟨G, hG⟩ : ∃ G, pikL (tt : Int) ts Q b t x = G := ⟨_, rfl⟩
        rw [hG] at G9 HNX
        obtain ⟨S0, hS0⟩ : ∃ S, numT x M = S := ⟨_, rfl⟩
        rw [hS0] at hsc hL9
        obtain ⟨Z, hZ⟩ : ∃ Z, S0.tape = Z := ⟨_, rfl⟩
        rw [hZ] at hsc hL9
        obtain ⟨LS, hLS⟩ : ∃ L, Z.length = L := ⟨_, rfl⟩
        rw [hLS] at hsc hL9
        have HSC := Lib.hid hsc
        have HQ := Lib.hid hL9
        have HCX := Lib.hid hcx
        have HLX := Lib.hid okX.sl
        clear hsc hL9 hcx hD okS okX hX hG hS0 hZ hLS hh he9 hat e1 hgo hgn hlt
        go_wp2_with (go_at_call 14; (with_reducible refine (HP2.out _).mono ?_); rintro e _ ⟨rfl, rfl⟩)
        refine wp_region_held_drew (S := (Fx [.blk go 24 (intsA .u64 (G)), .blk w7.heap.size 54 (#[.int .u64 (tt : Int), .slice A8 n c9]), .kept w7.heap.size (fun W => RdPr .u64 .i64 W W.heap.size A8 n ts), .rdb .u64 w3.heap.size A4 n S, .rdb .u64 w.heap.size a0 n zs, .bel w])) (by kernel_rfl) (Fx.drew G9.out) (fun hH => ?_)
        refine wpAnyH_letter #[false, false, false, false, false, false, false, false, false, false, false, false, false, false] (by kernel_rfl) (fun _ _ d _ _ h => by cases d <;> exact h) (fun QL HQ1 HQ2 => ?_)
        refine held_row 0 (some 74) rfl (by kernel_rfl) (by kernel_rfl) (by kernel_rfl) (by kernel_rfl) (fun c a v w h => HQ2.out c a _ v w h) (by kernel_rfl) 54 (.tmp 10) rfl w7.heap.size (by kernel_rfl) 54 #[.int .u64 (tt : Int), .slice A8 n c9] (fun _ h => Fx.b1 h) _ Tryz.underlying54 rfl (sizedT _ _) hH ?_
        try simp only [Act.put, List.setIfInBounds_toArray, List.set_cons_zero, List.set_cons_succ]
        refine held_v 1 (some 75) rfl (by kernel_rfl) (by kernel_rfl) (by kernel_rfl) (by kernel_rfl) (fun c a v w h => HQ2.out c a _ v w h) (by kernel_rfl) (.int .u64 (x : Int)) (fun W h => by kernel_rfl) hH ?_
        try simp only [Act.put, List.setIfInBounds_toArray, List.set_cons_zero, List.set_cons_succ]
        refine held_v 2 (some 76) rfl (by kernel_rfl) (by kernel_rfl) (by kernel_rfl) (by kernel_rfl) (fun c a v w h => HQ2.out c a _ v w h) (by kernel_rfl) (.int .i64 (M : Int)) (fun W h => by kernel_rfl) hH ?_
        try simp only [Act.put, List.setIfInBounds_toArray, List.set_cons_zero, List.set_cons_succ]
        refine held_v 4 (some 78) rfl (by kernel_rfl) (by kernel_rfl) (by kernel_rfl) (by kernel_rfl) (fun c a v w h => HQ2.out c a _ v w h) (by kernel_rfl) (.int .i64 (t : Int)) (fun W h => by kernel_rfl) hH ?_
        try simp only [Act.put, List.setIfInBounds_toArray, List.set_cons_zero, List.set_cons_succ]
        refine wpAnyH_ready (rs := [3, 10]) (by kernel_rfl) (by decide) ?_
        refine AllReadyH.cons rfl (fun K hK => ?_) (AllReadyH.cons rfl (fun K hK => ?_) AllReadyH.nil)
        · refine step_call (some 77) (by kernel_rfl) (by kernel_rfl) _ _ (by kernel_rfl) _ (HSC.out _) ?_
          rintro e w401 ⟨A2, c2, rfl, hr2, hl2, hm2, hbw401⟩
          have ex402 : Fx [.rdb .u8 w401.heap.size A2 LS Z] w401 := ⟨⟨hr2, Nat.le_refl _⟩, trivial⟩
          refine ⟨_, rfl, ?_⟩
          refine hK.out _ _ (hH.below hbw401) (fun hw401 => ?_)
          clear hK K
          try simp only [Act.put, List.setIfInBounds_toArray, List.set_cons_zero, List.set_cons_succ]
          refine wpAnyH_ready (rs := [5, 10]) (by kernel_rfl) (by decide) ?_
          refine AllReadyH.cons rfl (fun K hK => ?_) (AllReadyH.cons rfl (fun K hK => ?_) AllReadyH.nil)
          · refine step_call (some 79) (by kernel_rfl) (by kernel_rfl) _ _ (by kernel_rfl) _ (HQ.out _ _ lc9.out mc9.out A2 c2 hl2 hm2 _ (Fx.k2 hw401) (Fx.r0 ex402) (HKS.out.below (Fx.e5 hw401))) ?_
            rintro e w403 ⟨A3, c3, rfl, hr3, hl3, hm3, hsp3, hbw403⟩
            refine ⟨_, rfl, ?_⟩
            refine hK.out _ _ (hw401.below hbw403) (fun hw403 => ?_)
            clear hK K
            try simp only [Act.put, List.setIfInBounds_toArray, List.set_cons_zero, List.set_cons_succ]
            refine held_v 6 (some 73) rfl (by kernel_rfl) (by kernel_rfl) (by kernel_rfl) (by kernel_rfl) (fun c a v w h => HQ2.out c a _ v w h) (by kernel_rfl) (.tuple #[.int .i64 0, .agg (srcV X A3 c3), .int .i64 9]) (fun W h => by kernel_rfl) hw403 ?_
            try simp only [Act.put, List.setIfInBounds_toArray, List.set_cons_zero, List.set_cons_succ]
            refine held_v 7 (some 80) rfl (by kernel_rfl) (by kernel_rfl) (by kernel_rfl) (by kernel_rfl) (fun c a v w h => HQ2.out c a _ v w h) (by kernel_rfl) (.int .i64 0) (fun W h => by kernel_rfl) hw403 ?_
            try simp only [Act.put, List.setIfInBounds_toArray, List.set_cons_zero, List.set_cons_succ]
            refine held_v 8 (some 81) rfl (by kernel_rfl) (by kernel_rfl) (by kernel_rfl) (by kernel_rfl) (fun c a v w h => HQ2.out c a _ v w h) (by kernel_rfl) (.agg (srcV X A3 c3)) (fun W h => by kernel_rfl) hw403 ?_
            try simp only [Act.put, List.setIfInBounds_toArray, List.set_cons_zero, List.set_cons_succ]
            refine held_v 9 (some 82) rfl (by kernel_rfl) (by kernel_rfl) (by kernel_rfl) (by kernel_rfl) (fun c a v w h => HQ2.out c a _ v w h) (by kernel_rfl) (.int .i64 9) (fun W h => by kernel_rfl) hw403 ?_
            try simp only [Act.put, List.setIfInBounds_toArray, List.set_cons_zero, List.set_cons_succ]
            refine wpAnyH_ready (rs := [10]) (by kernel_rfl) (by decide) ?_
            refine AllReadyH.cons rfl (fun K hK => ?_) AllReadyH.nil
            refine step_alloc (some 15) (by kernel_rfl) (by kernel_rfl) 40 rfl (srcV Src.zero none 0) HZ0.out ?_
            intro w404 hkw404 hsw404 hbw404
            obtain ⟨g16, hg16⟩ : ∃ g, w403.heap.size = g := ⟨_, rfl⟩
            have u16 := Fx.under_new hw403 rfl
            rw [hg16] at u16
            rw [hg16] at hkw404
            rw [hg16]
            have ex405 : Fx [.blk g16 40 (srcV Src.zero none 0)] w404 := ⟨hkw404.out, trivial⟩
            refine hK.out _ _ (hw403.below hbw404) (fun hw404 => ?_)
            clear hK K
            try simp only [Act.put, List.setIfInBounds_toArray, List.set_cons_zero, List.set_cons_succ]
            refine held_v 11 (some 14) rfl (by kernel_rfl) (by kernel_rfl) (by kernel_rfl) (by kernel_rfl) (fun c a v w h => HQ2.out c a _ v w h) (by kernel_rfl) (.int .i64 0) (fun W h => by kernel_rfl) hw404 ?_
            try simp only [Act.put, List.setIfInBounds_toArray, List.set_cons_zero, List.set_cons_succ]
            refine wpAnyH_ready (rs := [12]) (by kernel_rfl) (by decide) ?_
            refine AllReadyH.cons rfl (fun K hK => ?_) AllReadyH.nil
            refine step_store none (by kernel_rfl) (by kernel_rfl) 40 (.tmp 15) (.tmp 81) rfl g16 (by kernel_rfl) 40 (srcV Src.zero none 0) (srcV X A3 c3) ex405.1 (by kernel_rfl) (srcV_same _ X HZL.out HLX.out _ _ _ _) (sizedS X HLX.out _ _) (srcV_ones _ _ _) ?_
            intro w406 hkw406 hsw406 hbw406 how406
            have ex407 : Fx [.blk g16 40 (srcV X A3 c3)] w406 := ⟨hkw406.out, trivial⟩
            refine hK.out _ _ (hw404.store ex405.1 (Fx.off_under u16 _) hsw406.out hbw406 how406) (fun hw406 => ?_)
            clear hK K
            try simp only [Act.put, List.setIfInBounds_toArray, List.set_cons_zero, List.set_cons_succ]
            refine held_v 13 (some 16) rfl (by kernel_rfl) (by kernel_rfl) (by kernel_rfl) (by kernel_rfl) (fun c a v w h => HQ2.out c a _ v w h) (by kernel_rfl) (.int .i64 9) (fun W h => by kernel_rfl) hw406 ?_
            try simp only [Act.put, List.setIfInBounds_toArray, List.set_cons_zero, List.set_cons_succ]
            refine wpAnyH_done (by kernel_rfl) ?_ _
            refine HQ1.out _ _ ?_
            clear HQ1 HQ2
            have cx := HCX.out _ _ _ _ ex407.1
            have GX := Lib.hid hw406
            clear hw406 ex407 hr3 hl3 hm3 hsp3
            go_wp2
            go_roundw
            case rel => exact ⟨x + 1, by omega, by go_num, by rw [HNX.out]; exact GX.out⟩
            case measure => simp [intOf]; omega
          · refine step_alloc (some 15) (by kernel_rfl) (by kernel_rfl) 40 rfl (srcV Src.zero none 0) HZ0.out ?_
            intro w408 hkw408 hsw408 hbw408
            obtain ⟨g16, hg16⟩ : ∃ g, w401.heap.size = g := ⟨_, rfl⟩
            have u16 := Fx.under_new hw401 rfl
            rw [hg16] at u16
            rw [hg16] at hkw408
            rw [hg16]
            have ex409 := ex402.below hbw408
            have ex410 : Fx [.blk g16 40 (srcV Src.zero none 0)] w408 := ⟨hkw408.out, trivial⟩
            refine hK.out _ _ (hw401.below hbw408) (fun hw408 => ?_)
            clear hK K
            try simp only [Act.put, List.setIfInBounds_toArray, List.set_cons_zero, List.set_cons_succ]
            refine wpAnyH_ready (rs := [5]) (by kernel_rfl) (by decide) ?_
            refine AllReadyH.cons rfl (fun K hK => ?_) AllReadyH.nil
            refine step_call (some 79) (by kernel_rfl) (by kernel_rfl) _ _ (by kernel_rfl) _ (HQ.out _ _ lc9.out mc9.out A2 c2 hl2 hm2 _ (Fx.k2 hw408) (Fx.r0 ex409) (HKS.out.below (Fx.e5 hw408))) ?_
            rintro e w411 ⟨A3, c3, rfl, hr3, hl3, hm3, hsp3, hbw411⟩
            have ex412 := ex410.below hbw411
            refine ⟨_, rfl, ?_⟩
            refine hK.out _ _ (hw408.below hbw411) (fun hw411 => ?_)
            clear hK K
            try simp only [Act.put, List.setIfInBounds_toArray, List.set_cons_zero, List.set_cons_succ]
            refine held_v 6 (some 73) rfl (by kernel_rfl) (by kernel_rfl) (by kernel_rfl) (by kernel_rfl) (fun c a v w h => HQ2.out c a _ v w h) (by kernel_rfl) (.tuple #[.int .i64 0, .agg (srcV X A3 c3), .int .i64 9]) (fun W h => by kernel_rfl) hw411 ?_
            try simp only [Act.put, List.setIfInBounds_toArray, List.set_cons_zero, List.set_cons_succ]
            refine held_v 7 (some 80) rfl (by kernel_rfl) (by kernel_rfl) (by kernel_rfl) (by kernel_rfl) (fun c a v w h => HQ2.out c a _ v w h) (by kernel_rfl) (.int .i64 0) (fun W h => by kernel_rfl) hw411 ?_
            try simp only [Act.put, List.setIfInBounds_toArray, List.set_cons_zero, List.set_cons_succ]
            refine held_v 8 (some 81) rfl (by kernel_rfl) (by kernel_rfl) (by kernel_rfl) (by kernel_rfl) (fun c a v w h => HQ2.out c a _ v w h) (by kernel_rfl) (.agg (srcV X A3 c3)) (fun W h => by kernel_rfl) hw411 ?_
            try simp only [Act.put, List.setIfInBounds_toArray, List.set_cons_zero, List.set_cons_succ]
            refine held_v 9 (some 82) rfl (by kernel_rfl) (by kernel_rfl) (by kernel_rfl) (by kernel_rfl) (fun c a v w h => HQ2.out c a _ v w h) (by kernel_rfl) (.int .i64 9) (fun W h => by kernel_rfl) hw411 ?_
            try simp only [Act.put, List.setIfInBounds_toArray, List.set_cons_zero, List.set_cons_succ]
            refine held_v 11 (some 14) rfl (by kernel_rfl) (by kernel_rfl) (by kernel_rfl) (by kernel_rfl) (fun c a v w h => HQ2.out c a _ v w h) (by kernel_rfl) (.int .i64 0) (fun W h => by kernel_rfl) hw411 ?_
            try simp only [Act.put, List.setIfInBounds_toArray, List.set_cons_zero, List.set_cons_succ]
            refine wpAnyH_ready (rs := [12]) (by kernel_rfl) (by decide) ?_
            refine AllReadyH.cons rfl (fun K hK => ?_) AllReadyH.nil
            refine step_store none (by kernel_rfl) (by kernel_rfl) 40 (.tmp 15) (.tmp 81) rfl g16 (by kernel_rfl) 40 (srcV Src.zero none 0) (srcV X A3 c3) ex412.1 (by kernel_rfl) (srcV_same _ X HZL.out HLX.out _ _ _ _) (sizedS X HLX.out _ _) (srcV_ones _ _ _) ?_
            intro w413 hkw413 hsw413 hbw413 how413
            have ex414 : Fx [.blk g16 40 (srcV X A3 c3)] w413 := ⟨hkw413.out, trivial⟩
            refine hK.out _ _ (hw411.store ex412.1 (Fx.off_under u16 _) hsw413.out hbw413 how413) (fun hw413 => ?_)
            clear hK K
            try simp only [Act.put, List.setIfInBounds_toArray, List.set_cons_zero, List.set_cons_succ]
            refine held_v 13 (some 16) rfl (by kernel_rfl) (by kernel_rfl) (by kernel_rfl) (by kernel_rfl) (fun c a v w h => HQ2.out c a _ v w h) (by kernel_rfl) (.int .i64 9) (fun W h => by kernel_rfl) hw413 ?_
            try simp only [Act.put, List.setIfInBounds_toArray, List.set_cons_zero, List.set_cons_succ]
            refine wpAnyH_done (by kernel_rfl) ?_ _
            refine HQ1.out _ _ ?_
            clear HQ1 HQ2
            have cx := HCX.out _ _ _ _ ex414.1
            have GX := Lib.hid hw413
            clear hw413 ex414 hr3 hl3 hm3 hsp3
            go_wp2
            go_roundw
            case rel => exact ⟨x + 1, by omega, by go_num, by rw [HNX.out]; exact GX.out⟩
            case measure => simp [intOf]; omega
        · refine step_alloc (some 15) (by kernel_rfl) (by kernel_rfl) 40 rfl (srcV Src.zero none 0) HZ0.out ?_
          intro w415 hkw415 hsw415 hbw415
          obtain ⟨g16, hg16⟩ : ∃ g, wr.drew.heap.size = g := ⟨_, rfl⟩
          have u16 := Fx.under_new hH rfl
          rw [hg16] at u16
          rw [hg16] at hkw415
          rw [hg16]
          have ex416 : Fx [.blk g16 40 (srcV Src.zero none 0)] w415 := ⟨hkw415.out, trivial⟩
          refine hK.out _ _ (hH.below hbw415) (fun hw415 => ?_)
          clear hK K
          try simp only [Act.put, List.setIfInBounds_toArray, List.set_cons_zero, List.set_cons_succ]
          refine wpAnyH_ready (rs := [3]) (by kernel_rfl) (by decide) ?_
          refine AllReadyH.cons rfl (fun K hK => ?_) AllReadyH.nil
          refine step_call (some 77) (by kernel_rfl) (by kernel_rfl) _ _ (by kernel_rfl) _ (HSC.out _) ?_
          rintro e w417 ⟨A2, c2, rfl, hr2, hl2, hm2, hbw417⟩
          have ex418 := ex416.below hbw417
          have ex419 : Fx [.rdb .u8 w417.heap.size A2 LS Z] w417 := ⟨⟨hr2, Nat.le_refl _⟩, trivial⟩
          refine ⟨_, rfl, ?_⟩
          refine hK.out _ _ (hw415.below hbw417) (fun hw417 => ?_)
          clear hK K
          try simp only [Act.put, List.setIfInBounds_toArray, List.set_cons_zero, List.set_cons_succ]
          refine wpAnyH_ready (rs := [5]) (by kernel_rfl) (by decide) ?_
          refine AllReadyH.cons rfl (fun K hK => ?_) AllReadyH.nil
          refine step_call (some 79) (by kernel_rfl) (by kernel_rfl) _ _ (by kernel_rfl) _ (HQ.out _ _ lc9.out mc9.out A2 c2 hl2 hm2 _ (Fx.k2 hw417) (Fx.r0 ex419) (HKS.out.below (Fx.e5 hw417))) ?_
          rintro e w420 ⟨A3, c3, rfl, hr3, hl3, hm3, hsp3, hbw420⟩
          have ex421 := ex418.below hbw420
          refine ⟨_, rfl, ?_⟩
          refine hK.out _ _ (hw417.below hbw420) (fun hw420 => ?_)
          clear hK K
          try simp only [Act.put, List.setIfInBounds_toArray, List.set_cons_zero, List.set_cons_succ]
          refine held_v 6 (some 73) rfl (by kernel_rfl) (by kernel_rfl) (by kernel_rfl) (by kernel_rfl) (fun c a v w h => HQ2.out c a _ v w h) (by kernel_rfl) (.tuple #[.int .i64 0, .agg (srcV X A3 c3), .int .i64 9]) (fun W h => by kernel_rfl) hw420 ?_
          try simp only [Act.put, List.setIfInBounds_toArray, List.set_cons_zero, List.set_cons_succ]
          refine held_v 7 (some 80) rfl (by kernel_rfl) (by kernel_rfl) (by kernel_rfl) (by kernel_rfl) (fun c a v w h => HQ2.out c a _ v w h) (by kernel_rfl) (.int .i64 0) (fun W h => by kernel_rfl) hw420 ?_
          try simp only [Act.put, List.setIfInBounds_toArray, List.set_cons_zero, List.set_cons_succ]
          refine held_v 8 (some 81) rfl (by kernel_rfl) (by kernel_rfl) (by kernel_rfl) (by kernel_rfl) (fun c a v w h => HQ2.out c a _ v w h) (by kernel_rfl) (.agg (srcV X A3 c3)) (fun W h => by kernel_rfl) hw420 ?_
          try simp only [Act.put, List.setIfInBounds_toArray, List.set_cons_zero, List.set_cons_succ]
          refine held_v 9 (some 82) rfl (by kernel_rfl) (by kernel_rfl) (by kernel_rfl) (by kernel_rfl) (fun c a v w h => HQ2.out c a _ v w h) (by kernel_rfl) (.int .i64 9) (fun W h => by kernel_rfl) hw420 ?_
          try simp only [Act.put, List.setIfInBounds_toArray, List.set_cons_zero, List.set_cons_succ]
          refine held_v 11 (some 14) rfl (by kernel_rfl) (by kernel_rfl) (by kernel_rfl) (by kernel_rfl) (fun c a v w h => HQ2.out c a _ v w h) (by kernel_rfl) (.int .i64 0) (fun W h => by kernel_rfl) hw420 ?_
          try simp only [Act.put, List.setIfInBounds_toArray, List.set_cons_zero, List.set_cons_succ]
          refine wpAnyH_ready (rs := [12]) (by kernel_rfl) (by decide) ?_
          refine AllReadyH.cons rfl (fun K hK => ?_) AllReadyH.nil
          refine step_store none (by kernel_rfl) (by kernel_rfl) 40 (.tmp 15) (.tmp 81) rfl g16 (by kernel_rfl) 40 (srcV Src.zero none 0) (srcV X A3 c3) ex421.1 (by kernel_rfl) (srcV_same _ X HZL.out HLX.out _ _ _ _) (sizedS X HLX.out _ _) (srcV_ones _ _ _) ?_
          intro w422 hkw422 hsw422 hbw422 how422
          have ex423 : Fx [.blk g16 40 (srcV X A3 c3)] w422 := ⟨hkw422.out, trivial⟩
          refine hK.out _ _ (hw420.store ex421.1 (Fx.off_under u16 _) hsw422.out hbw422 how422) (fun hw422 => ?_)
          clear hK K
          try simp only [Act.put, List.setIfInBounds_toArray, List.set_cons_zero, List.set_cons_succ]
          refine held_v 13 (some 16) rfl (by kernel_rfl) (by kernel_rfl) (by kernel_rfl) (by kernel_rfl) (fun c a v w h => HQ2.out c a _ v w h) (by kernel_rfl) (.int .i64 9) (fun W h => by kernel_rfl) hw422 ?_
          try simp only [Act.put, List.setIfInBounds_toArray, List.set_cons_zero, List.set_cons_succ]
          refine wpAnyH_done (by kernel_rfl) ?_ _
          refine HQ1.out _ _ ?_
          clear HQ1 HQ2
          have cx := HCX.out _ _ _ _ ex423.1
          have GX := Lib.hid hw422
          clear hw422 ex423 hr3 hl3 hm3 hsp3
          go_wp2
          go_roundw
          case rel => exact ⟨x + 1, by omega, by go_num, by rw [HNX.out]; exact GX.out⟩
          case measure => simp [intOf]; omega
      | some v =>
        obtain ⟨hev, he0, hat⟩ := draws_someA hD hh
        have hvb := HV.out x v hh
        obtain ⟨o, hon, ho2, -⟩ := HOI.out v hvb
        have ho1 : o < ts.length := by rw [HL1.out]; exact hon
        have e1 := hgo he0
        rw [hev, ho2] at e1
        rw [e1] at okX hL9
        dsimp only at okX hL9
        obtain ⟨X, hX⟩ : ∃ X, (drawR (numT x M) (b : Int) (t : Int)).2.1 = X := ⟨_, rfl⟩
        rw [hX] at okX hL9 hat
        have hcx : ∀ (W : World) (g : Nat) A c (h : Blk W g 40 (srcV X A c)), W.cell? ⟨g, 36, none⟩ = some (.int .u64 X.at_) := fun W g A c h => (h.cell 36).trans (srcV_at X okX.sl A c)
        have hXa := okX.a0
        have hgm := pikL_hit (tt : Int) ts Q b t x v o hh ho1 ho2
        have hga := pikL_at (T := (tt : Int)) Q b t x ho1
        have hgl := pikL_len (tt : Int) ts Q b t x
        have hcl := pikC_le (tt : Int) ts Q b t o x
        obtain ⟨C, hC⟩ : ∃ C, pikC (tt : Int) ts Q b t o x = C := ⟨_, rfl⟩
        rw [hC] at hga hcl
        rw [hga] at hgm
        obtain ⟨cc, hcc⟩ : ∃ c : Int, (C : Int) = c := ⟨_, rfl⟩
        rw [hcc] at hgm hga
        have cc0 : 0 ≤ cc := by omega
        have cc1 : cc ≤ 4096 := by omega
        have HGV : Hid (∀ W, Blk W go 24 (intsA .u64 (pikL (tt : Int) ts Q b t x)) → W.cell? ⟨go, o, none⟩ = some (.int .u64 cc)) := Lib.hid (fun W h => by rw [h.cell, intsA_at _ _ _ (by rw [hgl]; exact ho1), hga])
        have HSI : Hid (o < (intsA .u64 (pikL (tt : Int) ts Q b t x)).size) := Lib.hid (by rw [intsA_size, hgl]; exact ho1)
        have HNX : Hid ((intsA .u64 (pikL (tt : Int) ts Q b t x)).setIfInBounds o (.int .u64 (cc + 1)) = intsA .u64 (pikL (tt : Int) ts Q b t (x + 1))) := Lib.hid (by rw [intsA_put, hgm])
        obtain ⟨G, hG⟩ : ∃ G, pikL (tt : Int) ts Q b t x = G := ⟨_, rfl⟩
        rw [hG] at G9 HNX HGV HSI
        obtain ⟨S0, hS0⟩ : ∃ S, numT x M = S := ⟨_, rfl⟩
        rw [hS0] at hsc hL9
        obtain ⟨Z, hZ⟩ : ∃ Z, S0.tape = Z := ⟨_, rfl⟩
        rw [hZ] at hsc hL9
        obtain ⟨LS, hLS⟩ : ∃ L, Z.length = L := ⟨_, rfl⟩
        rw [hLS] at hsc hL9
        obtain ⟨xa, hxa⟩ : ∃ y, X.at_ = y := ⟨_, rfl⟩
        rw [hxa] at hcx hat hXa
        have HSC := Lib.hid hsc
        have HQ := Lib.hid hL9
        have HCX := Lib.hid hcx
        have HLX := Lib.hid okX.sl
        have hon2 : (o : Int) < (n : Int) := by omega
        have ho0 : (0 : Int) ≤ (o : Int) := by omega
        have nxa : ¬ ((M : Int) < xa) := by omega
        clear hsc hL9 hcx hD okS okX hX hgm hG hZ hS0 hLS hh hev he0 hat e1 hgo hgn hlt hvb ho1 ho2 hga hgl hcl hC hcc hxa
        go_wp2_with (go_at_call 14; (with_reducible refine (HP2.out _).mono ?_); rintro e _ ⟨rfl, rfl⟩)
        refine wp_region_held_drew (S := (Fx [.blk go 24 (intsA .u64 (G)), .blk w7.heap.size 54 (#[.int .u64 (tt : Int), .slice A8 n c9]), .kept w7.heap.size (fun W => RdPr .u64 .i64 W W.heap.size A8 n ts), .rdb .u64 w3.heap.size A4 n S, .rdb .u64 w.heap.size a0 n zs, .bel w])) (by kernel_rfl) (Fx.drew G9.out) (fun hH => ?_)
        refine wpAnyH_letter #[false, false, false, false, false, false, false, false, false, false, false, false, false, false] (by kernel_rfl) (fun _ _ d _ _ h => by cases d <;> exact h) (fun QL HQ1 HQ2 => ?_)
        refine held_row 0 (some 74) rfl (by kernel_rfl) (by kernel_rfl) (by kernel_rfl) (by kernel_rfl) (fun c a v w h => HQ2.out c a _ v w h) (by kernel_rfl) 54 (.tmp 10) rfl w7.heap.size (by kernel_rfl) 54 #[.int .u64 (tt : Int), .slice A8 n c9] (fun _ h => Fx.b1 h) _ Tryz.underlying54 rfl (sizedT _ _) hH ?_
        try simp only [Act.put, List.setIfInBounds_toArray, List.set_cons_zero, List.set_cons_succ]
        refine held_v 1 (some 75) rfl (by kernel_rfl) (by kernel_rfl) (by kernel_rfl) (by kernel_rfl) (fun c a v w h => HQ2.out c a _ v w h) (by kernel_rfl) (.int .u64 (x : Int)) (fun W h => by kernel_rfl) hH ?_
        try simp only [Act.put, List.setIfInBounds_toArray, List.set_cons_zero, List.set_cons_succ]
        refine held_v 2 (some 76) rfl (by kernel_rfl) (by kernel_rfl) (by kernel_rfl) (by kernel_rfl) (fun c a v w h => HQ2.out c a _ v w h) (by kernel_rfl) (.int .i64 (M : Int)) (fun W h => by kernel_rfl) hH ?_
        try simp only [Act.put, List.setIfInBounds_toArray, List.set_cons_zero, List.set_cons_succ]
        refine held_v 4 (some 78) rfl (by kernel_rfl) (by kernel_rfl) (by kernel_rfl) (by kernel_rfl) (fun c a v w h => HQ2.out c a _ v w h) (by kernel_rfl) (.int .i64 (t : Int)) (fun W h => by kernel_rfl) hH ?_
        try simp only [Act.put, List.setIfInBounds_toArray, List.set_cons_zero, List.set_cons_succ]
        refine wpAnyH_ready (rs := [3, 10]) (by kernel_rfl) (by decide) ?_
        refine AllReadyH.cons rfl (fun K hK => ?_) (AllReadyH.cons rfl (fun K hK => ?_) AllReadyH.nil)
        · refine step_call (some 77) (by kernel_rfl) (by kernel_rfl) _ _ (by kernel_rfl) _ (HSC.out _) ?_
          rintro e w401 ⟨A2, c2, rfl, hr2, hl2, hm2, hbw401⟩
          have ex402 : Fx [.rdb .u8 w401.heap.size A2 LS Z] w401 := ⟨⟨hr2, Nat.le_refl _⟩, trivial⟩
          refine ⟨_, rfl, ?_⟩
          refine hK.out _ _ (hH.below hbw401) (fun hw401 => ?_)
          clear hK K
          try simp only [Act.put, List.setIfInBounds_toArray, List.set_cons_zero, List.set_cons_succ]
          refine wpAnyH_ready (rs := [5, 10]) (by kernel_rfl) (by decide) ?_
          refine AllReadyH.cons rfl (fun K hK => ?_) (AllReadyH.cons rfl (fun K hK => ?_) AllReadyH.nil)
          · refine step_call (some 79) (by kernel_rfl) (by kernel_rfl) _ _ (by kernel_rfl) _ (HQ.out _ _ lc9.out mc9.out A2 c2 hl2 hm2 _ (Fx.k2 hw401) (Fx.r0 ex402) (HKS.out.below (Fx.e5 hw401))) ?_
            rintro e w403 ⟨A3, c3, rfl, hr3, hl3, hm3, hsp3, hbw403⟩
            refine ⟨_, rfl, ?_⟩
            refine hK.out _ _ (hw401.below hbw403) (fun hw403 => ?_)
            clear hK K
            try simp only [Act.put, List.setIfInBounds_toArray, List.set_cons_zero, List.set_cons_succ]
            refine held_v 6 (some 73) rfl (by kernel_rfl) (by kernel_rfl) (by kernel_rfl) (by kernel_rfl) (fun c a v w h => HQ2.out c a _ v w h) (by kernel_rfl) (.tuple #[.int .i64 (o : Int), .agg (srcV X A3 c3), .int .i64 0]) (fun W h => by kernel_rfl) hw403 ?_
            try simp only [Act.put, List.setIfInBounds_toArray, List.set_cons_zero, List.set_cons_succ]
            refine held_v 7 (some 80) rfl (by kernel_rfl) (by kernel_rfl) (by kernel_rfl) (by kernel_rfl) (fun c a v w h => HQ2.out c a _ v w h) (by kernel_rfl) (.int .i64 (o : Int)) (fun W h => by kernel_rfl) hw403 ?_
            try simp only [Act.put, List.setIfInBounds_toArray, List.set_cons_zero, List.set_cons_succ]
            refine held_v 8 (some 81) rfl (by kernel_rfl) (by kernel_rfl) (by kernel_rfl) (by kernel_rfl) (fun c a v w h => HQ2.out c a _ v w h) (by kernel_rfl) (.agg (srcV X A3 c3)) (fun W h => by kernel_rfl) hw403 ?_
            try simp only [Act.put, List.setIfInBounds_toArray, List.set_cons_zero, List.set_cons_succ]
            refine held_v 9 (some 82) rfl (by kernel_rfl) (by kernel_rfl) (by kernel_rfl) (by kernel_rfl) (fun c a v w h => HQ2.out c a _ v w h) (by kernel_rfl) (.int .i64 0) (fun W h => by kernel_rfl) hw403 ?_
            try simp only [Act.put, List.setIfInBounds_toArray, List.set_cons_zero, List.set_cons_succ]
            refine wpAnyH_ready (rs := [10]) (by kernel_rfl) (by decide) ?_
            refine AllReadyH.cons rfl (fun K hK => ?_) AllReadyH.nil
            refine step_alloc (some 15) (by kernel_rfl) (by kernel_rfl) 40 rfl (srcV Src.zero none 0) HZ0.out ?_
            intro w404 hkw404 hsw404 hbw404
            obtain ⟨g16, hg16⟩ : ∃ g, w403.heap.size = g := ⟨_, rfl⟩
            have u16 := Fx.under_new hw403 rfl
            rw [hg16] at u16
            rw [hg16] at hkw404
            rw [hg16]
            have ex405 : Fx [.blk g16 40 (srcV Src.zero none 0)] w404 := ⟨hkw404.out, trivial⟩
            refine hK.out _ _ (hw403.below hbw404) (fun hw404 => ?_)
            clear hK K
            try simp only [Act.put, List.setIfInBounds_toArray, List.set_cons_zero, List.set_cons_succ]
            refine held_v 11 (some 14) rfl (by kernel_rfl) (by kernel_rfl) (by kernel_rfl) (by kernel_rfl) (fun c a v w h => HQ2.out c a _ v w h) (by kernel_rfl) (.int .i64 (o : Int)) (fun W h => by kernel_rfl) hw404 ?_
            try simp only [Act.put, List.setIfInBounds_toArray, List.set_cons_zero, List.set_cons_succ]
            refine wpAnyH_ready (rs := [12]) (by kernel_rfl) (by decide) ?_
            refine AllReadyH.cons rfl (fun K hK => ?_) AllReadyH.nil
            refine step_store none (by kernel_rfl) (by kernel_rfl) 40 (.tmp 15) (.tmp 81) rfl g16 (by kernel_rfl) 40 (srcV Src.zero none 0) (srcV X A3 c3) ex405.1 (by kernel_rfl) (srcV_same _ X HZL.out HLX.out _ _ _ _) (sizedS X HLX.out _ _) (srcV_ones _ _ _) ?_
            intro w406 hkw406 hsw406 hbw406 how406
            have ex407 : Fx [.blk g16 40 (srcV X A3 c3)] w406 := ⟨hkw406.out, trivial⟩
            refine hK.out _ _ (hw404.store ex405.1 (Fx.off_under u16 _) hsw406.out hbw406 how406) (fun hw406 => ?_)
            clear hK K
            try simp only [Act.put, List.setIfInBounds_toArray, List.set_cons_zero, List.set_cons_succ]
            refine held_v 13 (some 16) rfl (by kernel_rfl) (by kernel_rfl) (by kernel_rfl) (by kernel_rfl) (fun c a v w h => HQ2.out c a _ v w h) (by kernel_rfl) (.int .i64 0) (fun W h => by kernel_rfl) hw406 ?_
            try simp only [Act.put, List.setIfInBounds_toArray, List.set_cons_zero, List.set_cons_succ]
            refine wpAnyH_done (by kernel_rfl) ?_ _
            refine HQ1.out _ _ ?_
            clear HQ1 HQ2
            have cx := HCX.out _ _ _ _ ex407.1
            have GX := Lib.hid hw406
            have cg := HGV.out _ (Fx.b0 GX.out)
            clear hw406 ex407 hr3 hl3 hm3 hsp3
            go_wp2_with (with_reducible refine at_any ?_; refine at_store 107 rfl ?_; refine wpList_store_cell_any rfl 24 (.tmp 107) (.tmp 106) rfl go o rfl 24 (intsA .u64 G) (Fx.b0 GX.out) (.int .u64 (cc + 1)) rfl HSI.out size_u64l rfl rfl ?_; intro w290 hk290 hs290 hb290 ho290; rw [HNX.out] at hk290; have G290 := Lib.hid (Fx.put1B GX.out HU.out hk290.out hs290.out hb290 ho290); clear GX; clear hk290 hs290 hb290 ho290)
            go_roundw
            case rel => exact ⟨x + 1, by omega, by go_num, G290.out⟩
            case measure => simp [intOf]; omega
          · refine step_alloc (some 15) (by kernel_rfl) (by kernel_rfl) 40 rfl (srcV Src.zero none 0) HZ0.out ?_
            intro w408 hkw408 hsw408 hbw408
            obtain ⟨g16, hg16⟩ : ∃ g, w401.heap.size = g := ⟨_, rfl⟩
            have u16 := Fx.under_new hw401 rfl
            rw [hg16] at u16
            rw [hg16] at hkw408
            rw [hg16]
            have ex409 := ex402.below hbw408
            have ex410 : Fx [.blk g16 40 (srcV Src.zero none 0)] w408 := ⟨hkw408.out, trivial⟩
            refine hK.out _ _ (hw401.below hbw408) (fun hw408 => ?_)
            clear hK K
            try simp only [Act.put, List.setIfInBounds_toArray, List.set_cons_zero, List.set_cons_succ]
            refine wpAnyH_ready (rs := [5]) (by kernel_rfl) (by decide) ?_
            refine AllReadyH.cons rfl (fun K hK => ?_) AllReadyH.nil
            refine step_call (some 79) (by kernel_rfl) (by kernel_rfl) _ _ (by kernel_rfl) _ (HQ.out _ _ lc9.out mc9.out A2 c2 hl2 hm2 _ (Fx.k2 hw408) (Fx.r0 ex409) (HKS.out.below (Fx.e5 hw408))) ?_
            rintro e w411 ⟨A3, c3, rfl, hr3, hl3, hm3, hsp3, hbw411⟩
            have ex412 := ex410.below hbw411
            refine ⟨_, rfl, ?_⟩
            refine hK.out _ _ (hw408.below hbw411) (fun hw411 => ?_)
            clear hK K
            try simp only [Act.put, List.setIfInBounds_toArray, List.set_cons_zero, List.set_cons_succ]
            refine held_v 6 (some 73) rfl (by kernel_rfl) (by kernel_rfl) (by kernel_rfl) (by kernel_rfl) (fun c a v w h => HQ2.out c a _ v w h) (by kernel_rfl) (.tuple #[.int .i64 (o : Int), .agg (srcV X A3 c3), .int .i64 0]) (fun W h => by kernel_rfl) hw411 ?_
            try simp only [Act.put, List.setIfInBounds_toArray, List.set_cons_zero, List.set_cons_succ]
            refine held_v 7 (some 80) rfl (by kernel_rfl) (by kernel_rfl) (by kernel_rfl) (by kernel_rfl) (fun c a v w h => HQ2.out c a _ v w h) (by kernel_rfl) (.int .i64 (o : Int)) (fun W h => by kernel_rfl) hw411 ?_
            try simp only [Act.put, List.setIfInBounds_toArray, List.set_cons_zero, List.set_cons_succ]
            refine held_v 8 (some 81) rfl (by kernel_rfl) (by kernel_rfl) (by kernel_rfl) (by kernel_rfl) (fun c a v w h => HQ2.out c a _ v w h) (by kernel_rfl) (.agg (srcV X A3 c3)) (fun W h => by kernel_rfl) hw411 ?_
            try simp only [Act.put, List.setIfInBounds_toArray, List.set_cons_zero, List.set_cons_succ]
            refine held_v 9 (some 82) rfl (by kernel_rfl) (by kernel_rfl) (by kernel_rfl) (by kernel_rfl) (fun c a v w h => HQ2.out c a _ v w h) (by kernel_rfl) (.int .i64 0) (fun W h => by kernel_rfl) hw411 ?_
            try simp only [Act.put, List.setIfInBounds_toArray, List.set_cons_zero, List.set_cons_succ]
            refine held_v 11 (some 14) rfl (by kernel_rfl) (by kernel_rfl) (by kernel_rfl) (by kernel_rfl) (fun c a v w h => HQ2.out c a _ v w h) (by kernel_rfl) (.int .i64 (o : Int)) (fun W h => by kernel_rfl) hw411 ?_
            try simp only [Act.put, List.setIfInBounds_toArray, List.set_cons_zero, List.set_cons_succ]
            refine wpAnyH_ready (rs := [12]) (by kernel_rfl) (by decide) ?_
            refine AllReadyH.cons rfl (fun K hK => ?_) AllReadyH.nil
            refine step_store none (by kernel_rfl) (by kernel_rfl) 40 (.tmp 15) (.tmp 81) rfl g16 (by kernel_rfl) 40 (srcV Src.zero none 0) (srcV X A3 c3) ex412.1 (by kernel_rfl) (srcV_same _ X HZL.out HLX.out _ _ _ _) (sizedS X HLX.out _ _) (srcV_ones _ _ _) ?_
            intro w413 hkw413 hsw413 hbw413 how413
            have ex414 : Fx [.blk g16 40 (srcV X A3 c3)] w413 := ⟨hkw413.out, trivial⟩
            refine hK.out _ _ (hw411.store ex412.1 (Fx.off_under u16 _) hsw413.out hbw413 how413) (fun hw413 => ?_)
            clear hK K
            try simp only [Act.put, List.setIfInBounds_toArray, List.set_cons_zero, List.set_cons_succ]
            refine held_v 13 (some 16) rfl (by kernel_rfl) (by kernel_rfl) (by kernel_rfl) (by kernel_rfl) (fun c a v w h => HQ2.out c a _ v w h) (by kernel_rfl) (.int .i64 0) (fun W h => by kernel_rfl) hw413 ?_
            try simp only [Act.put, List.setIfInBounds_toArray, List.set_cons_zero, List.set_cons_succ]
            refine wpAnyH_done (by kernel_rfl) ?_ _
            refine HQ1.out _ _ ?_
            clear HQ1 HQ2
            have cx := HCX.out _ _ _ _ ex414.1
            have GX := Lib.hid hw413
            have cg := HGV.out _ (Fx.b0 GX.out)
            clear hw413 ex414 hr3 hl3 hm3 hsp3
            go_wp2_with (with_reducible refine at_any ?_; refine at_store 107 rfl ?_; refine wpList_store_cell_any rfl 24 (.tmp 107) (.tmp 106) rfl go o rfl 24 (intsA .u64 G) (Fx.b0 GX.out) (.int .u64 (cc + 1)) rfl HSI.out size_u64l rfl rfl ?_; intro w290 hk290 hs290 hb290 ho290; rw [HNX.out] at hk290; have G290 := Lib.hid (Fx.put1B GX.out HU.out hk290.out hs290.out hb290 ho290); clear GX; clear hk290 hs290 hb290 ho290)
            go_roundw
            case rel => exact ⟨x + 1, by omega, by go_num, G290.out⟩
            case measure => simp [intOf]; omega
        · refine step_alloc (some 15) (by kernel_rfl) (by kernel_rfl) 40 rfl (srcV Src.zero none 0) HZ0.out ?_
          intro w415 hkw415 hsw415 hbw415
          obtain ⟨g16, hg16⟩ : ∃ g, wr.drew.heap.size = g := ⟨_, rfl⟩
          have u16 := Fx.under_new hH rfl
          rw [hg16] at u16
          rw [hg16] at hkw415
          rw [hg16]
          have ex416 : Fx [.blk g16 40 (srcV Src.zero none 0)] w415 := ⟨hkw415.out, trivial⟩
          refine hK.out _ _ (hH.below hbw415) (fun hw415 => ?_)
          clear hK K
          try simp only [Act.put, List.setIfInBounds_toArray, List.set_cons_zero, List.set_cons_succ]
          refine wpAnyH_ready (rs := [3]) (by kernel_rfl) (by decide) ?_
          refine AllReadyH.cons rfl (fun K hK => ?_) AllReadyH.nil
          refine step_call (some 77) (by kernel_rfl) (by kernel_rfl) _ _ (by kernel_rfl) _ (HSC.out _) ?_
          rintro e w417 ⟨A2, c2, rfl, hr2, hl2, hm2, hbw417⟩
          have ex418 := ex416.below hbw417
          have ex419 : Fx [.rdb .u8 w417.heap.size A2 LS Z] w417 := ⟨⟨hr2, Nat.le_refl _⟩, trivial⟩
          refine ⟨_, rfl, ?_⟩
          refine hK.out _ _ (hw415.below hbw417) (fun hw417 => ?_)
          clear hK K
          try simp only [Act.put, List.setIfInBounds_toArray, List.set_cons_zero, List.set_cons_succ]
          refine wpAnyH_ready (rs := [5]) (by kernel_rfl) (by decide) ?_
          refine AllReadyH.cons rfl (fun K hK => ?_) AllReadyH.nil
          refine step_call (some 79) (by kernel_rfl) (by kernel_rfl) _ _ (by kernel_rfl) _ (HQ.out _ _ lc9.out mc9.out A2 c2 hl2 hm2 _ (Fx.k2 hw417) (Fx.r0 ex419) (HKS.out.below (Fx.e5 hw417))) ?_
          rintro e w420 ⟨A3, c3, rfl, hr3, hl3, hm3, hsp3, hbw420⟩
          have ex421 := ex418.below hbw420
          refine ⟨_, rfl, ?_⟩
          refine hK.out _ _ (hw417.below hbw420) (fun hw420 => ?_)
          clear hK K
          try simp only [Act.put, List.setIfInBounds_toArray, List.set_cons_zero, List.set_cons_succ]
          refine held_v 6 (some 73) rfl (by kernel_rfl) (by kernel_rfl) (by kernel_rfl) (by kernel_rfl) (fun c a v w h => HQ2.out c a _ v w h) (by kernel_rfl) (.tuple #[.int .i64 (o : Int), .agg (srcV X A3 c3), .int .i64 0]) (fun W h => by kernel_rfl) hw420 ?_
          try simp only [Act.put, List.setIfInBounds_toArray, List.set_cons_zero, List.set_cons_succ]
          refine held_v 7 (some 80) rfl (by kernel_rfl) (by kernel_rfl) (by kernel_rfl) (by kernel_rfl) (fun c a v w h => HQ2.out c a _ v w h) (by kernel_rfl) (.int .i64 (o : Int)) (fun W h => by kernel_rfl) hw420 ?_
          try simp only [Act.put, List.setIfInBounds_toArray, List.set_cons_zero, List.set_cons_succ]
          refine held_v 8 (some 81) rfl (by kernel_rfl) (by kernel_rfl) (by kernel_rfl) (by kernel_rfl) (fun c a v w h => HQ2.out c a _ v w h) (by kernel_rfl) (.agg (srcV X A3 c3)) (fun W h => by kernel_rfl) hw420 ?_
          try simp only [Act.put, List.setIfInBounds_toArray, List.set_cons_zero, List.set_cons_succ]
          refine held_v 9 (some 82) rfl (by kernel_rfl) (by kernel_rfl) (by kernel_rfl) (by kernel_rfl) (fun c a v w h => HQ2.out c a _ v w h) (by kernel_rfl) (.int .i64 0) (fun W h => by kernel_rfl) hw420 ?_
          try simp only [Act.put, List.setIfInBounds_toArray, List.set_cons_zero, List.set_cons_succ]
          refine held_v 11 (some 14) rfl (by kernel_rfl) (by kernel_rfl) (by kernel_rfl) (by kernel_rfl) (fun c a v w h => HQ2.out c a _ v w h) (by kernel_rfl) (.int .i64 (o : Int)) (fun W h => by kernel_rfl) hw420 ?_
          try simp only [Act.put, List.setIfInBounds_toArray, List.set_cons_zero, List.set_cons_succ]
          refine wpAnyH_ready (rs := [12]) (by kernel_rfl) (by decide) ?_
          refine AllReadyH.cons rfl (fun K hK => ?_) AllReadyH.nil
          refine step_store none (by kernel_rfl) (by kernel_rfl) 40 (.tmp 15) (.tmp 81) rfl g16 (by kernel_rfl) 40 (srcV Src.zero none 0) (srcV X A3 c3) ex421.1 (by kernel_rfl) (srcV_same _ X HZL.out HLX.out _ _ _ _) (sizedS X HLX.out _ _) (srcV_ones _ _ _) ?_
          intro w422 hkw422 hsw422 hbw422 how422
          have ex423 : Fx [.blk g16 40 (srcV X A3 c3)] w422 := ⟨hkw422.out, trivial⟩
          refine hK.out _ _ (hw420.store ex421.1 (Fx.off_under u16 _) hsw422.out hbw422 how422) (fun hw422 => ?_)
          clear hK K
          try simp only [Act.put, List.setIfInBounds_toArray, List.set_cons_zero, List.set_cons_succ]
          refine held_v 13 (some 16) rfl (by kernel_rfl) (by kernel_rfl) (by kernel_rfl) (by kernel_rfl) (fun c a v w h => HQ2.out c a _ v w h) (by kernel_rfl) (.int .i64 0) (fun W h => by kernel_rfl) hw422 ?_
          try simp only [Act.put, List.setIfInBounds_toArray, List.set_cons_zero, List.set_cons_succ]
          refine wpAnyH_done (by kernel_rfl) ?_ _
          refine HQ1.out _ _ ?_
          clear HQ1 HQ2
          have cx := HCX.out _ _ _ _ ex423.1
          have GX := Lib.hid hw422
          have cg := HGV.out _ (Fx.b0 GX.out)
          clear hw422 ex423 hr3 hl3 hm3 hsp3
          go_wp2_with (with_reducible refine at_any ?_; refine at_store 107 rfl ?_; refine wpList_store_cell_any rfl 24 (.tmp 107) (.tmp 106) rfl go o rfl 24 (intsA .u64 G) (Fx.b0 GX.out) (.int .u64 (cc + 1)) rfl HSI.out size_u64l rfl rfl ?_; intro w290 hk290 hs290 hb290 ho290; rw [HNX.out] at hk290; have G290 := Lib.hid (Fx.put1B GX.out HU.out hk290.out hs290.out hb290 ho290); clear GX; clear hk290 hs290 hb290 ho290)
          go_roundw
          case rel => exact ⟨x + 1, by omega, by go_num, G290.out⟩
          case measure => simp [intOf]; omega
    · have hxN : N = x := by omega
      subst hxN
      have hgl := pikL_len (tt : Int) ts Q b t N
      have HGA := Lib.hid (fun i (hi : i < ts.length) => pikL_at (T := (tt : Int)) Q b t N hi)
      have HCL := Lib.hid (fun i => pikC_le (tt : Int) ts Q b t i N)
      obtain ⟨G, hG⟩ : ∃ G, pikL (tt : Int) ts Q b t N = G := ⟨_, rfl⟩
      rw [hG] at G9 HGA hgl
      have hx1 : (N : Int) ≤ 4096 := by omega
      have HGLN : Hid (G.length = n) := Lib.hid (by rw [hgl]; exact HL1.out)
      have HCG : Hid (∀ i, i < n → ∀ W, Blk W go 24 (intsA .u64 G) → W.cell? ⟨go, i, none⟩ = some (.int .u64 ((pikC (tt : Int) ts Q b t i N : Nat) : Int))) := Lib.hid (fun i hib W h => by rw [h.cell, intsA_at .u64 G i (by have := HGLN.out; omega), HGA.out i (by rw [HL1.out]; exact hib)])
      clear hG hgl hlt hx HLD HLED HZ0 HZL HDR HV
      go_wp2_with (go_at_call 14; (with_reducible refine (HP2.out _).mono ?_); rintro e _ ⟨rfl, rfl⟩)
      go_loopw [17] (fun ii wr => ∃ i : Nat, i ≤ n ∧ ii = .int .i64 (i : Int) ∧ Fx [.blk go 24 (intsA .u64 (G)), .blk w7.heap.size 54 (#[.int .u64 (tt : Int), .slice A8 n c9]), .kept w7.heap.size (fun W => RdPr .u64 .i64 W W.heap.size A8 n ts), .rdb .u64 w3.heap.size A4 n S, .rdb .u64 w.heap.size a0 n zs, .bel w] wr) (fun ii _ => n - (intOf ii).toNat)
      case atStart => exact ⟨0, by omega, rfl, G9.out⟩
      case round =>
        clear G9
        obtain ⟨i, hi, rfl, hrel⟩ := hrel
        have G8 := Lib.hid hrel
        clear hrel
        by_cases hib : i < n
        · have hcl := HCL.out i
          have hle := HPIC.out i hib
          rw [HPIR.out i hib] at hle
          have hat := HCG.out i hib
          have hpr := fun j (hj : j < n) => HPRO.out i j hib hj
          obtain ⟨C, hC⟩ : ∃ C, pikC (tt : Int) ts Q b t i N = C := ⟨_, rfl⟩
          rw [hC] at hat hcl hle
          have hpr2 : ∀ j, j < n → (S.getD i 0).toNat * E1 * pikC (tt : Int) ts Q b t j N = (S.getD j 0).toNat * E1 * C := fun j hj => by rw [← hC]; exact hpr j hj
          have hof := fun W => r10of_c (C : Int) (by omega) (by omega) W
          rw [Int.toNat_natCast] at hof
          obtain ⟨VL, hVL⟩ : ∃ l, natL C = l := ⟨_, rfl⟩
          obtain ⟨LV, hLV⟩ : ∃ l, VL.length = l := ⟨_, rfl⟩
          rw [hVL] at hof hle
          have HOF := Lib.hid (fun W => (hof W).mono fun _ _ h => retN_lenA h hLV)
          have HLE := Lib.hid (fun A c W h => (hle A c W h).mono fun _ _ h => retNE_lenA h hLV)
          have hsn := fun A B c d (hL : LV ≤ maxLen) (W : World) (h1 : Rd .u32 W W.heap.size A LV VL) (h2 : Rd .u32 W W.heap.size B LV VL) => r10same_c VL VL A B LV LV c d hL hL W h1 h2
          rw [decide_eq_true rfl] at hsn
          have HSA := Lib.hid hsn
          have HGV := Lib.hid hat
          have HPR := Lib.hid hpr2
          have hC1 : (C : Int) ≤ 4096 := by omega
          have hi1 : (i : Int) < (n : Int) := by omega
          have hi0 : (0 : Int) ≤ (i : Int) := by omega
          have HVL := Lib.hid hVL
          have HLV := Lib.hid hLV
          clear hat hcl hle hof hsn hC hVL hLV hpr hpr2
          go_wp2_with (first
            | (go_at_call 23; (with_reducible refine (HLE.out _ _ _ (Fx.r3 G8.out)).mono ?_); rintro e w601 ⟨A602, c603, rfl, hlw601, hmw601, hrw601, hbw601⟩; have lc603 := Lib.hid hlw601; have mc603 := Lib.hid hmw601; have G604 := Lib.hid (Fx.addR G8.out hbw601 hrw601); clear G8; clear hrw601 hbw601 hlw601 hmw601; have cg := HGV.out _ (Fx.b1 G604.out))
            | (go_at_call 20; (with_reducible refine (HOF.out _).mono ?_); rintro e w605 ⟨A606, c607, rfl, hlw605, hmw605, hrw605, hbw605⟩; have lc607 := Lib.hid hlw605; have mc607 := Lib.hid hmw605; have G608 := Lib.hid (Fx.addR G604.out hbw605 hrw605); clear G604; clear hrw605 hbw605 hlw605 hmw605)
            | (go_at_call 19; (with_reducible refine (HSA.out _ _ _ _ (Nat.le_trans lc607.out mc607.out) _ (Fx.r1 G608.out) (Fx.r0 G608.out)).mono ?_); rintro e w609 ⟨rfl, hbw609⟩; have G610 := Lib.hid (Fx.below G608.out hbw609); clear G608; clear hbw609))
          have G6 := Lib.hid (G610.out.2.2)
          clear G610
          go_loopw [20] (fun jj wr => ∃ j : Nat, j ≤ i ∧ jj = .int .i64 (j : Int) ∧ Fx [.blk go 24 (intsA .u64 (G)), .blk w7.heap.size 54 (#[.int .u64 (tt : Int), .slice A8 n c9]), .kept w7.heap.size (fun W => RdPr .u64 .i64 W W.heap.size A8 n ts), .rdb .u64 w3.heap.size A4 n S, .rdb .u64 w.heap.size a0 n zs, .bel w] wr) (fun jj _ => i - (intOf jj).toNat)
          case atStart => exact ⟨0, by omega, rfl, G6.out⟩
          case round =>
            clear G6
            obtain ⟨j, hj, rfl, hrel⟩ := hrel
            have G5 := Lib.hid hrel
            clear hrel
            by_cases hji : j < i
            · have hjn : j < n := by omega
              have hl1 := HLEA.out i hib
              have hl2 := HLEA.out j hjn
              have hd1 := leadR'_len (i : Int) (t : Int) S
              have hd2 := leadR'_len (j : Int) (t : Int) S
              rw [HLER.out i hib] at hl1 hd1
              rw [HLER.out j hjn] at hl2 hd2
              dsimp only at hd1 hd2
              have hpr := HPR.out j hjn
              have hcj := HCL.out j
              have hatj := HCG.out j hjn
              obtain ⟨D, hD⟩ : ∃ D, pikC (tt : Int) ts Q b t j N = D := ⟨_, rfl⟩
              rw [hD] at hpr hcj hatj
              obtain ⟨A1, hA1⟩ : ∃ x, (S.getD i 0).toNat * E1 = x := ⟨_, rfl⟩
              obtain ⟨A2, hA2⟩ : ∃ x, (S.getD j 0).toNat * E1 = x := ⟨_, rfl⟩
              rw [hA1] at hl1 hd1 hpr
              rw [hA2] at hl2 hd2 hpr
              obtain ⟨X1, hX1⟩ : ∃ x, natL A1 = x := ⟨_, rfl⟩
              obtain ⟨X2, hX2⟩ : ∃ x, natL A2 = x := ⟨_, rfl⟩
              obtain ⟨Y1, hY1⟩ : ∃ x, natL D = x := ⟨_, rfl⟩
              obtain ⟨W1, hW1⟩ : ∃ x, natL (A1 * D) = x := ⟨_, rfl⟩
              have limX1 : Lim X1 := by rw [← hX1]; exact natL_lim _
              have limX2 : Lim X2 := by rw [← hX2]; exact natL_lim _
              have limY1 : Lim Y1 := by rw [← hY1]; exact natL_lim _
              have limVL : Lim VL := by rw [← HVL.out]; exact natL_lim _
              have e1 : natL (valL X1 * valL Y1) = W1 := by rw [← hX1, ← hY1, natL_val, natL_val]; exact hW1
              have e2 : natL (valL X2 * valL VL) = W1 := by rw [← hX2, ← HVL.out, natL_val, natL_val, ← hpr]; exact hW1
              have hy1 : Y1.length ≤ 1 := by rw [← hY1]; exact (natL_len D 1).2 (by omega)
              have hv1 : VL.length ≤ 1 := by rw [← HVL.out]; exact (natL_len C 1).2 (by omega)
              rw [hX1] at hl1 hd1
              rw [hX2] at hl2 hd2
              obtain ⟨l1, hl1e⟩ : ∃ x, X1.length = x := ⟨_, rfl⟩
              obtain ⟨l2, hl2e⟩ : ∃ x, X2.length = x := ⟨_, rfl⟩
              obtain ⟨m1, hm1e⟩ : ∃ x, Y1.length = x := ⟨_, rfl⟩
              obtain ⟨lw, hlwe⟩ : ∃ x, W1.length = x := ⟨_, rfl⟩
              rw [hl1e] at hd1
              rw [hl2e] at hd2
              rw [hm1e] at hy1
              rw [HLV.out] at hv1
              have hofj := fun W => r10of_c (D : Int) (by omega) (by omega) W
              rw [Int.toNat_natCast, hY1] at hofj
              have HOFJ := Lib.hid (fun W => (hofj W).mono fun _ _ h => retN_lenA h hm1e)
              have HLA := Lib.hid (fun A c W h => (hl1 A c W h).mono fun _ _ h => retNE_lenA h hl1e)
              have HLB := Lib.hid (fun A c W h => (hl2 A c W h).mono fun _ _ h => retNE_lenA h hl2e)
              have ht1 := fun A B c d W h h' => r10times_c X1 Y1 limX1 limY1 A B l1 m1 c d (by omega) (by omega) W h h'
              have ht2 := fun A B c d W h h' => r10times_c X2 VL limX2 limVL A B l2 LV c d (by omega) (by omega) W h h'
              rw [e1] at ht1
              rw [e2] at ht2
              have HT1 := Lib.hid (fun A B c d W h h' => (ht1 A B c d W h h').mono fun _ _ h => retN_lenA h hlwe)
              have HT2 := Lib.hid (fun A B c d W h h' => (ht2 A B c d W h h').mono fun _ _ h => retN_lenA h hlwe)
              have hsw := fun A B c d (hL : lw ≤ maxLen) (W : World) (h1 : Rd .u32 W W.heap.size A lw W1) (h2 : Rd .u32 W W.heap.size B lw W1) => r10same_c W1 W1 A B lw lw c d hL hL W h1 h2
              rw [decide_eq_true rfl] at hsw
              have HSW := Lib.hid hsw
              have HGJ := Lib.hid hatj
              have hD1 : (D : Int) ≤ 4096 := by omega
              have HJ2 : Hid ((j : Int) < (n : Int)) := Lib.hid (by omega)
              have HJ3 : Hid ((0 : Int) ≤ (j : Int)) := Lib.hid (by omega)
              have HI2 := Lib.hid hi1
              have HI3 := Lib.hid hi0
              have hji3 : (j : Int) < (i : Int) := by omega
              clear hl1 hl2 hd1 hd2 hpr hcj hatj hD hA1 hA2 hX1 hX2 hY1 hW1 limX1 limX2 limY1 limVL e1 e2 hy1 hv1 hl1e hl2e hm1e hlwe hofj ht1 ht2 hsw
              go_wp2_with (first
                | (go_at_call 18; (with_reducible refine (HLA.out _ _ _ (Fx.r3 G5.out)).mono ?_); rintro e w801 ⟨A802, c803, rfl, hlw801, hmw801, hrw801, hbw801⟩; have lc803 := Lib.hid hlw801; have mc803 := Lib.hid hmw801; have G804 := Lib.hid (Fx.addR G5.out hbw801 hrw801); clear G5; clear hrw801 hbw801 hlw801 hmw801)
                | (go_at_call 18; (with_reducible refine (HLB.out _ _ _ (Fx.r4 G804.out)).mono ?_); rintro e w805 ⟨A806, c807, rfl, hlw805, hmw805, hrw805, hbw805⟩; have lc807 := Lib.hid hlw805; have mc807 := Lib.hid hmw805; have G808 := Lib.hid (Fx.addR G804.out hbw805 hrw805); clear G804; clear hrw805 hbw805 hlw805 hmw805))
              refine wp_region_held_drew (S := (Fx [.rdb .u32 w805.heap.size A806 l2 X2, .rdb .u32 w801.heap.size A802 l1 X1, .blk go 24 (intsA .u64 (G)), .blk w7.heap.size 54 (#[.int .u64 (tt : Int), .slice A8 n c9]), .kept w7.heap.size (fun W => RdPr .u64 .i64 W W.heap.size A8 n ts), .rdb .u64 w3.heap.size A4 n S, .rdb .u64 w.heap.size a0 n zs, .bel w])) (by kernel_rfl) (Fx.drew G808.out) (fun hH => ?_)
              refine wpAnyH_letter #[false, false, false, false, false, false, false, false, false, false, false, false, false, false, false, false] (by kernel_rfl) (fun _ _ d _ _ h => by cases d <;> exact h) (fun QL HQ1 HQ2 => ?_)
              refine held_v 0 (some 155) rfl (by kernel_rfl) (by kernel_rfl) (by kernel_rfl) (by kernel_rfl) (fun c a v w h => HQ2.out c a _ v w h) (by kernel_rfl) (.slice A802 l1 c803) (fun W h => by kernel_rfl) hH ?_
              try simp only [Act.put, List.setIfInBounds_toArray, List.set_cons_zero, List.set_cons_succ]
              refine held_v 1 (some 156) rfl (by kernel_rfl) (by kernel_rfl) (by kernel_rfl) (by kernel_rfl) (fun c a v w h => HQ2.out c a _ v w h) (by kernel_rfl) (.slice (some ⟨go, 0, none⟩) n n) (fun W h => by kernel_rfl) hH ?_
              try simp only [Act.put, List.setIfInBounds_toArray, List.set_cons_zero, List.set_cons_succ]
              refine held_v 2 (some 157) rfl (by kernel_rfl) (by kernel_rfl) (by kernel_rfl) (by kernel_rfl) (fun c a v w h => HQ2.out c a _ v w h) (by kernel_rfl) (.int .i64 (j : Int)) (fun W h => by kernel_rfl) hH ?_
              try simp only [Act.put, List.setIfInBounds_toArray, List.set_cons_zero, List.set_cons_succ]
              refine held_v 3 (some 158) rfl (by kernel_rfl) (by kernel_rfl) (by kernel_rfl) (by kernel_rfl) (fun c a v w h => HQ2.out c a _ v w h) (by kernel_rfl) (.pointer (some ⟨go, j, none⟩)) (fun W h => by have p := HJ2.out; have p2 := HJ3.out; go_simp) hH ?_
              try simp only [Act.put, List.setIfInBounds_toArray, List.set_cons_zero, List.set_cons_succ]
              refine held_v 4 (some 159) rfl (by kernel_rfl) (by kernel_rfl) (by kernel_rfl) (by kernel_rfl) (fun c a v w h => HQ2.out c a _ v w h) (by kernel_rfl) (.int .u64 (D : Int)) (fun W h => by have p := HGJ.out W (Fx.b2 h); go_simp) hH ?_
              try simp only [Act.put, List.setIfInBounds_toArray, List.set_cons_zero, List.set_cons_succ]
              refine held_v 7 (some 162) rfl (by kernel_rfl) (by kernel_rfl) (by kernel_rfl) (by kernel_rfl) (fun c a v w h => HQ2.out c a _ v w h) (by kernel_rfl) (.slice A806 l2 c807) (fun W h => by kernel_rfl) hH ?_
              try simp only [Act.put, List.setIfInBounds_toArray, List.set_cons_zero, List.set_cons_succ]
              refine held_v 8 (some 163) rfl (by kernel_rfl) (by kernel_rfl) (by kernel_rfl) (by kernel_rfl) (fun c a v w h => HQ2.out c a _ v w h) (by kernel_rfl) (.slice (some ⟨go, 0, none⟩) n n) (fun W h => by kernel_rfl) hH ?_
              try simp only [Act.put, List.setIfInBounds_toArray, List.set_cons_zero, List.set_cons_succ]
              refine held_v 9 (some 164) rfl (by kernel_rfl) (by kernel_rfl) (by kernel_rfl) (by kernel_rfl) (fun c a v w h => HQ2.out c a _ v w h) (by kernel_rfl) (.int .i64 (i : Int)) (fun W h => by kernel_rfl) hH ?_
              try simp only [Act.put, List.setIfInBounds_toArray, List.set_cons_zero, List.set_cons_succ]
              refine held_v 10 (some 165) rfl (by kernel_rfl) (by kernel_rfl) (by kernel_rfl) (by kernel_rfl) (fun c a v w h => HQ2.out c a _ v w h) (by kernel_rfl) (.pointer (some ⟨go, i, none⟩)) (fun W h => by have p := HI2.out; have p2 := HI3.out; go_simp) hH ?_
              try simp only [Act.put, List.setIfInBounds_toArray, List.set_cons_zero, List.set_cons_succ]
              refine held_v 11 (some 166) rfl (by kernel_rfl) (by kernel_rfl) (by kernel_rfl) (by kernel_rfl) (fun c a v w h => HQ2.out c a _ v w h) (by kernel_rfl) (.int .u64 (C : Int)) (fun W h => by have p := HGV.out W (Fx.b2 h); go_simp) hH ?_
              try simp only [Act.put, List.setIfInBounds_toArray, List.set_cons_zero, List.set_cons_succ]
              refine wpAnyH_ready (rs := [5]) (by kernel_rfl) (by decide) ?_
              refine AllReadyH.cons rfl (fun K hK => ?_) AllReadyH.nil
              refine step_call (some 160) (by kernel_rfl) (by kernel_rfl) _ _ (by kernel_rfl) _ (HOFJ.out _) ?_
              rintro e w401 ⟨B1, d1, rfl, hlb1, hmb1, hrb1, hbw401⟩
              have ex402 : Fx [.rdb .u32 w401.heap.size B1 m1 Y1] w401 := ⟨⟨hrb1, Nat.le_refl _⟩, trivial⟩
              refine ⟨_, rfl, ?_⟩
              refine hK.out _ _ (hH.below hbw401) (fun hw401 => ?_)
              clear hK K
              try simp only [Act.put, List.setIfInBounds_toArray, List.set_cons_zero, List.set_cons_succ]
              refine wpAnyH_ready (rs := [6]) (by kernel_rfl) (by decide) ?_
              refine AllReadyH.cons rfl (fun K hK => ?_) AllReadyH.nil
              refine step_call (some 161) (by kernel_rfl) (by kernel_rfl) _ _ (by kernel_rfl) _ (HT1.out A802 B1 c803 d1 _ (Fx.r1 hw401) (Fx.r0 ex402)) ?_
              rintro e w403 ⟨P1, e1, rfl, hlp1, hmp1, hrp1, hbw403⟩
              have ex404 : Fx [.rdb .u32 w403.heap.size P1 lw W1] w403 := ⟨⟨hrp1, Nat.le_refl _⟩, trivial⟩
              refine ⟨_, rfl, ?_⟩
              refine hK.out _ _ (hw401.below hbw403) (fun hw403 => ?_)
              clear hK K
              try simp only [Act.put, List.setIfInBounds_toArray, List.set_cons_zero, List.set_cons_succ]
              refine wpAnyH_ready (rs := [12]) (by kernel_rfl) (by decide) ?_
              refine AllReadyH.cons rfl (fun K hK => ?_) AllReadyH.nil
              refine step_call (some 167) (by kernel_rfl) (by kernel_rfl) _ _ (by kernel_rfl) _ (HOF.out _) ?_
              rintro e w405 ⟨B2, d2, rfl, hlb2, hmb2, hrb2, hbw405⟩
              have ex406 := ex404.below hbw405
              have ex407 : Fx [.rdb .u32 w405.heap.size B2 LV VL] w405 := ⟨⟨hrb2, Nat.le_refl _⟩, trivial⟩
              refine ⟨_, rfl, ?_⟩
              refine hK.out _ _ (hw403.below hbw405) (fun hw405 => ?_)
              clear hK K
              try simp only [Act.put, List.setIfInBounds_toArray, List.set_cons_zero, List.set_cons_succ]
              refine wpAnyH_ready (rs := [13]) (by kernel_rfl) (by decide) ?_
              refine AllReadyH.cons rfl (fun K hK => ?_) AllReadyH.nil
              refine step_call (some 168) (by kernel_rfl) (by kernel_rfl) _ _ (by kernel_rfl) _ (HT2.out A806 B2 c807 d2 _ (Fx.r0 hw405) (Fx.r0 ex407)) ?_
              rintro e w408 ⟨P2, e2, rfl, hlp2, hmp2, hrp2, hbw408⟩
              have ex409 := ex406.below hbw408
              have ex410 : Fx [.rdb .u32 w408.heap.size P2 lw W1] w408 := ⟨⟨hrp2, Nat.le_refl _⟩, trivial⟩
              refine ⟨_, rfl, ?_⟩
              refine hK.out _ _ (hw405.below hbw408) (fun hw408 => ?_)
              clear hK K
              try simp only [Act.put, List.setIfInBounds_toArray, List.set_cons_zero, List.set_cons_succ]
              refine wpAnyH_ready (rs := [14]) (by kernel_rfl) (by decide) ?_
              refine AllReadyH.cons rfl (fun K hK => ?_) AllReadyH.nil
              refine step_call (some 169) (by kernel_rfl) (by kernel_rfl) _ _ (by kernel_rfl) _ (HSW.out P1 P2 e1 e2 (Nat.le_trans hlp1 hmp1) _ (Fx.r0 ex409) (Fx.r0 ex410)) ?_
              rintro e w411 ⟨rfl, hbw411⟩
              have ex412 := ex409.below hbw411
              have ex413 := ex410.below hbw411
              refine ⟨_, rfl, ?_⟩
              refine hK.out _ _ (hw408.below hbw411) (fun hw411 => ?_)
              clear hK K
              try simp only [Act.put, List.setIfInBounds_toArray, List.set_cons_zero, List.set_cons_succ]
              refine held_v 15 (some 170) rfl (by kernel_rfl) (by kernel_rfl) (by kernel_rfl) (by kernel_rfl) (fun c a v w h => HQ2.out c a _ v w h) (by kernel_rfl) (.bool false) (fun W h => by kernel_rfl) hw411 ?_
              try simp only [Act.put, List.setIfInBounds_toArray, List.set_cons_zero, List.set_cons_succ]
              refine wpAnyH_done (by kernel_rfl) ?_ _
              refine HQ1.out _ _ ?_
              clear HQ1 HQ2
              go_wp2
              go_roundw
              case rel => exact ⟨j + 1, by omega, by go_num, hw411.2.2⟩
              case measure => simp [intOf]; omega
            · have hji2 : i = j := by omega
              go_wp2
              go_roundw
              case rel => exact ⟨i + 1, by omega, by go_num, G5.out⟩
              case measure => simp [intOf]; omega
        · have hin : n = i := by omega
          go_wp2
          go_ret
          exact ⟨rfl, (Fx.e5 G8.out)⟩


set_option maxRecDepth 100000 in
theorem lifted (os : Os) (started : os.Started) (H : Type) (enc : TypeId × Value → H) :
    ReturnsInHanded {} Tryz.checked os 4 .any (fun w args => (Rows.wholeAliasSpec.pre enc Tryz.prog Tryz.f4 [] false w args ∧ laidMetH Tryz.prog laidK w) ∧ sizedMet enc Tryz.prog Tryz.f4 (OpenSpec.ofChange Rows.wholeAliasSpec) false w args) (Rows.wholeAliasSpec.post enc Tryz.prog Tryz.f4 false true false false) := by
  refine returnsInHanded_of_change_and (C := Tryz.checked) (X := fun w _ => laidMetH Tryz.prog laidK w) (fun _ _ _ hh h => h.of_heap hh) own started (by kernel_rfl) Tryz.func4
    (ChangeSpec.witness_shaped (enc := enc) (C := Tryz.checked) (os := os) (X := fun w _ => laidMetH Tryz.prog laidK w) false (World.doorLaid Tryz.prog 400 os) #[.slice none 0 0, .int .u8 0] 8 rfl (World.shaped_of_RefB (by kernel_rfl) (by kernel_rfl)) (by kernel_rfl) (by kernel_rfl) (by kernel_rfl) (door_met os _)) ?_
  intro W base args ds gs before hval0 hW _ _ hL _
  have hval : ∀ (j : Nat) t v, Tryz.f4.params[j]? = some t → args[j]? = some v → Value.okWide Tryz.prog W .any base t v := hval0
  have hW' := hW
  obtain ⟨p, q, hA0, hV, rfl, hfz, hnd⟩ := hW
  have hA : DataW.TrodAll enc Tryz.prog W 0 (fun _ => true) true Tryz.f4.params.toList args.toList ds p := hA0
  rw [Tryz.params4] at hA hval
  obtain ⟨v0, vs0, d0, ds0, p0, q0, hargs, rfl, rfl, h0, r0⟩ := trodAll_cons hA
  obtain ⟨v1, vs1, d1, ds1, p1, q1, rfl, rfl, rfl, h1, r1⟩ := trodAll_cons r0
  obtain ⟨rfl, rfl, rfl⟩ := trodAll_nil r1
  obtain rfl : args = #[v0, v1] := by cases args; simp_all
  obtain ⟨rfl, rfl⟩ := trodVars_none hV
  obtain ⟨a0, n0, c0, rfl⟩ := okWide_slice Tryz.underlying22 (hval 0 22 v0 rfl rfl)
  have k0 := h0
  have lt0 : ∀ x ∈ p0, x.block < W.heap.size := by obtain ⟨m, hm⟩ := k0; exact DataW.trod_lt m _ _ _ hm
  obtain ⟨z0, rd0, lc0, cm0, w0⟩ := open_rd Tryz.underlying22 Tryz.underlying24 (by kernel_rfl) h0
  obtain ⟨a1, rfl, rfl, rfl, w1⟩ := open_int Tryz.underlying5 (hval 1 5 v1 rfl rfl) h1
  clear hA0 hval0
  refine (walk a0 n0 c0 z0 a1 W rd0 lc0 cm0 w0 w1 (kst_of_laid hL)).mono fun e W' ⟨he, bel⟩ => ?_
  subst he
  exact ⟨_, rfl, _, _, _, [], _, [], hW', trodAll_mk1 (shut_bool Tryz.underlying4 _), (trodAll_cons_mk (Below.trod laidOut (by kernel_rfl) (of_decide_eq_true (by kernel_rfl)) k0 bel lt0) (trodAll_cons_mk (shut_int Tryz.underlying5 w1) trodAll_mk0)), rfl, bel.frame _, fun h => by cases h⟩

theorem over : Rows.wholeAliasRow.holds Tryz.pinned (OpenSpec.ofChange Rows.wholeAliasSpec) :=
  OpenClaim.holds_of_wide 4 Tryz.f4 rfl rfl rfl rfl rfl rfl rfl ⟨rfl, rfl, rfl, rfl, rfl⟩ rfl rfl rfl rfl rfl (by kernel_rfl) Tryz.func4 (by kernel_rfl)
    (of_decide_eq_true (by kernel_rfl)) (by unfold Func.isWrapper; first | (rw [if_pos (by decide +kernel)]; kernel_rfl) | (rw [if_neg (by decide +kernel)]; exact ⟨rfl, rfl⟩))
    (fun os started H enc _ => lifted os started H enc)

end Go.Proofs.YtkhlkggdibaefaaGreatDoor.wholeAlias
namespace Go.Proofs.YtkhlkggdibaefaaGreatDoor
theorem wholeAlias_holds : Rows.WholeAliasCardSaid :=
  Claim7.holds_tied_plain_at .later [] kindsK true _ false
    wholeAlias.over (fun _ h => by cases h) (by kernel_rfl) (fun _ h => by cases h) wholeAlias_row_tie rfl ⟨rfl, rfl⟩ (by kernel_rfl) rfl
    (fun f fn hf hfn => by
      obtain rfl : f = 4 := Option.some.inj ((show Tryz.prog.funcNamed "drawlot/drawlottop.WholeAlias" = some 4 by kernel_rfl).symm.trans hf) |>.symm
      obtain rfl : fn = Tryz.f4 := (Option.some.inj (Tryz.func4.symm.trans hfn)).symm
      exact ⟨by kernel_rfl, fun j t ht => by
        rw [Tryz.params4] at ht
        have hm : t ∈ [22, 5] := by simpa using Array.mem_of_getElem? ht
        have hall : ([22, 5].all fun u => !Tryz.prog.wantsStandIn u) = true := by kernel_rfl
        exact (show Tryz.prog.wantsStandIn t = false by simpa using List.all_eq_true.1 hall t hm)⟩)
    (by kernel_rfl)
#print axioms wholeAlias_holds
end Go.Proofs.YtkhlkggdibaefaaGreatDoor

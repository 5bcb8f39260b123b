/-
  Each ticket's owner in the tree is that of a linear scan; of all numbers of the table each place owns as many times its stake as there are places; of up to 20 stakes below 40.
  Conditions: the program's tables read, when the call begins, as its text lays them (the card ties that).
-/
import Derived.Test.YtkhlkggdibaefaaGreatDoorJGf
import Derived.BigQuiet
import Derived.ShutString
import Derived.Test.YtkhlkggdibaefaaGreatDoorTie
import Derived.Test.YtkhlkggdibaefaaGreatDoorCards
import Derived.SevenTiedAt
import Derived.ChangeOld
namespace Go.Proofs.YtkhlkggdibaefaaGreatDoor.wholeTickets
open Go.ChangeShapes Go.WideShapes Go.ChangeAt Go.RowKit
set_option linter.unusedVariables false
set_option linter.unusedSimpArgs false
set_option maxRecDepth 100000

theorem own : ownKnob Tryz.prog.godebug = none := by kernel_rfl
theorem laidOut : laidOutB Tryz.prog = true := by kernel_rfl

set_option maxHeartbeats 16000000 in
theorem walk (a0 : Option Addr) (n c : Nat) (zs : List Int) (w : World) (hrd : Rd .u64 w w.heap.size a0 n zs) (lc : n ≤ c) (cm : c ≤ maxLen) (hw : ∀ z ∈ zs, (Lit.int .u64 z).wf = true) (hkst : Kst w) :
    Calls Tryz.prog 5 #[.slice a0 n c] w fun e w' => e = .returned (.bool true) ∧ Below w.heap.size w w' := by
  obtain ⟨ti, hti, hz0, hz1, hzb⟩ := info_parts info_u64d
  have HKS := Lib.hid hkst
  have G0 : Hid (Fx [.rdb .u64 w.heap.size a0 n zs, .bel w] w) := Lib.hid ⟨⟨hrd, Nat.le_refl _⟩, Below.refl _ _, trivial⟩
  have hlen := hrd.len
  have hz : ∀ z ∈ zs, 0 ≤ z ∧ z < 18446744073709551616 := fun z h => by
    obtain ⟨h1, h2⟩ := bounds_u64 (hw z h)
    omega
  have hcm : (c : Int) ≤ 9223372036854775807 := by unfold maxLen at cm; omega
  have hncI : (n : Int) ≤ (c : Int) := by omega
  by_cases hg : 20 < n
  · have hg2 : (20 : Int) < (n : Int) := by omega
    clear hrd hw hz hg hkst lc cm
    go_enter Tryz.func5, Tryz.ntmps5
    go_wp2_with (first
      | (go_at_call 9; (with_reducible refine (aliveT_c _ (HKS.out.below (Fx.e1 G0.out))).mono ?_); rintro e w1 ⟨rfl, hbw1⟩; have G2 := Lib.hid (Fx.below G0.out hbw1); clear G0; clear hbw1))
    go_ret
    exact ⟨rfl, (Fx.e1 G2.out)⟩
  have hg2 : (n : Int) ≤ 20 := by omega
  have hsm := fun W h => small_c zs a0 n c (by omega) hcm lc hz 40 (by omega) (by omega) W h
  unfold RetSm at hsm
  have hS : ∀ z ∈ smlL 40 zs, 0 ≤ z ∧ z < 40 := smlL_in (by omega)
  have hlS : (smlL 40 zs).length = n := (smlL_len 40 zs).trans hlen
  have hsum := smlL_sum (b := 40) (by omega) (l := zs) n (by omega)
  rw [List.take_of_length_le (by omega)] at hsum
  obtain ⟨S, hSS⟩ : ∃ S, smlL 40 zs = S := ⟨_, rfl⟩
  rw [hSS] at hsm hS hlS hsum
  have HS0 : Hid (∀ z ∈ S, 0 ≤ z) := Lib.hid (fun z h => (hS z h).1)
  have HS1 : Hid (∀ z ∈ S, 0 ≤ z ∧ z < 18446744073709551616) := Lib.hid (fun z h => by have := hS z h; omega)
  have HLS := Lib.hid hlS
  have hss : sumL S < 9223372036854775808 := by omega
  have e := bldE_ok (l := S) (by omega) hss
  have hbu := fun A c W hT h => calls_fen (q11build_c S HS1.out A n c (by unfold maxLen; omega) W hT h) e.2 e.1 ((treeL_len S).trans hlS)
  have hpr : (n : Int) * sumL S ≤ 20 * 800 := Int.mul_le_mul (by omega) (by omega) hsum.1 (by omega)
  have heq : tbE S = 0 ↔ 0 < sumL S := by
    rw [tbE_iff, hlS]
    constructor
    · rintro ⟨-, -, h3, -⟩; omega
    · intro h
      refine ⟨fun h0 => ?_, hss, by omega, by omega⟩
      rw [h0] at hlS
      rw [List.length_eq_zero_iff.1 hlS] at h
      exact absurd h (by simp [sumL])
  have h10 : tbE S ≠ 0 → tbE S = 10 := fun he => by
    unfold tbE at he ⊢
    rw [hlS] at he ⊢
    by_cases e1 : n = 0
    · rw [if_pos e1]
    · rw [if_neg e1, if_pos hss] at he ⊢
      by_cases e2 : sumL S = 0
      · rw [if_pos e2]
      · rw [if_neg e2, if_pos (by omega)] at he
        exact absurd rfl he
  by_cases he : tbE S = 0
  case neg =>
    obtain ⟨e1, e2⟩ := tb_no he
    have hs0 : sumL S = 0 := by have h1 := hsum.1; have h2 : ¬ 0 < sumL S := fun h => he (heq.2 h); omega
    rw [hs0] at hsm
    have HSM := Lib.hid hsm
    have HBU := Lib.hid hbu
    have HTB := Lib.hid (fun A c W h => calls_tab (q14build_c S HS1.out A n c (by omega) W h) e1 e2 (h10 he) (congrArg List.length e2))
    clear e1 e2 he hg hrd hw hz lc cm hsm hS hlS hsum hSS hss e hbu hpr heq h10 hkst hs0 hlen
    go_enter Tryz.func5, Tryz.ntmps5
    go_wp2_with (first
      | (go_at_call 9; (with_reducible refine (aliveT_c _ (HKS.out.below (Fx.e1 G0.out))).mono ?_); rintro e w1 ⟨rfl, hbw1⟩; have G2 := Lib.hid (Fx.below G0.out hbw1); clear G0; clear hbw1)
      | (go_at_call 10; (with_reducible refine (HSM.out _ (Fx.r0 G2.out)).mono ?_); rintro e w3 ⟨A4, c5, rfl, hrw3, hlw3, hmw3, hbw3⟩; have lc5 := Lib.hid hlw3; have mc5 := Lib.hid hmw3; have G6 := Lib.hid (Fx.addR G2.out hbw3 hrw3); clear G2; clear hrw3 hbw3 hlw3 hmw3)
      | (go_at_call 13; (with_reducible refine (HBU.out _ _ _ (Kst.tz (HKS.out.below (Fx.e2 G6.out))) (Fx.r0 G6.out)).mono ?_); rintro e w7 ⟨A8, c9, rfl, hrw7, hlw7, hmw7, hbw7⟩; have lc9 := Lib.hid hlw7; have mc9 := Lib.hid hmw7; have G10 := Lib.hid (Fx.addR G6.out hbw7 hrw7); clear G6; clear hrw7 hbw7 hlw7 hmw7)
      | (with_reducible refine at_any ?_; refine at_dst 5 rfl ?_; refine wpList_alloc_any rfl 32 rfl #[.slice none 0 0] zero_fen ?_; intro w11 hkw11 hsw11 hbw11; have U12 := Lib.hid (Fx.under_new G10.out rfl); have G13 := Lib.hid (Fx.newB G10.out hkw11.out hbw11); clear G10; clear hkw11 hsw11 hbw11)
      | (with_reducible refine at_any ?_; refine at_store 5 rfl ?_; refine wpList_store_any rfl 32 (.tmp 5) (.tmp 32) rfl w7.heap.size rfl 32 #[.slice none 0 0] (#[.slice A8 n c9]) (Fx.b0 G13.out) rfl (size1 _ _) (sizedF _) (fen_ones _ _ _) ?_; intro w14 hkw14 hsw14 hbw14 how14; have G15 := Lib.hid (Fx.put1B G13.out U12.out hkw14.out hsw14.out hbw14 how14); clear G13; clear hkw14 hsw14 hbw14 how14)
      | (go_at_call 21; (with_reducible refine (HTB.out _ _ _ (Fx.r2 G15.out)).mono ?_); rintro e w16 ⟨A17, c18, rfl, hrw16, hlw16, hmw16, hbw16⟩; have lc18 := Lib.hid hlw16; have mc18 := Lib.hid hmw16; have G19 := Lib.hid (Fx.addP G15.out hbw16 hrw16); clear G15; clear hrw16 hbw16 hlw16 hmw16)
      | (with_reducible refine at_any ?_; refine at_dst 7 rfl ?_; refine wpList_alloc_any rfl 54 rfl #[.int .u64 0, .slice none 0 0] zero_tabL ?_; intro w20 hkw20 hsw20 hbw20; have U21 := Lib.hid (Fx.under_new G19.out rfl); have G22 := Lib.hid (Fx.newB G19.out hkw20.out hbw20); clear G19; clear hkw20 hsw20 hbw20)
      | (with_reducible refine at_any ?_; refine at_store 7 rfl ?_; refine wpList_store_any rfl 54 (.tmp 7) (.tmp 37) rfl w16.heap.size rfl 54 #[.int .u64 0, .slice none 0 0] (#[.int .u64 0, .slice A17 0 c18]) (Fx.b0 G22.out) rfl (sameT2 _ _ _ _) (sizedT _ _) (onesT _ _ _ _) ?_; intro w23 hkw23 hsw23 hbw23 how23; have G24 := Lib.hid (Fx.put1B G22.out U21.out hkw23.out hsw23.out hbw23 how23); clear G22; clear hkw23 hsw23 hbw23 how23))
    go_loopw [9] (fun xx wr => xx = .int .u64 0 ∧ Fx [.blk w16.heap.size 54 (#[.int .u64 0, .slice A17 0 c18]), .kept w16.heap.size (fun W => RdPr .u64 .i64 W W.heap.size A17 0 []), .blk w7.heap.size 32 #[.slice A8 n c9], .rdb .u64 w7.heap.size A8 n (treeL S), .rdb .u64 w3.heap.size A4 n S, .rdb .u64 w.heap.size a0 n zs, .bel w] wr) (fun _ _ => 0)
    case atStart => exact ⟨rfl, G24.out⟩
    case round =>
      clear G24
      obtain ⟨rfl, hG⟩ := hrel
      have G9 := Lib.hid hG
      clear hG
      go_wp2
      go_ret
      exact ⟨rfl, (Fx.e6 G9.out)⟩
  have hpos := heq.1 he
  obtain ⟨i0, i1, -, i3⟩ := tb_in (l := S) HS0.out
  have hok := i3 (by rw [hlS]; omega)
  obtain ⟨l1, hr, hcut, ho⟩ := tb_right HS0.out he
  have e0 := (tb_abi HS0.out he).1
  rw [hlS] at l1 ho
  have n0 : 0 < n := by have := (tbE_iff.1 he).1; rw [hlS] at this; omega
  have hbt := fun A c W h => q14build_c S HS1.out A n c (by omega) W h
  have hof := fun (x : Int) (x0 : 0 ≤ x) (x1 : x < 18446744073709551616) A c (h1 : n ≤ c) (h2 : c ≤ maxLen) W hT h => q11owner_c S HS0.out hss (by omega) A n c hlS h1 h2 x x0 x1 W hT h
  have hos := fun (x : Int) (x0 : 0 ≤ x) (x1 : x < 18446744073709551616) A c W h => calls_val (q12owner_c S HS1.out A n c (by omega) x x0 x1 W h) (tup_ii (sco_ok x hss).1 (sco_ok x hss).2)
  have hown := fun (x : Int) (x0 : 0 ≤ x) (x1 : x < sumL S) => own_at HS0.out x0 x1
  obtain ⟨T, hT⟩ : ∃ x, tbT S = x := ⟨_, rfl⟩
  obtain ⟨ts, hts⟩ : ∃ x, tbC S = x := ⟨_, rfl⟩
  have htb := fun A c W h => calls_tab (hbt A c W h) hT hts he ((congrArg List.length hts).trans (hts ▸ l1))
  rw [hT] at i0 i1 hr ho e0
  rw [hts] at hok l1 hr hcut ho
  clear hbt hT
  obtain ⟨t, rfl⟩ := Int.eq_ofNat_of_zero_le i0
  rw [← e0] at hsm hown hpr hpos
  obtain ⟨K, hK⟩ : ∃ K : Nat, n * t = K := ⟨_, rfl⟩
  have hKi : (n : Int) * (t : Int) = (K : Int) := by rw [← hK, Int.natCast_mul]
  have how := fun (u : Int) (u0 : 0 ≤ u) (u1 : u < 18446744073709551616) A c (hc : n ≤ c) (hm : c ≤ maxLen) W h => q14owner_c (t : Int) i0 (by omega) ts hok A n c (by omega) hc hm W h u u0 u1
  have hcn : ∀ i : Nat, i < n → (cntL (t : Int) ts K).getD i 0 = (n : Int) * S.getD i 0 := fun i hi => by
    rw [cntL_at (by omega), ← hK]
    have := cnt_owns hr (fun k hk => hcut k (by rw [hlS]; omega)) (i : Int) n (by omega)
    rw [this, ho i hi]
  have hoi : ∀ u : Nat, u < K → ∃ o : Nat, o < n ∧ owV (t : Int) ts (u : Int) = (o : Int) ∧ owE (t : Int) ts (u : Int) = 0 := fun u hu => by
    have := ow_in (u := (u : Int)) hr (by omega) (by rw [l1, hKi]; omega)
    rwa [l1] at this
  have hk1 : (K : Int) ≤ 16000 := by rw [← hKi]; exact hpr
  have ht1 : (t : Int) ≤ 800 := by omega
  have hpx : ∀ i, i < n → 0 ≤ S.getD i 0 ∧ S.getD i 0 < 18446744073709551616 := fun i hi => HS1.out _ (getD_in (by rw [hlS]; exact hi))
  obtain ⟨TF, hTF⟩ : ∃ x, treeL S = x := ⟨_, rfl⟩
  rw [hTF] at hbu hof
  have HSM := Lib.hid hsm
  have HBU := Lib.hid hbu
  have HTB := Lib.hid htb
  have HOF := Lib.hid hof
  have HOS := Lib.hid hos
  have HON := Lib.hid hown
  have HOW := Lib.hid how
  have HCN := Lib.hid hcn
  have HOI := Lib.hid hoi
  have HPX := Lib.hid hpx
  have HL1 := Lib.hid l1
  have hwr : IntKind.u64.wrap ((n : Int) * (t : Int)) = (K : Int) := by rw [hKi, IntKind.wrap_u64]; omega
  have hwn : IntKind.u64.wrap (n : Int) = (n : Int) := by rw [IntKind.wrap_u64]; omega
  have tpos : (0 : Int) < (t : Int) := hpos
  have tposN : 0 < t := by omega
  have t2 : (!decide (0 < t)) = false := by rw [decide_eq_true tposN]; rfl
  have hmk : ∀ W, (Instr.makeSlice 22 (.int .i64 (n : Int)) (.int .i64 (n : Int))).run Tryz.prog W = .ok (.slice (some ⟨W.heap.size, 0, none⟩) n n) (W.alloc (.cells (intsA .u64 (List.replicate n 0)) 24)) := fun W => run_make_ints (P := Tryz.prog) 22 24 ti .u64 Tryz.underlying22 hti hz0 hz1 .i64 .i64 n (by rw [hzb]; omega) (by omega) W
  clear hsm hbu htb hof hos hown how hcn hoi hpx hok l1 hr hcut ho hK hKi e0 hts he hg i0 i1 i3 hrd hw hz lc cm hS hlS hsum hSS hss e hpr heq h10 hkst hlen hpos hTF hti hz0 hz1 hzb
  go_enter Tryz.func5, Tryz.ntmps5
  go_wp2_with (first
    | (go_at_call 9; (with_reducible refine (aliveT_c _ (HKS.out.below (Fx.e1 G0.out))).mono ?_); rintro e w1 ⟨rfl, hbw1⟩; have G2 := Lib.hid (Fx.below G0.out hbw1); clear G0; clear hbw1)
    | (go_at_call 10; (with_reducible refine (HSM.out _ (Fx.r0 G2.out)).mono ?_); rintro e w3 ⟨A4, c5, rfl, hrw3, hlw3, hmw3, hbw3⟩; have lc5 := Lib.hid hlw3; have mc5 := Lib.hid hmw3; have G6 := Lib.hid (Fx.addR G2.out hbw3 hrw3); clear G2; clear hrw3 hbw3 hlw3 hmw3)
    | (go_at_call 13; (with_reducible refine (HBU.out _ _ _ (Kst.tz (HKS.out.below (Fx.e2 G6.out))) (Fx.r0 G6.out)).mono ?_); rintro e w7 ⟨A8, c9, rfl, hrw7, hlw7, hmw7, hbw7⟩; have lc9 := Lib.hid hlw7; have mc9 := Lib.hid hmw7; have G10 := Lib.hid (Fx.addR G6.out hbw7 hrw7); clear G6; clear hrw7 hbw7 hlw7 hmw7)
    | (with_reducible refine at_any ?_; refine at_dst 5 rfl ?_; refine wpList_alloc_any rfl 32 rfl #[.slice none 0 0] zero_fen ?_; intro w11 hkw11 hsw11 hbw11; have U12 := Lib.hid (Fx.under_new G10.out rfl); have G13 := Lib.hid (Fx.newB G10.out hkw11.out hbw11); clear G10; clear hkw11 hsw11 hbw11)
    | (with_reducible refine at_any ?_; refine at_store 5 rfl ?_; refine wpList_store_any rfl 32 (.tmp 5) (.tmp 32) rfl w7.heap.size rfl 32 #[.slice none 0 0] (#[.slice A8 n c9]) (Fx.b0 G13.out) rfl (size1 _ _) (sizedF _) (fen_ones _ _ _) ?_; intro w14 hkw14 hsw14 hbw14 how14; have G15 := Lib.hid (Fx.put1B G13.out U12.out hkw14.out hsw14.out hbw14 how14); clear G13; clear hkw14 hsw14 hbw14 how14)
    | (go_at_call 21; (with_reducible refine (HTB.out _ _ _ (Fx.r2 G15.out)).mono ?_); rintro e w16 ⟨A17, c18, rfl, hrw16, hlw16, hmw16, hbw16⟩; have lc18 := Lib.hid hlw16; have mc18 := Lib.hid hmw16; have G19 := Lib.hid (Fx.addP G15.out hbw16 hrw16); clear G15; clear hrw16 hbw16 hlw16 hmw16)
    | (with_reducible refine at_any ?_; refine at_dst 7 rfl ?_; refine wpList_alloc_any rfl 54 rfl #[.int .u64 0, .slice none 0 0] zero_tabL ?_; intro w20 hkw20 hsw20 hbw20; have U21 := Lib.hid (Fx.under_new G19.out rfl); have G22 := Lib.hid (Fx.newB G19.out hkw20.out hbw20); clear G19; clear hkw20 hsw20 hbw20)
    | (with_reducible refine at_any ?_; refine at_store 7 rfl ?_; refine wpList_store_any rfl 54 (.tmp 7) (.tmp 37) rfl w16.heap.size rfl 54 #[.int .u64 0, .slice none 0 0] (#[.int .u64 (t : Int), .slice A17 n c18]) (Fx.b0 G22.out) rfl (sameT2 _ _ _ _) (sizedT _ _) (onesT _ _ _ _) ?_; intro w23 hkw23 hsw23 hbw23 how23; have G24 := Lib.hid (Fx.put1B G22.out U21.out hkw23.out hsw23.out hbw23 how23); clear G22; clear hkw23 hsw23 hbw23 how23))
  go_loopw [9] (fun xx wr => ∃ x : Nat, x ≤ t ∧ xx = .int .u64 (x : Int) ∧ Fx [.blk w16.heap.size 54 (#[.int .u64 (t : Int), .slice A17 n c18]), .kept w16.heap.size (fun W => RdPr .u64 .i64 W W.heap.size A17 n ts), .blk w7.heap.size 32 #[.slice A8 n c9], .rdb .u64 w7.heap.size A8 n TF, .rdb .u64 w3.heap.size A4 n S, .rdb .u64 w.heap.size a0 n zs, .bel w] wr) (fun xx _ => t - (intOf xx).toNat)
  case atStart => exact ⟨0, by omega, rfl, G24.out⟩
  case round =>
    clear G24
    obtain ⟨x, hx, rfl, hG⟩ := hrel
    have G9 := Lib.hid hG
    clear hG
    by_cases hlt : x < t
    · have hlt2 : (x : Int) < (t : Int) := by omega
      obtain ⟨o, ho1, ho2, ho3, -, -⟩ := HON.out (x : Int) (by omega) hlt2
      have HO := Lib.hid (fun A c h1 h2 W hT h => calls_val (HOF.out (x : Int) (by omega) (by omega) A c h1 h2 W hT h) (tup_ii ho2 ho3))
      have HC := Lib.hid (fun A c W h => calls_val (HOS.out (x : Int) (by omega) (by omega) A c W h) (tup_ii ho2 ho3))
      have t1 : ((o : Int) != (o : Int)) = false := by simp
      clear ho1 ho2 ho3 hmk
      go_wp2_with (first
        | (with_reducible refine at_any ?_; refine at_dst 54 rfl ?_; refine wpList_load_fen (by kernel_rfl) (.tmp 5) rfl w7.heap.size rfl 32 (.slice A8 n c9) (Fx.b2 G9.out) ?_)
        | (go_at_call 25; (with_reducible refine (HO.out _ _ lc9.out mc9.out _ (Kst.tz (HKS.out.below (Fx.e6 G9.out))) (Fx.r3 G9.out)).mono ?_); rintro e w301 ⟨rfl, hbw301⟩; have G302 := Lib.hid (Fx.below G9.out hbw301); clear G9; clear hbw301)
        | (go_at_call 26; (with_reducible refine (HC.out _ _ _ (Fx.r4 G302.out)).mono ?_); rintro e w303 ⟨rfl, hbw303⟩; have G304 := Lib.hid (Fx.below G302.out hbw303); clear G302; clear hbw303))
      go_roundw
      case rel => exact ⟨x + 1, by omega, by go_num, G304.out⟩
      case measure => simp [intOf]; omega
    · have hxt : t = x := by omega
      subst hxt
      clear hlt hx
      go_wp2
      clear hmk
      obtain ⟨go, hgo⟩ : ∃ g, wr.heap.size = g := ⟨_, rfl⟩
      have hnew : Fx [.blk wr.heap.size 24 (intsA .u64 (List.replicate n 0)), .blk w16.heap.size 54 (#[.int .u64 (t : Int), .slice A17 n c18]), .kept w16.heap.size (fun W => RdPr .u64 .i64 W W.heap.size A17 n ts), .blk w7.heap.size 32 #[.slice A8 n c9], .rdb .u64 w7.heap.size A8 n TF, .rdb .u64 w3.heap.size A4 n S, .rdb .u64 w.heap.size a0 n zs, .bel w] (wr.alloc (.cells (intsA .u64 (List.replicate n 0)) 24)) := Fx.newB G9.out (Blk.new _ _ _) ((Below.refl _ _).alloc (Nat.le_refl _) _)
      have HU : Hid (Fx.under wr.heap.size [.blk w16.heap.size 54 (#[.int .u64 (t : Int), .slice A17 n c18]), .kept w16.heap.size (fun W => RdPr .u64 .i64 W W.heap.size A17 n ts), .blk w7.heap.size 32 #[.slice A8 n c9], .rdb .u64 w7.heap.size A8 n TF, .rdb .u64 w3.heap.size A4 n S, .rdb .u64 w.heap.size a0 n zs, .bel w]) := Lib.hid (Fx.under_new G9.out rfl)
      rw [hgo] at hnew HU
      rw [hgo]
      obtain ⟨wo, hwo⟩ : ∃ wo, wr.alloc (.cells (intsA .u64 (List.replicate n 0)) 24) = wo := ⟨_, rfl⟩
      rw [hwo] at hnew ⊢
      rw [← HL1.out, ← cntL_zero (t : Int) ts, HL1.out] at hnew
      have HNEW := Lib.hid hnew
      clear hnew hwo hgo G9
      go_loopw [15] (fun uu wr => ∃ u : Nat, u ≤ K ∧ uu = .int .u64 (u : Int) ∧ Fx [.blk go 24 (intsA .u64 (cntL (t : Int) ts u)), .blk w16.heap.size 54 (#[.int .u64 (t : Int), .slice A17 n c18]), .kept w16.heap.size (fun W => RdPr .u64 .i64 W W.heap.size A17 n ts), .blk w7.heap.size 32 #[.slice A8 n c9], .rdb .u64 w7.heap.size A8 n TF, .rdb .u64 w3.heap.size A4 n S, .rdb .u64 w.heap.size a0 n zs, .bel w] wr) (fun uu _ => K - (intOf uu).toNat)
      case atStart => exact ⟨0, by omega, rfl, HNEW.out⟩
      case round =>
        clear HNEW
        obtain ⟨u, hu, rfl, hG⟩ := hrel
        have G9 := Lib.hid hG
        clear hG
        by_cases hlt : u < K
        · have hlt2 : (u : Int) < (K : Int) := by omega
          obtain ⟨o, ho1, ho2, ho3⟩ := HOI.out u hlt
          have HO := Lib.hid (fun A c hc hm W h => calls_val (HOW.out (u : Int) (by omega) (by omega) A c hc hm W h) (tup_ii ho2 ho3))
          have hnx := cntL_next (T := (t : Int)) (ts := ts) (by rw [HL1.out]; exact ho1) ho2
          have hyb := cntI_in (t : Int) ts (o : Int) u
          rw [← cntL_at (i := o) (by rw [HL1.out]; exact ho1)] at hyb
          obtain ⟨y, hy⟩ : ∃ y, (cntL (t : Int) ts u).getD o 0 = y := ⟨_, rfl⟩
          rw [hy] at hnx hyb
          have y0 : 0 ≤ y := hyb.1
          have y1 : y ≤ 16000 := by have := hyb.2; omega
          have HY := Lib.hid hy
          have HOL : Hid (o < (cntL (t : Int) ts u).length) := Lib.hid (by rw [cntL_len, HL1.out]; exact ho1)
          have HSI : Hid (o < (intsA .u64 (cntL (t : Int) ts u)).size) := Lib.hid (by rw [intsA_size, cntL_len, HL1.out]; exact ho1)
          have HNX : Hid ((intsA .u64 (cntL (t : Int) ts u)).setIfInBounds o (.int .u64 (y + 1)) = intsA .u64 (cntL (t : Int) ts (u + 1))) := Lib.hid (by rw [intsA_put, hnx])
          have hon : (o : Int) < (n : Int) := by omega
          have ho0 : (0 : Int) ≤ (o : Int) := by omega
          clear ho1 ho2 ho3 hnx hyb hy
          go_wp2_with (first
            | (with_reducible refine at_any ?_; refine at_dst 91 rfl ?_; refine wpList_load_tab (by kernel_rfl) (.tmp 7) rfl w16.heap.size rfl 54 (.int .u64 (t : Int)) (.slice A17 n c18) (Fx.b1 G9.out) ?_)
            | (go_at_call 27; (with_reducible refine (HO.out _ _ lc18.out mc18.out _ (Fx.k2 G9.out)).mono ?_); rintro e w201 ⟨rfl, hbw201⟩; have G202 := Lib.hid (Fx.below G9.out hbw201); clear G9; clear hbw201; have cz := Fx.at0 G202.out o y HOL.out HY.out)
            | (with_reducible refine at_any ?_; refine at_store 113 rfl ?_; refine wpList_store_cell_any rfl 24 (.tmp 113) (.tmp 112) rfl go o rfl 24 (intsA .u64 (cntL (t : Int) ts u)) (Fx.b0 G202.out) (.int .u64 (y + 1)) rfl HSI.out size_u64l rfl rfl ?_; intro w290 hk290 hs290 hb290 ho290; rw [HNX.out] at hk290; have G290 := Lib.hid (Fx.put1B G202.out HU.out hk290.out hs290.out hb290 ho290); clear G202; clear hk290 hs290 hb290 ho290))
          go_roundw
          case rel => exact ⟨u + 1, by omega, by go_num, G290.out⟩
          case measure => simp [intOf]; omega
        · have hut : K = u := by omega
          subst hut
          clear hlt hu
          go_wp2
          go_loopw [18] (fun ii wr => ∃ i : Nat, i ≤ n ∧ ii = .int .i64 (i : Int) ∧ Fx [.blk go 24 (intsA .u64 (cntL (t : Int) ts K)), .blk w16.heap.size 54 (#[.int .u64 (t : Int), .slice A17 n c18]), .kept w16.heap.size (fun W => RdPr .u64 .i64 W W.heap.size A17 n ts), .blk w7.heap.size 32 #[.slice A8 n c9], .rdb .u64 w7.heap.size A8 n TF, .rdb .u64 w3.heap.size A4 n S, .rdb .u64 w.heap.size a0 n zs, .bel w] wr) (fun ii _ => n - (intOf ii).toNat)
          case atStart => exact ⟨0, by omega, rfl, G9.out⟩
          case round =>
            clear G9
            obtain ⟨i, hi, rfl, hG⟩ := hrel
            have G9 := Lib.hid hG
            clear hG
            by_cases hlt : i < n
            · obtain ⟨b2, o2, e2, -, hc2⟩ := (Fx.r5 G9.out).at_ (show 0 < n by omega)
              have hk2 := hc2 i hlt
              have hcn := HCN.out i hlt
              have hpx := HPX.out i hlt
              have hpn := cntI_in (t : Int) ts (i : Int) K
              rw [← cntL_at (i := i) (by rw [HL1.out]; exact hlt), hcn] at hpn
              obtain ⟨x, hx⟩ : ∃ x, S.getD i 0 = x := ⟨_, rfl⟩
              obtain ⟨p, hp⟩ : ∃ p, (n : Int) * x = p := ⟨_, rfl⟩
              rw [hx] at hk2 hcn hpx hpn
              rw [hp] at hcn hpn
              have hk1' := Fx.at0 G9.out i p (by rw [cntL_len, HL1.out]; exact hlt) hcn
              subst e2
              obtain ⟨x0, x1⟩ := hpx
              obtain ⟨p0, p1⟩ := hpn
              have hwr2 : IntKind.u64.wrap ((n : Int) * x) = p := by rw [hp, IntKind.wrap_u64]; omega
              have i0 : (0 : Int) ≤ (i : Int) := by omega
              have i1 : (i : Int) < (n : Int) := by omega
              have t1 : (p != p) = false := by simp
              clear hc2 hx hp hcn
              go_wp2
              go_quiet (fail)
              go_wp2
              go_roundw
              case rel => exact ⟨i + 1, by omega, by go_num, Fx.below G9.out (below_drewN (Below.refl _ _) _)⟩
              case measure => simp [intOf]; omega
            · have hin : n = i := by omega
              clear hi hlt
              go_wp2
              go_ret
              exact ⟨rfl, (Fx.e7 G9.out)⟩


set_option maxRecDepth 100000 in
theorem lifted (os : Os) (started : os.Started) (H : Type) (enc : TypeId × Value → H) :
    ReturnsInHanded {} Tryz.checked os 5 .any (fun w args => (Rows.wholeTicketsSpec.pre enc Tryz.prog Tryz.f5 [] false w args ∧ laidMetH Tryz.prog laidK w) ∧ sizedMet enc Tryz.prog Tryz.f5 (OpenSpec.ofChange Rows.wholeTicketsSpec) false w args) (Rows.wholeTicketsSpec.post enc Tryz.prog Tryz.f5 false true false false) := by
  refine returnsInHanded_of_change_and (C := Tryz.checked) (X := fun w _ => laidMetH Tryz.prog laidK w) (fun _ _ _ hh h => h.of_heap hh) own started (by kernel_rfl) Tryz.func5
    (ChangeSpec.witness_shaped (enc := enc) (C := Tryz.checked) (os := os) (X := fun w _ => laidMetH Tryz.prog laidK w) false (World.doorLaid Tryz.prog 400 os) #[.slice none 0 0] 8 rfl (World.shaped_of_RefB (by kernel_rfl) (by kernel_rfl)) (by kernel_rfl) (by kernel_rfl) (by kernel_rfl) (door_met os _)) ?_
  intro W base args ds gs before hval0 hW _ _ hL _
  have hval : ∀ (j : Nat) t v, Tryz.f5.params[j]? = some t → args[j]? = some v → Value.okWide Tryz.prog W .any base t v := hval0
  have hW' := hW
  obtain ⟨p, q, hA0, hV, rfl, hfz, hnd⟩ := hW
  have hA : DataW.TrodAll enc Tryz.prog W 0 (fun _ => true) true Tryz.f5.params.toList args.toList ds p := hA0
  rw [Tryz.params5] at hA hval
  obtain ⟨v0, vs0, d0, ds0, p0, q0, hargs, rfl, rfl, h0, r0⟩ := trodAll_cons hA
  obtain ⟨rfl, rfl, rfl⟩ := trodAll_nil r0
  obtain rfl : args = #[v0] := by cases args; simp_all
  obtain ⟨rfl, rfl⟩ := trodVars_none hV
  obtain ⟨a0, n0, c0, rfl⟩ := okWide_slice Tryz.underlying22 (hval 0 22 v0 rfl rfl)
  have k0 := h0
  have lt0 : ∀ x ∈ p0, x.block < W.heap.size := by obtain ⟨m, hm⟩ := k0; exact DataW.trod_lt m _ _ _ hm
  obtain ⟨z0, rd0, lc0, cm0, w0⟩ := open_rd Tryz.underlying22 Tryz.underlying24 (by kernel_rfl) h0
  clear hA0 hval0
  refine (walk a0 n0 c0 z0 W rd0 lc0 cm0 w0 (kst_of_laid hL)).mono fun e W' ⟨he, bel⟩ => ?_
  subst he
  exact ⟨_, rfl, _, _, _, [], _, [], hW', trodAll_mk1 (shut_bool Tryz.underlying4 _), (trodAll_cons_mk (Below.trod laidOut (by kernel_rfl) (of_decide_eq_true (by kernel_rfl)) k0 bel lt0) trodAll_mk0), rfl, bel.frame _, fun h => by cases h⟩

theorem over : Rows.wholeTicketsRow.holds Tryz.pinned (OpenSpec.ofChange Rows.wholeTicketsSpec) :=
  OpenClaim.holds_of_wide 5 Tryz.f5 rfl rfl rfl rfl rfl rfl rfl ⟨rfl, rfl, rfl, rfl, rfl⟩ rfl rfl rfl rfl rfl (by kernel_rfl) Tryz.func5 (by kernel_rfl)
    (of_decide_eq_true (by kernel_rfl)) (by unfold Func.isWrapper; first | (rw [if_pos (by decide +kernel)]; kernel_rfl) | (rw [if_neg (by decide +kernel)]; exact ⟨rfl, rfl⟩))
    (fun os started H enc _ => lifted os started H enc)

end Go.Proofs.YtkhlkggdibaefaaGreatDoor.wholeTickets
namespace Go.Proofs.YtkhlkggdibaefaaGreatDoor
theorem wholeTickets_holds : Rows.WholeTicketsCardSaid :=
  Claim7.holds_tied_plain_at .later [] kindsK true _ false
    wholeTickets.over (fun _ h => by cases h) (by kernel_rfl) (fun _ h => by cases h) wholeTickets_row_tie rfl ⟨rfl, rfl⟩ (by kernel_rfl) rfl
    (fun f fn hf hfn => by
      obtain rfl : f = 5 := Option.some.inj ((show Tryz.prog.funcNamed "drawlot/drawlottop.WholeTickets" = some 5 by kernel_rfl).symm.trans hf) |>.symm
      obtain rfl : fn = Tryz.f5 := (Option.some.inj (Tryz.func5.symm.trans hfn)).symm
      exact ⟨by kernel_rfl, fun j t ht => by
        rw [Tryz.params5] at ht
        have hm : t ∈ [22] := by simpa using Array.mem_of_getElem? ht
        have hall : ([22].all fun u => !Tryz.prog.wantsStandIn u) = true := by kernel_rfl
        exact (show Tryz.prog.wantsStandIn t = false by simpa using List.all_eq_true.1 hall t hm)⟩)
    (by kernel_rfl)
#print axioms wholeTickets_holds
end Go.Proofs.YtkhlkggdibaefaaGreatDoor

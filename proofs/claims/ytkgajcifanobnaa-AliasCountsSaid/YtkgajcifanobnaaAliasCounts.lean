/-
  Counted one by one each place owns just that; of up to 12 stakes below 20.
  Conditions: none.
-/
import Derived.Test.YtkgajcifanobnaaLawS
import Derived.Test.YtkgajcifanobnaaOpenA
import Derived.Test.YtkgajcifanobnaaTabC
import Derived.BigQuiet
import Derived.ShutString
import Derived.ChangeOld
namespace Go.Proofs.Ytkgajcifanobnaa.aliasCounts
open Go.ChangeShapes Go.WideShapes Go.ChangeAt Go.RowKit
set_option linter.unusedVariables false
set_option linter.unusedSimpArgs false
set_option maxRecDepth 100000

theorem own : ownKnob Try.prog.godebug = none := by kernel_rfl
theorem laidOut : laidOutB Try.prog = true := by kernel_rfl

set_option maxHeartbeats 8000000 in
theorem walk (a0 : Option Addr) (n c : Nat) (zs : List Int) (w : World) (hrd : Rd .u64 w w.heap.size a0 n zs) (lc : n ≤ c) (cm : c ≤ maxLen) (hw : ∀ z ∈ zs, (Lit.int .u64 z).wf = true) :
    Calls Try.prog 7 #[.slice a0 n c] w fun e w' => e = .returned (.bool true) ∧ Below w.heap.size w w' := by
  obtain ⟨ti, hti, hz0, hz1, hzb⟩ := info_parts info_u64d
  have HR := Lib.hid hrd
  have hlen := hrd.len
  have hnm : (n : Int) ≤ 9223372036854775807 := by unfold maxLen at cm; omega
  have HZ : Hid (∀ k, k < n → 0 ≤ zs.getD k 0 ∧ zs.getD k 0 < 18446744073709551616) := Lib.hid (fun k h => by
    obtain ⟨h1, h2⟩ := bounds_u64 (hw _ (getD_in (l := zs) (k := k) (by omega)))
    omega)
  have G0 : Hid (Fx [.rdb .u64 w.heap.size a0 n zs, .bel w] w) := Lib.hid ⟨⟨hrd, Nat.le_refl _⟩, Below.refl _ _, trivial⟩
  by_cases hg : 12 < n
  · have hg2 : (12 : Int) < (n : Int) := by omega
    clear hrd hw hg
    go_enter Try.func7, Try.ntmps7
    go_wp2_with (first
      | (go_at_call 8; (with_reducible refine (alive14_c _).mono ?_); rintro e w1 ⟨rfl, hbw1⟩; have G2 := Lib.hid (Fx.below G0.out hbw1); clear G0; clear hbw1))
    go_ret
    exact ⟨rfl, (Fx.e1 G2.out)⟩
  have hg2 : (n : Int) ≤ 12 := by omega
  have HTK := Lib.hid (fun i (h : i < n) => m20_take (l := zs) (i := i) (by omega))
  have hS : ∀ z ∈ m20 zs, 0 ≤ z ∧ z < 20 := m20_in
  have hlS : (m20 zs).length = n := (m20_len zs).trans hlen
  have hsum := m20_sum (l := zs) (by omega)
  rw [hlen] at hsum
  obtain ⟨S, hSS⟩ : ∃ S, m20 zs = S := ⟨_, rfl⟩
  rw [hSS] at HTK hS hlS hsum
  have HS0 : Hid (∀ z ∈ S, 0 ≤ z) := Lib.hid (fun z h => (hS z h).1)
  have HS1 : Hid (∀ z ∈ S, 0 ≤ z ∧ z < 18446744073709551616) := Lib.hid (fun z h => by have := hS z h; omega)
  have HLS := Lib.hid hlS
  have HSU := Lib.hid hsum
  have HLEN : Hid (∀ i, i ≤ n → (S.take i).length = i) := Lib.hid (fun i h => by rw [List.length_take]; omega)
  clear hrd hw hSS hS hlS lc cm hlen hsum G0
  go_enter Try.func7, Try.ntmps7
  go_wp2_with (go_at_call 8; (with_reducible refine (alive14_c _).mono ?_); rintro e w1 ⟨rfl, hb1⟩; have HB1 := Lib.hid hb1; have HR1A := Lib.hid ((HR.out.below hb1).mono hb1.size); clear hb1)
  go_loopw [3, 4] (fun v jj wr => ∃ j : Nat, j ≤ n ∧ jj = .int .i64 (j : Int) ∧ OwnI wr w1.heap.size 24 .u64 v (S.take j) ∧ Below w1.heap.size w1 wr) (fun _ jj _ => n - (intOf jj).toNat)
  case atStart => exact ⟨0, by omega, rfl, own_nil _ _ _, Below.refl _ _⟩
  case round =>
    obtain ⟨j, hj, rfl, hown, hb⟩ := hrel
    obtain ⟨A5, c5, rfl, hl5, hm5⟩ := hown.form
    rw [HLEN.out j hj] at hown hl5 ⊢
    by_cases hlt : j < n
    · have hlt2 : (j : Int) < (n : Int) := by omega
      obtain ⟨g, off, ha0, -, hc⟩ := ((HR1A.out.below hb).mono hb.size).at_ (by omega)
      subst ha0
      have hck := hc j (by omega)
      have htk := HTK.out j hlt
      have hzk := HZ.out j hlt
      obtain ⟨z, hz⟩ : ∃ z, zs.getD j 0 = z := ⟨_, rfl⟩
      rw [hz] at hck htk hzk
      obtain ⟨z00, z01⟩ := hzk
      have htm : z.tmod 20 = z % 20 := Int.tmod_eq_emod_of_nonneg z00
      obtain ⟨y, hy⟩ : ∃ y, z % 20 = y := ⟨_, rfl⟩
      rw [hy] at htm htk
      have HN2 := Lib.hid htk.symm
      have HON := Lib.hid hown
      have HBN := Lib.hid hb
      have HLJ := Lib.hid (HLEN.out j hj)
      have hj40 : j ≤ 12 := by omega
      clear hc htk hz hy hown hb
      go_wp2_with (first
        | (at_builtin; refine wpList_append_ints _ rfl (.tmp 23) (.tmp 29) 22 rfl w1.heap.size 24 ti _ 8 .u64 Try.underlying22 hti hz0 hz1 hzb rfl _ (S.take j) rfl (HON.out.alloc _) (wr.heap.size + 1) (some ⟨wr.heap.size, 0, none⟩) 1 1 [y] rfl (rd_one wr 24 .u64 y) (by rw [HLJ.out]; simp only [maxLen]; omega) (by rw [HLJ.out]; omega) (by have := HBN.out.size; simp; omega) ?_; intro v6 w6 hown6 hg6 hat6; have hb6 : Below w1.heap.size w1 w6 := (HON.out.alloc _).below_ (HBN.out.alloc HBN.out.size _) (by have := HBN.out.size; simp; omega) hg6; rw [HN2.out] at hown6; have HO6 := Lib.hid hown6; have HB6 := Lib.hid hb6; clear hown6 hg6 hat6 hb6))
      go_roundw
      case rel => exact ⟨j + 1, by omega, by go_num, HO6.out, HB6.out⟩
      case measure => simp [intOf]; omega
    · obtain rfl : j = n := by omega
      have HRS := hown.rd (HLEN.out _ (Nat.le_refl _))
      rw [show S.take j = S from List.take_of_length_le (by rw [HLS.out]; exact Nat.le_refl _)] at HRS
      obtain ⟨n, hn⟩ : ∃ n, n = j := ⟨_, rfl⟩
      subst hn
      obtain ⟨w2, hw2⟩ : ∃ w2, w2 = wr := ⟨_, rfl⟩
      subst hw2
      have G0 : Hid (Fx [.rdb .u64 w2.heap.size A5 n S, .bel w] w2) := Lib.hid ⟨⟨HRS, Nat.le_refl _⟩, HB1.out.trans (hb.mono HB1.out.size), trivial⟩
      clear hown hb hl5 hm5 hlt hj HRS HTK HZ HR HR1A HB1
      by_cases he : tbE S = 0
      case neg =>
        obtain ⟨e1, e2⟩ := tb_no he
        have H1 := Lib.hid (fun A c W h => calls_tab (q14build_c S HS1.out A n c (by omega) W h) e1 e2 (HSU.out.2.2.2 he) (congrArg List.length e2))
        clear e1 e2 he hg
        go_wp2_with (first
          | (go_at_call 9; (with_reducible refine (H1.out _ _ _ (Fx.r0 G0.out)).mono ?_); rintro e w101 ⟨A102, c103, rfl, hrw101, hlw101, hmw101, hbw101⟩; have lc103 := Lib.hid hlw101; have mc103 := Lib.hid hmw101; have G104 := Lib.hid (Fx.addP G0.out hbw101 hrw101); clear G0; clear hrw101 hbw101 hlw101 hmw101)
          | (with_reducible refine at_any ?_; refine at_dst 5 rfl ?_; refine wpList_alloc_any rfl 27 rfl #[.int .u64 0, .slice none 0 0] zero_tabL ?_; intro w105 hkw105 hsw105 hbw105; have U106 := Lib.hid (Fx.under_new G104.out rfl); have G107 := Lib.hid (Fx.newB G104.out hkw105.out hbw105); clear G104; clear hkw105 hsw105 hbw105)
          | (with_reducible refine at_any ?_; refine at_store 5 rfl ?_; refine wpList_store_any rfl 27 (.tmp 5) (.tmp 34) rfl w101.heap.size rfl 27 #[.int .u64 0, .slice none 0 0] (#[.int .u64 0, .slice A102 0 c103]) (Fx.b0 G107.out) rfl (sameT2 _ _ _ _) (sizedT _ _) (onesT _ _ _ _) ?_; intro w108 hkw108 hsw108 hbw108 how108; have G109 := Lib.hid (Fx.put1B G107.out U106.out hkw108.out hsw108.out hbw108 how108); clear G107; clear hkw108 hsw108 hbw108 how108; have cz110a := tab_c0 (Fx.b0 G109.out); have cz110b := tab_c1 (Fx.b0 G109.out)))
        go_ret
        exact ⟨rfl, (Fx.e3 G109.out)⟩
      obtain ⟨i0, i1, -, i3⟩ := tb_in (l := S) HS0.out
      have hok := i3 (by rw [HLS.out]; omega)
      obtain ⟨l1, hr, hcut, ho⟩ := tb_right HS0.out he
      have e0 := (tb_abi HS0.out he).1
      rw [HLS.out] at l1 ho
      have hsu := HSU.out
      rw [← e0] at hsu
      have n0 : 0 < n := by have := (tbE_iff.1 he).1; rw [HLS.out] at this; omega
      have hbu := fun A c W h => q14build_c S HS1.out A n c (by omega) W h
      obtain ⟨T, hT⟩ : ∃ x, tbT S = x := ⟨_, rfl⟩
      obtain ⟨ts, hts⟩ : ∃ x, tbC S = x := ⟨_, rfl⟩
      have h1 := fun A c W h => calls_tab (hbu A c W h) hT hts he ((congrArg List.length hts).trans (hts ▸ l1))
      rw [hT] at i0 i1 hsu hr ho
      rw [hts] at hok l1 hr hcut ho
      clear hbu hT
      obtain ⟨t, rfl⟩ := Int.eq_ofNat_of_zero_le i0
      obtain ⟨K, hK⟩ : ∃ K : Nat, n * t = K := ⟨_, rfl⟩
      have hKi : (n : Int) * (t : Int) = (K : Int) := by rw [← hK, Int.natCast_mul]
      have hsz := fun A c (hc : n ≤ c) (hm : c ≤ maxLen) W h => calls_val (v' := .int .u64 (K : Int)) (q14size_c (t : Int) i0 (by omega) ts hok A n c (by omega) hc hm W h) (congrArg (Value.int .u64) (by unfold tabZ; rw [if_pos hr, l1, hKi]))
      have how := fun (u : Int) (u0 : 0 ≤ u) (u1 : u < 18446744073709551616) A c (hc : n ≤ c) (hm : c ≤ maxLen) W h => q14owner_c (t : Int) i0 (by omega) ts hok A n c (by omega) hc hm W h u u0 u1
      have hcn : ∀ i : Nat, i < n → (cntL (t : Int) ts K).getD i 0 = (n : Int) * S.getD i 0 := fun i hi => by
        rw [cntL_at (by omega), ← hK]
        have := cnt_owns hr (fun k hk => hcut k (by rw [HLS.out]; omega)) (i : Int) n (by omega)
        rw [this, ho i hi]
      have hoi : ∀ u : Nat, u < K → ∃ o : Nat, o < n ∧ owV (t : Int) ts (u : Int) = (o : Int) ∧ owE (t : Int) ts (u : Int) = 0 := fun u hu => by
        have := ow_in (u := (u : Int)) hr (by omega) (by rw [l1, hKi]; omega)
        rwa [l1] at this
      have hk1 : (K : Int) ≤ 2736 := by rw [← hKi]; exact hsu.2.2.1
      have hpx : ∀ i, i < n → 0 ≤ S.getD i 0 ∧ S.getD i 0 < 18446744073709551616 := fun i hi => HS1.out _ (getD_in (by rw [HLS.out]; exact hi))
      have H1 := Lib.hid h1
      have HSZE := Lib.hid hsz
      have HOW := Lib.hid how
      have HCN := Lib.hid hcn
      have HOI := Lib.hid hoi
      have HPX := Lib.hid hpx
      have HL1 := Lib.hid l1
      clear h1 hsz how hcn hoi hpx hok l1 hr hcut ho hsu hK hKi e0 hts he hg i0 i1 i3
      have hmk : ∀ W, (Instr.makeSlice 22 (.int .i64 (n : Int)) (.int .i64 (n : Int))).run Try.prog W = .ok (.slice (some ⟨W.heap.size, 0, none⟩) n n) (W.alloc (.cells (intsA .u64 (List.replicate n 0)) 24)) := fun W => run_make_ints (P := Try.prog) 22 24 ti .u64 Try.underlying22 hti hz0 hz1 .i64 .i64 n (by rw [hzb]; omega) (by omega) W
      go_wp2_with (first
        | (go_at_call 9; (with_reducible refine (H1.out _ _ _ (Fx.r0 G0.out)).mono ?_); rintro e w101 ⟨A102, c103, rfl, hrw101, hlw101, hmw101, hbw101⟩; have lc103 := Lib.hid hlw101; have mc103 := Lib.hid hmw101; have G104 := Lib.hid (Fx.addP G0.out hbw101 hrw101); clear G0; clear hrw101 hbw101 hlw101 hmw101)
        | (with_reducible refine at_any ?_; refine at_dst 5 rfl ?_; refine wpList_alloc_any rfl 27 rfl #[.int .u64 0, .slice none 0 0] zero_tabL ?_; intro w105 hkw105 hsw105 hbw105; have U106 := Lib.hid (Fx.under_new G104.out rfl); have G107 := Lib.hid (Fx.newB G104.out hkw105.out hbw105); clear G104; clear hkw105 hsw105 hbw105)
        | (with_reducible refine at_any ?_; refine at_store 5 rfl ?_; refine wpList_store_any rfl 27 (.tmp 5) (.tmp 34) rfl w101.heap.size rfl 27 #[.int .u64 0, .slice none 0 0] (#[.int .u64 (t : Int), .slice A102 n c103]) (Fx.b0 G107.out) rfl (sameT2 _ _ _ _) (sizedT _ _) (onesT _ _ _ _) ?_; intro w108 hkw108 hsw108 hbw108 how108; have G109 := Lib.hid (Fx.put1B G107.out U106.out hkw108.out hsw108.out hbw108 how108); clear G107; clear hkw108 hsw108 hbw108 how108))
      clear hmk
      obtain ⟨gf, hgf⟩ : ∃ g, w101.heap.size = g := ⟨_, rfl⟩
      obtain ⟨go, hgo⟩ : ∃ g, w108.heap.size = g := ⟨_, rfl⟩
      rw [hgf] at G109
      have hnew : Fx [.blk w108.heap.size 24 (intsA .u64 (List.replicate n 0)), .blk gf 27 (#[.int .u64 (t : Int), .slice A102 n c103]), .kept gf (fun W => RdPr .u64 .i64 W W.heap.size A102 n ts), .rdb .u64 w2.heap.size A5 n S, .bel w] (w108.alloc (.cells (intsA .u64 (List.replicate n 0)) 24)) := Fx.newB G109.out (Blk.new _ _ _) ((Below.refl _ _).alloc (Nat.le_refl _) _)
      have HU : Hid (Fx.under w108.heap.size [.blk gf 27 (#[.int .u64 (t : Int), .slice A102 n c103]), .kept gf (fun W => RdPr .u64 .i64 W W.heap.size A102 n ts), .rdb .u64 w2.heap.size A5 n S, .bel w]) := Lib.hid (Fx.under_new G109.out rfl)
      rw [hgo] at hnew HU
      rw [hgf, hgo]
      obtain ⟨w3, hw3⟩ : ∃ w3, w108.alloc (.cells (intsA .u64 (List.replicate n 0)) 24) = w3 := ⟨_, rfl⟩
      rw [hw3] at hnew ⊢
      rw [← HL1.out, ← cntL_zero (t : Int) ts, HL1.out] at hnew
      have HNEW := Lib.hid hnew
      clear hnew hw3 hgf hgo G109 H1
      go_loopw [8] (fun uu wr => ∃ u : Nat, u ≤ K ∧ uu = .int .u64 (u : Int) ∧ Fx [.blk go 24 (intsA .u64 (cntL (t : Int) ts u)), .blk gf 27 (#[.int .u64 (t : Int), .slice A102 n c103]), .kept gf (fun W => RdPr .u64 .i64 W W.heap.size A102 n ts), .rdb .u64 w2.heap.size A5 n S, .bel w] wr) (fun uu _ => K - (intOf uu).toNat)
      case atStart => exact ⟨0, by omega, rfl, HNEW.out⟩
      case round =>
        clear HNEW
        obtain ⟨u, hu, rfl, hG⟩ := hrel
        have G9 := Lib.hid hG
        clear hG
        by_cases hlt : u < K
        · have hlt2 : (u : Int) < (K : Int) := by omega
          obtain ⟨o, ho1, ho2, ho3⟩ := HOI.out u hlt
          have HO := Lib.hid (fun A c hc hm W h => calls_val (HOW.out (u : Int) (by omega) (by omega) A c hc hm W h) (tup_ii ho2 ho3))
          have hnx := cntL_next (T := (t : Int)) (ts := ts) (by rw [HL1.out]; exact ho1) ho2
          have hyb := cntI_in (t : Int) ts (o : Int) u
          rw [← cntL_at (i := o) (by rw [HL1.out]; exact ho1)] at hyb
          obtain ⟨y, hy⟩ : ∃ y, (cntL (t : Int) ts u).getD o 0 = y := ⟨_, rfl⟩
          rw [hy] at hnx hyb
          have y0 : 0 ≤ y := hyb.1
          have y1 : y ≤ 2736 := by have := hyb.2; omega
          have HY := Lib.hid hy
          have HOL : Hid (o < (cntL (t : Int) ts u).length) := Lib.hid (by rw [cntL_len, HL1.out]; exact ho1)
          have HSI : Hid (o < (intsA .u64 (cntL (t : Int) ts u)).size) := Lib.hid (by rw [intsA_size, cntL_len, HL1.out]; exact ho1)
          have HNX : Hid ((intsA .u64 (cntL (t : Int) ts u)).setIfInBounds o (.int .u64 (y + 1)) = intsA .u64 (cntL (t : Int) ts (u + 1))) := Lib.hid (by rw [intsA_put, hnx])
          have hon : (o : Int) < (n : Int) := by omega
          have ho0 : (0 : Int) ≤ (o : Int) := by omega
          clear ho1 ho2 ho3 hnx hyb hy
          go_wp2_with (first
            | (with_reducible refine at_any ?_; refine at_dst 50 rfl ?_; refine wpList_load_tab (by kernel_rfl) (.tmp 5) rfl gf rfl 27 (.int .u64 (t : Int)) (.slice A102 n c103) (Fx.b1 G9.out) ?_)
            | (go_at_call 21; (with_reducible refine (HSZE.out _ _ lc103.out mc103.out _ (Fx.k2 G9.out)).mono ?_); rintro e w201 ⟨rfl, hbw201⟩; have G202 := Lib.hid (Fx.below G9.out hbw201); clear G9; clear hbw201)
            | (with_reducible refine at_any ?_; refine at_dst 60 rfl ?_; refine wpList_load_tab (by kernel_rfl) (.tmp 5) rfl gf rfl 27 (.int .u64 (t : Int)) (.slice A102 n c103) (Fx.b1 G202.out) ?_)
            | (go_at_call 15; (with_reducible refine (HO.out _ _ lc103.out mc103.out _ (Fx.k2 G202.out)).mono ?_); rintro e w203 ⟨rfl, hbw203⟩; have G204 := Lib.hid (Fx.below G202.out hbw203); clear G202; clear hbw203; have cz := Fx.at0 G204.out o y HOL.out HY.out)
            | (with_reducible refine at_any ?_; refine at_store 82 rfl ?_; refine wpList_store_cell_any rfl 24 (.tmp 82) (.tmp 81) rfl go o rfl 24 (intsA .u64 (cntL (t : Int) ts u)) (Fx.b0 G204.out) (.int .u64 (y + 1)) rfl HSI.out size_u64l rfl rfl ?_; intro w290 hk290 hs290 hb290 ho290; rw [HNX.out] at hk290; have G290 := Lib.hid (Fx.put1B G204.out HU.out hk290.out hs290.out hb290 ho290); clear G204; clear hk290 hs290 hb290 ho290))
          go_roundw
          case rel => exact ⟨u + 1, by omega, by go_num, G290.out⟩
          case measure => simp [intOf]; omega
        · obtain rfl : u = K := by omega
          go_wp2_with (first
            | (with_reducible refine at_any ?_; refine at_dst 50 rfl ?_; refine wpList_load_tab (by kernel_rfl) (.tmp 5) rfl gf rfl 27 (.int .u64 (t : Int)) (.slice A102 n c103) (Fx.b1 G9.out) ?_)
            | (go_at_call 21; (with_reducible refine (HSZE.out _ _ lc103.out mc103.out _ (Fx.k2 G9.out)).mono ?_); rintro e w201 ⟨rfl, hbw201⟩; have G202 := Lib.hid (Fx.below G9.out hbw201); clear G9; clear hbw201))
          go_loopw [11] (fun ii wr => ∃ i : Nat, i ≤ n ∧ ii = .int .i64 (i : Int) ∧ Fx [.blk go 24 (intsA .u64 (cntL (t : Int) ts u)), .blk gf 27 (#[.int .u64 (t : Int), .slice A102 n c103]), .kept gf (fun W => RdPr .u64 .i64 W W.heap.size A102 n ts), .rdb .u64 w2.heap.size A5 n S, .bel w] wr) (fun ii _ => n - (intOf ii).toNat)
          case atStart => exact ⟨0, by omega, rfl, G202.out⟩
          case round =>
            clear G202
            obtain ⟨i, hi, rfl, hG⟩ := hrel
            have G9 := Lib.hid hG
            clear hG
            by_cases hlt : i < n
            · obtain ⟨b2, o2, e2, -, hc2⟩ := (Fx.r3 G9.out).at_ (show 0 < n by omega)
              have hk2 := hc2 i hlt
              have hcn := HCN.out i hlt
              have hpx := HPX.out i hlt
              have hpn := cntI_in (t : Int) ts (i : Int) u
              rw [← cntL_at (i := i) (by rw [HL1.out]; exact hlt), hcn] at hpn
              obtain ⟨x, hx⟩ : ∃ x, S.getD i 0 = x := ⟨_, rfl⟩
              obtain ⟨p, hp⟩ : ∃ p, (n : Int) * x = p := ⟨_, rfl⟩
              rw [hx] at hk2 hcn hpx hpn
              rw [hp] at hcn hpn
              have hk1' := Fx.at0 G9.out i p (by rw [cntL_len, HL1.out]; exact hlt) hcn
              subst e2
              obtain ⟨x0, x1⟩ := hpx
              obtain ⟨p0, p1⟩ := hpn
              have hwr : IntKind.u64.wrap ((n : Int) * x) = p := by rw [hp, IntKind.wrap_u64]; omega
              have i0 : (0 : Int) ≤ (i : Int) := by omega
              have i1 : (i : Int) < (n : Int) := by omega
              have t1 : (p != p) = false := by simp
              clear hc2 hx hp hcn
              go_wp2
              go_quiet (fail)
              go_wp2
              go_roundw
              case rel => exact ⟨i + 1, by omega, by go_num, Fx.below G9.out (below_drewN (Below.refl _ _) _)⟩
              case measure => simp [intOf]; omega
            · obtain rfl : i = n := by omega
              go_wp2
              go_ret
              exact ⟨rfl, (Fx.e4 G9.out)⟩


set_option maxRecDepth 100000 in
theorem lifted (os : Os) (started : os.Started) (H : Type) (enc : TypeId × Value → H) :
    ReturnsInHanded {} Try.checked os 7 .any (Rows.aliasCountsSpec.pre6 enc Try.prog Try.f7 Rows.aliasCountsRow.domain false) (Rows.aliasCountsSpec.post enc Try.prog Try.f7 false true false false) := by
  refine returnsInHanded_of_change (C := Try.checked) own started (by kernel_rfl) Try.func7
    (ChangeSpec.witness6 (enc := enc) (C := Try.checked) false ⟨#[], #[.slice none 0 0], []⟩ 8 (by kernel_rfl) (by kernel_rfl) (by kernel_rfl) (by kernel_rfl)) ?_
  intro W base args ds gs before hval0 hW hcnd _
  have hval : ∀ (j : Nat) t v, Try.f7.params[j]? = some t → args[j]? = some v → Value.okWide Try.prog W .any base t v := hval0
  have hW' := hW
  obtain ⟨p, q, hA0, hV, rfl, hfz, hnd⟩ := hW
  have hA : DataW.TrodAll enc Try.prog W 0 (fun _ => true) true Try.f7.params.toList args.toList ds p := hA0
  rw [Try.params7] at hA hval
  obtain ⟨v0, vs0, d0, ds0, p0, q0, hargs, rfl, rfl, h0, r0⟩ := trodAll_cons hA
  obtain ⟨rfl, rfl, rfl⟩ := trodAll_nil r0
  obtain rfl : args = #[v0] := by cases args; simp_all
  obtain ⟨rfl, rfl⟩ := trodVars_none hV
  obtain ⟨a0, n0, c0, rfl⟩ := okWide_slice Try.underlying22 (hval 0 22 v0 rfl rfl)
  have k0 := h0
  have lt0 : ∀ x ∈ p0, x.block < W.heap.size := by obtain ⟨m, hm⟩ := k0; exact DataW.trod_lt m _ _ _ hm
  obtain ⟨z0, rd0, lc0, cm0, w0⟩ := open_rd Try.underlying22 Try.underlying24 (by kernel_rfl) h0
  clear hA0 hval0
  refine (walk a0 n0 c0 z0 W rd0 lc0 cm0 w0).mono fun e W' ⟨he, bel⟩ => ?_
  subst he
  exact ⟨_, rfl, _, _, _, [], _, [], hW', trodAll_mk1 (shut_bool Try.underlying4 _), (trodAll_cons_mk (Below.trod laidOut (by kernel_rfl) (of_decide_eq_true (by kernel_rfl)) k0 bel lt0) trodAll_mk0), rfl, bel.frame _, fun h => by cases h⟩

theorem over : Rows.aliasCountsRow.holds Try.pinned (OpenSpec.ofChange Rows.aliasCountsSpec) :=
  OpenClaim.holds_of_wide 7 Try.f7 rfl rfl rfl rfl rfl rfl rfl ⟨rfl, rfl, rfl, rfl, rfl⟩ rfl rfl rfl rfl rfl (by kernel_rfl) Try.func7 (by kernel_rfl)
    (of_decide_eq_true (by kernel_rfl)) (by unfold Func.isWrapper; first | (rw [if_pos (by decide +kernel)]; kernel_rfl) | (rw [if_neg (by decide +kernel)]; exact ⟨rfl, rfl⟩))
    (fun os started H enc _ => lifted os started H enc)

end Go.Proofs.Ytkgajcifanobnaa.aliasCounts
namespace Go.Proofs.Ytkgajcifanobnaa
theorem aliasCounts_holds : Rows.AliasCountsSaid := aliasCounts.over
#print axioms aliasCounts_holds
end Go.Proofs.Ytkgajcifanobnaa

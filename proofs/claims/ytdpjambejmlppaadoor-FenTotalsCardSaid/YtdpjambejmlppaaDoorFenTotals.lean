/-
  Another stake changes the sum, and the prefixes behind it, by just what it differs; of up to 300 stakes.
  Conditions: none.
-/
import Derived.Test.YtdpjambejmlppaaDoorLawP
import Derived.Test.YtdpjambejmlppaaDoorOpenA
import Derived.ShutString
import Derived.Test.YtdpjambejmlppaaDoorFenK
import Derived.Test.YtdpjambejmlppaaDoorTie
import Derived.Test.YtdpjambejmlppaaDoorCards
import Derived.SevenTiedAt
import Derived.ChangeOld
namespace Go.Proofs.YtdpjambejmlppaaDoor.fenTotals
open Go.ChangeShapes Go.WideShapes Go.ChangeAt Go.RowKit
set_option linter.unusedVariables false
set_option linter.unusedSimpArgs false
set_option maxRecDepth 100000

theorem own : ownKnob Tryd.prog.godebug = none := by kernel_rfl
theorem laidOut : laidOutB Tryd.prog = true := by kernel_rfl

set_option maxHeartbeats 16000000 in
theorem walk (a0 : Option Addr) (n c : Nat) (zs : List Int) (i v : Int) (w : World) (hT : TzT w) (hrd : Rd .u64 w w.heap.size a0 n zs) (lc : n ≤ c) (cm : c ≤ maxLen) (hw : ∀ z ∈ zs, (Lit.int .u64 z).wf = true) (w1 : (Lit.int .u16 i).wf = true) (w2 : (Lit.int .u64 v).wf = true) :
    Calls Tryd.prog 7 #[.slice a0 n c, .int .u16 i, .int .u64 v] w fun e w' => e = .returned (.bool true) ∧ Below w.heap.size w w' := by
  have HTT := Lib.hid hT
  clear hT
  have G0 : Hid (Fx [.rdb .u64 w.heap.size a0 n zs, .bel w] w) := Lib.hid ⟨⟨hrd, Nat.le_refl _⟩, Below.refl _ _, trivial⟩
  have hlen := hrd.len
  have hz : ∀ z ∈ zs, 0 ≤ z ∧ z < 18446744073709551616 := fun z h => by
    obtain ⟨h1, h2⟩ := bounds_u64 (hw z h)
    omega
  have i0 : 0 ≤ i := (bounds_u16 w1).1
  have i1 : i < 65536 := by have := (bounds_u16 w1).2; omega
  have v0 : 0 ≤ v := (bounds_u64 w2).1
  have v1 : v < 18446744073709551616 := by have := (bounds_u64 w2).2; omega
  by_cases hg : 300 < n
  · have hg2 : (300 : Int) < (n : Int) := by omega
    clear hrd hw hz hg
    go_enter Tryd.func7, Tryd.ntmps7
    go_wp2_with (first
      | (go_at_call 8; (with_reducible refine (alive11_c _ (HTT.out.below (Fx.e1 G0.out))).mono ?_); rintro e w1 ⟨rfl, hbw1⟩; have G2 := Lib.hid (Fx.below G0.out hbw1); clear G0; clear hbw1))
    go_ret
    exact ⟨rfl, (Fx.e1 G2.out)⟩
  by_cases hnz : n = 0
  · subst hnz
    clear hrd hw hz hg
    go_enter Tryd.func7, Tryd.ntmps7
    go_wp2_with (first
      | (go_at_call 8; (with_reducible refine (alive11_c _ (HTT.out.below (Fx.e1 G0.out))).mono ?_); rintro e w1 ⟨rfl, hbw1⟩; have G2 := Lib.hid (Fx.below G0.out hbw1); clear G0; clear hbw1))
    go_ret
    exact ⟨rfl, (Fx.e1 G2.out)⟩
  have hg2 : (n : Int) ≤ 300 := by omega
  have hn1 : 0 < (n : Int) := by omega
  have hnz2 : ¬ (n : Int) = 0 := by omega
  have hnz3 : ((n : Int) == 0) = false := by rw [beq_eq_false_iff_ne]; omega
  clear hnz
  have hn5 : n ≤ 100000000 := by omega
  have hnm : n ≤ maxLen := by simp only [maxLen]; omega
  have hz0 : ∀ z ∈ zs, 0 ≤ z := fun z h => (hz z h).1
  obtain ⟨k, hk⟩ : ∃ k : Nat, i.toNat % n = k := ⟨_, rfl⟩
  have hkn0 : k < n := by rw [← hk]; exact Nat.mod_lt _ (by omega)
  have hkn : (k : Int) < (n : Int) := by omega
  have hik : i.tmod (n : Int) = (k : Int) := by
    rw [Int.tmod_eq_emod_of_nonneg i0, ← hk, Int.natCast_emod, Int.toNat_of_nonneg i0]
  have j2 : (0 : Int) ≤ (k : Int) := by omega
  clear hk
  by_cases hs : sumL zs < 9223372036854775808
  · have e := bldE_ok (l := zs) (by omega) hs
    have h1 := fun A c W hT h => calls_fen (q11build_c zs hz A n c hnm W hT h) e.2 e.1 ((treeL_len zs).trans hlen)
    by_cases hs2 : sumL (zs.set k v) < 9223372036854775808
    · have e2 := setE_ok (l := zs) (i := k) (v := v) ⟨by omega, by omega⟩ hs2
      rw [Int.toNat_natCast] at e2
      have hl2 : (zs.set k v).length = n := by rw [List.length_set]; exact hlen
      have hz2 : ∀ z ∈ zs.set k v, 0 ≤ z := fun z h => by
        rcases List.mem_or_eq_of_mem_set h with h | h
        · exact hz0 z h
        · rw [h]; exact v0
      have h2 := fun A c (hc : n ≤ c) (hm : c ≤ maxLen) W hT h => calls_fen (q11set_c zs hz0 hs (by omega) A n c hlen hc hm k v (by omega) (by omega) v0 v1 W hT h) (congrArg treeL e2.2) e2.1 ((treeL_len _).trans hl2)
      have hp := fun (j : Nat) (hj : j ≤ n) A c (hc : n ≤ c) (hm : c ≤ maxLen) W hT h => calls_val (q11prefix_c zs hz0 hs (by omega) A n c hlen hc hm j (by omega) (by omega) W hT h) (tup_ui (pre_ok (l := zs) (i := (j : Int)) ⟨by omega, by omega⟩).2 (pre_ok (l := zs) (i := (j : Int)) ⟨by omega, by omega⟩).1)
      have hq := fun (j : Nat) (hj : j ≤ n) A c (hc : n ≤ c) (hm : c ≤ maxLen) W hT h => calls_val (q11prefix_c (zs.set k v) hz2 hs2 (by omega) A n c hl2 hc hm j (by omega) (by omega) W hT h) (tup_ui (pre_ok (l := zs.set k v) (i := (j : Int)) ⟨by omega, by omega⟩).2 (pre_ok (l := zs.set k v) (i := (j : Int)) ⟨by omega, by omega⟩).1)
      have ht1 := fun A c (hc : n ≤ c) (hm : c ≤ maxLen) W hT h => q11total_c zs hz0 hs (by omega) A n c hlen hc hm W hT h
      have ht2 := fun A c (hc : n ≤ c) (hm : c ≤ maxLen) W hT h => q11total_c (zs.set k v) hz2 hs2 (by omega) A n c hl2 hc hm W hT h
      have HPS := Lib.hid (fun j => preL_set (l := zs) (i := k) v (by omega) j)
      have HPL := Lib.hid (fun j => preL_le hz2 j)
      have HPX : Hid (∀ j, k < j → zs.getD k 0 ≤ preL zs j ∧ preL zs j < 9223372036854775808) := Lib.hid (fun j hj => by
        have a1 := preL_next (l := zs) (n := k) (by omega)
        have a2 := preL_mono hz0 (show k + 1 ≤ j by omega)
        have a3 := preL_nn hz0 k
        have a4 := preL_le hz0 j
        omega)
      have HSS : Hid (sumL (zs.set k v) = sumL zs + (v - zs.getD k 0) ∧ zs.getD k 0 ≤ sumL zs) := Lib.hid (by
        have a1 := preL_set (l := zs) (i := k) v (by omega) n
        rw [if_pos hkn0, ← hl2, preL_all, hl2, ← hlen, preL_all] at a1
        have a2 := preL_next (l := zs) (n := k) (by omega)
        have a3 := preL_nn hz0 k
        have a4 := preL_le hz0 (k + 1)
        exact ⟨a1, by omega⟩)
      have hzk := hz _ (getD_in (l := zs) (k := k) (by omega))
      obtain ⟨x, hx⟩ : ∃ x, zs.getD k 0 = x := ⟨_, rfl⟩
      obtain ⟨g9, off9, ha0, -, hc0⟩ := hrd.at_ (by omega)
      have HCG : Hid (∀ W, Rd .u64 W W.heap.size a0 n zs → W.cell? ⟨g9, off9 + k, none⟩ = some (.int .u64 x)) := Lib.hid (fun W h => by obtain ⟨g, off, e1, _, e2⟩ := h.at_ (by omega); rw [ha0] at e1; injection e1 with e1; injection e1 with e1 e3; subst e1 e3; rw [← hx]; exact e2 k hkn0)
      subst ha0
      rw [hx] at HPX HSS HPS hzk
      have hse2 := (sumL_nn hz2)
      obtain ⟨T1, hT1⟩ : ∃ x, treeL zs = x := ⟨_, rfl⟩
      obtain ⟨T2, hT2⟩ : ∃ x, treeL (zs.set k v) = x := ⟨_, rfl⟩
      obtain ⟨S1, hS1⟩ : ∃ x, sumL zs = x := ⟨_, rfl⟩
      obtain ⟨S2, hS2⟩ : ∃ x, sumL (zs.set k v) = x := ⟨_, rfl⟩
      rw [hT1] at h1 h2 hp ht1
      rw [hT2] at h2 hq ht2
      rw [hS1] at ht1 HSS hs
      rw [hS2] at ht2 HSS hs2 HPL hse2
      have H1 := Lib.hid h1
      have H2 := Lib.hid h2
      have HPA := Lib.hid hp
      have HQA := Lib.hid hq
      have HT1 := Lib.hid ht1
      have HT2 := Lib.hid ht2
      have HS1 := Lib.hid hs
      have HS2 := Lib.hid hs2
      have HE2 := Lib.hid hse2
      clear h1 h2 hp hq ht1 ht2 hs hs2 e e2 hrd hw hz hz0 hz2 hg hn5 hnm lc cm hlen hl2 w1 w2 hT1 hT2 hS1 hS2 hc0 hx hse2
      go_enter Tryd.func7, Tryd.ntmps7
      go_wp2_with (first
        | (go_at_call 8; (with_reducible refine (alive11_c _ (HTT.out.below (Fx.e1 G0.out))).mono ?_); rintro e w1 ⟨rfl, hbw1⟩; have G2 := Lib.hid (Fx.below G0.out hbw1); clear G0; clear hbw1)
        | (go_at_call 9; (with_reducible refine (H1.out _ _ _ (HTT.out.below (Fx.e1 G2.out)) (Fx.r0 G2.out)).mono ?_); rintro e w3 ⟨A4, c5, rfl, hrw3, hlw3, hmw3, hbw3⟩; have lc5 := Lib.hid hlw3; have mc5 := Lib.hid hmw3; have G6 := Lib.hid (Fx.addR G2.out hbw3 hrw3); clear G2; clear hrw3 hbw3 hlw3 hmw3)
        | (with_reducible refine at_any ?_; refine at_dst 8 rfl ?_; refine wpList_alloc_any rfl 25 rfl #[.slice none 0 0] zero_fen ?_; intro w7 hkw7 hsw7 hbw7; have U8 := Lib.hid (Fx.under_new G6.out rfl); have G9 := Lib.hid (Fx.newB G6.out hkw7.out hbw7); clear G6; clear hkw7 hsw7 hbw7)
        | (with_reducible refine at_any ?_; refine at_store 8 rfl ?_; refine wpList_store_any rfl 25 (.tmp 8) (.tmp 35) rfl w3.heap.size rfl 25 #[.slice none 0 0] (#[.slice A4 n c5]) (Fx.b0 G9.out) rfl (size1 _ _) (sizedF _) (fen_ones _ _ _) ?_; intro w10 hkw10 hsw10 hbw10 how10; have G11 := Lib.hid (Fx.put1B G9.out U8.out hkw10.out hsw10.out hbw10 how10); clear G9; clear hkw10 hsw10 hbw10 how10)
        | (with_reducible refine at_any ?_; refine at_dst 44 rfl ?_; refine wpList_load_fen (by kernel_rfl) (.tmp 8) rfl w3.heap.size rfl 25 (.slice A4 n c5) (Fx.b0 G11.out) ?_)
        | (go_at_call 22; (with_reducible refine (H2.out _ _ lc5.out mc5.out _ (HTT.out.below (Fx.e3 G11.out)) (Fx.r1 G11.out)).mono ?_); rintro e w12 ⟨A13, c14, rfl, hrw12, hlw12, hmw12, hbw12⟩; have lc14 := Lib.hid hlw12; have mc14 := Lib.hid hmw12; have G15 := Lib.hid (Fx.addR G11.out hbw12 hrw12); clear G11; clear hrw12 hbw12 hlw12 hmw12)
        | (with_reducible refine at_any ?_; refine at_dst 10 rfl ?_; refine wpList_alloc_any rfl 25 rfl #[.slice none 0 0] zero_fen ?_; intro w16 hkw16 hsw16 hbw16; have U17 := Lib.hid (Fx.under_new G15.out rfl); have G18 := Lib.hid (Fx.newB G15.out hkw16.out hbw16); clear G15; clear hkw16 hsw16 hbw16)
        | (with_reducible refine at_any ?_; refine at_store 10 rfl ?_; refine wpList_store_any rfl 25 (.tmp 10) (.tmp 48) rfl w12.heap.size rfl 25 #[.slice none 0 0] (#[.slice A13 n c14]) (Fx.b0 G18.out) rfl (size1 _ _) (sizedF _) (fen_ones _ _ _) ?_; intro w19 hkw19 hsw19 hbw19 how19; have G20 := Lib.hid (Fx.put1B G18.out U17.out hkw19.out hsw19.out hbw19 how19); clear G18; clear hkw19 hsw19 hbw19 how19))
      obtain ⟨gf, hgf⟩ : ∃ g, w3.heap.size = g := ⟨_, rfl⟩
      obtain ⟨gg, hgg⟩ : ∃ g, w12.heap.size = g := ⟨_, rfl⟩
      rw [hgf, hgg] at G20
      rw [hgf, hgg]
      clear hgf hgg H1 H2
      go_loopw [12] (fun cc wr => ∃ j : Nat, j ≤ n + 1 ∧ cc = .int .i64 (j : Int) ∧ Fx [.blk gg 25 #[.slice A13 n c14], .rdb .u64 gg A13 n T2, .blk gf 25 #[.slice A4 n c5], .rdb .u64 gf A4 n T1, .rdb .u64 w.heap.size (some ⟨g9, off9, none⟩) n zs, .bel w] wr) (fun cc _ => n + 1 - (intOf cc).toNat)
      case atStart => exact ⟨0, by omega, rfl, G20.out⟩
      case round =>
        clear G20
        obtain ⟨j, hj, rfl, hG⟩ := hrel
        have G9 := Lib.hid hG
        clear hG
        by_cases hjn : j ≤ n
        · have hjn2 : (j : Int) ≤ (n : Int) := by omega
          have hps := HPS.out j
          have hpl := HPL.out j
          have hpx := HPX.out j
          have hp := HPA.out j hjn
          have hq := HQA.out j hjn
          rw [Int.toNat_natCast] at hp hq
          obtain ⟨p, hpp⟩ : ∃ x, preL zs j = x := ⟨_, rfl⟩
          obtain ⟨q, hqq⟩ : ∃ x, preL (zs.set k v) j = x := ⟨_, rfl⟩
          rw [hpp, hqq] at hps
          rw [hpp] at hp hpx
          rw [hqq] at hq hpl
          have HP := Lib.hid hp
          have HQ := Lib.hid hq
          clear hp hq hpp hqq
          by_cases hjk : j ≤ k
          · have hjk2 : (j : Int) ≤ (k : Int) := by omega
            rw [if_neg (by omega)] at hps
            obtain rfl : q = p := by omega
            clear hps hpl hpx hjk
            go_wp2_with (first
              | (with_reducible refine at_any ?_; refine at_dst 67 rfl ?_; refine wpList_load_fen (by kernel_rfl) (.tmp 8) rfl gf rfl 25 (.slice A4 n c5) (Fx.b2 G9.out) ?_)
              | (go_at_call 17; (with_reducible refine (HP.out _ _ lc5.out mc5.out _ (HTT.out.below (Fx.e5 G9.out)) (Fx.r3 G9.out)).mono ?_); rintro e w61 ⟨rfl, hbw61⟩; have G62 := Lib.hid (Fx.below G9.out hbw61); clear G9; clear hbw61)
              | (with_reducible refine at_any ?_; refine at_dst 73 rfl ?_; refine wpList_load_fen (by kernel_rfl) (.tmp 10) rfl gg rfl 25 (.slice A13 n c14) (Fx.b0 G62.out) ?_)
              | (go_at_call 17; (with_reducible refine (HQ.out _ _ lc14.out mc14.out _ (HTT.out.below (Fx.e5 G62.out)) (Fx.r1 G62.out)).mono ?_); rintro e w63 ⟨rfl, hbw63⟩; have G64 := Lib.hid (Fx.below G62.out hbw63); clear G62; clear hbw63))
            go_roundw
            case rel => exact ⟨j + 1, by omega, by go_num, G64.out⟩
            case measure => simp [intOf]; omega
          · have hjk2 : (k : Int) < (j : Int) := by omega
            obtain ⟨hx1, hx2⟩ := hpx (by omega)
            rw [if_pos (by omega)] at hps
            have hs2 := HS2.out
            obtain ⟨d, hd⟩ : ∃ d, p - x = d := ⟨_, rfl⟩
            have hd0 : 0 ≤ d := by omega
            have hd1 : d < 9223372036854775808 := by have := hzk.1; omega
            have hq0 : 0 ≤ q := by omega
            have hq1 : q < 9223372036854775808 := by omega
            have hdq : d + v = q := by omega
            clear hps hpl hpx hjk hs2 hx1 hx2
            go_wp2_with (first
              | (with_reducible refine at_any ?_; refine at_dst 67 rfl ?_; refine wpList_load_fen (by kernel_rfl) (.tmp 8) rfl gf rfl 25 (.slice A4 n c5) (Fx.b2 G9.out) ?_)
              | (go_at_call 17; (with_reducible refine (HP.out _ _ lc5.out mc5.out _ (HTT.out.below (Fx.e5 G9.out)) (Fx.r3 G9.out)).mono ?_); rintro e w61 ⟨rfl, hbw61⟩; have G62 := Lib.hid (Fx.below G9.out hbw61); clear G9; clear hbw61)
              | (with_reducible refine at_any ?_; refine at_dst 73 rfl ?_; refine wpList_load_fen (by kernel_rfl) (.tmp 10) rfl gg rfl 25 (.slice A13 n c14) (Fx.b0 G62.out) ?_)
              | (go_at_call 17; (with_reducible refine (HQ.out _ _ lc14.out mc14.out _ (HTT.out.below (Fx.e5 G62.out)) (Fx.r1 G62.out)).mono ?_); rintro e w63 ⟨rfl, hbw63⟩; have G64 := Lib.hid (Fx.below G62.out hbw63); clear G62; clear hbw63; have cz := HCG.out _ (Fx.r4 G64.out)))
            go_roundw
            case rel => exact ⟨j + 1, by omega, by go_num, G64.out⟩
            case measure => simp [intOf]; omega
        · obtain rfl : j = n + 1 := by omega
          have hjn2 : (n : Int) < ((n + 1 : Nat) : Int) := by omega
          obtain ⟨jj, hjj⟩ : ∃ x : Int, ((n + 1 : Nat) : Int) = x := ⟨_, rfl⟩
          rw [hjj] at hjn2 ⊢
          obtain ⟨hss, hxs⟩ := HSS.out
          have hs1 := HS1.out
          have hs2 := HS2.out
          have he2 := HE2.out
          obtain ⟨d, hd⟩ : ∃ d, S1 - x = d := ⟨_, rfl⟩
          have e5 := Lib.hid hd
          have e5w : Hid (IntKind.u64.wrap d = d) := Lib.hid (by rw [IntKind.wrap_u64]; have := hzk.1; omega)
          have e6 : Hid (d + v = S2) := Lib.hid (by omega)
          have e6w : Hid (IntKind.u64.wrap S2 = S2) := Lib.hid (by rw [IntKind.wrap_u64]; omega)
          clear hss hxs hs1 hs2 he2 hjj hjn hd
          go_wp2_with fail
          refine wp_region_held_drew (S := (Fx [.blk gg 25 #[.slice A13 n c14], .rdb .u64 gg A13 n T2, .blk gf 25 #[.slice A4 n c5], .rdb .u64 gf A4 n T1, .rdb .u64 w.heap.size (some ⟨g9, off9, none⟩) n zs, .bel w])) (by kernel_rfl) (Fx.drew G9.out) (fun hH => ?_)
          refine wpAnyH_letter #[false, false, false, false, false, false, false, false, false, false, false, false, false] (by kernel_rfl) (fun _ _ d _ _ h => by cases d <;> exact h) (fun QL HQ1 HQ2 => ?_)
          refine held_row 0 (some 103) rfl (by kernel_rfl) (by kernel_rfl) (by kernel_rfl) (by kernel_rfl) (fun c a v w h => HQ2.out c a _ v w h) (by kernel_rfl) 25 (.tmp 10) rfl gg (by kernel_rfl) 25 #[.slice A13 n c14] (fun _ h => h.1) _ Tryd.underlying25 rfl (sizedF _) hH ?_
          try simp only [Act.put, List.setIfInBounds_toArray, List.set_cons_zero, List.set_cons_succ]
          refine held_row 2 (some 105) rfl (by kernel_rfl) (by kernel_rfl) (by kernel_rfl) (by kernel_rfl) (fun c a v w h => HQ2.out c a _ v w h) (by kernel_rfl) 25 (.tmp 8) rfl gf (by kernel_rfl) 25 #[.slice A4 n c5] (fun _ h => h.2.2.1) _ Tryd.underlying25 rfl (sizedF _) hH ?_
          try simp only [Act.put, List.setIfInBounds_toArray, List.set_cons_zero, List.set_cons_succ]
          refine held_v 4 (some 107) rfl (by kernel_rfl) (by kernel_rfl) (by kernel_rfl) (by kernel_rfl) (fun c a v w h => HQ2.out c a _ v w h) (by kernel_rfl) (.slice (some ⟨g9, off9, none⟩) n c) (fun W h => by kernel_rfl) hH ?_
          try simp only [Act.put, List.setIfInBounds_toArray, List.set_cons_zero, List.set_cons_succ]
          refine held_v 5 (some 108) rfl (by kernel_rfl) (by kernel_rfl) (by kernel_rfl) (by kernel_rfl) (fun c a v w h => HQ2.out c a _ v w h) (by kernel_rfl) (.int .i64 (k : Int)) (fun W h => by kernel_rfl) hH ?_
          try simp only [Act.put, List.setIfInBounds_toArray, List.set_cons_zero, List.set_cons_succ]
          refine held_v 6 (some 109) rfl (by kernel_rfl) (by kernel_rfl) (by kernel_rfl) (by kernel_rfl) (fun c a v w h => HQ2.out c a _ v w h) (by kernel_rfl) (.pointer (some ⟨g9, off9 + k, none⟩)) (fun W h => by have p := hkn; have p2 := j2; go_simp) hH ?_
          try simp only [Act.put, List.setIfInBounds_toArray, List.set_cons_zero, List.set_cons_succ]
          refine held_v 7 (some 110) rfl (by kernel_rfl) (by kernel_rfl) (by kernel_rfl) (by kernel_rfl) (fun c a v w h => HQ2.out c a _ v w h) (by kernel_rfl) (.int .u64 x) (fun W h => by have p := HCG.out W (Fx.r4 h); go_simp) hH ?_
          try simp only [Act.put, List.setIfInBounds_toArray, List.set_cons_zero, List.set_cons_succ]
          refine held_v 9 (some 112) rfl (by kernel_rfl) (by kernel_rfl) (by kernel_rfl) (by kernel_rfl) (fun c a v w h => HQ2.out c a _ v w h) (by kernel_rfl) (.int .u64 v) (fun W h => by kernel_rfl) hH ?_
          try simp only [Act.put, List.setIfInBounds_toArray, List.set_cons_zero, List.set_cons_succ]
          refine wpAnyH_ready (rs := [1]) (by kernel_rfl) (by decide) ?_
          refine AllReadyH.cons rfl (fun K hK => ?_) AllReadyH.nil
          refine step_call (some 104) (by kernel_rfl) (by kernel_rfl) _ _ (by kernel_rfl) _ (HT2.out _ _ lc14.out mc14.out _ (HTT.out.below (Fx.e5 hH)) (Fx.r1 hH)) ?_
          rintro e w41 ⟨rfl, hbw41⟩
          refine ⟨_, rfl, ?_⟩
          refine hK.out _ _ (hH.below hbw41) (fun hw41 => ?_)
          clear hK K
          try simp only [Act.put, List.setIfInBounds_toArray, List.set_cons_zero, List.set_cons_succ]
          refine wpAnyH_ready (rs := [3]) (by kernel_rfl) (by decide) ?_
          refine AllReadyH.cons rfl (fun K hK => ?_) AllReadyH.nil
          refine step_call (some 106) (by kernel_rfl) (by kernel_rfl) _ _ (by kernel_rfl) _ (HT1.out _ _ lc5.out mc5.out _ (HTT.out.below (Fx.e5 hw41)) (Fx.r3 hw41)) ?_
          rintro e w42 ⟨rfl, hbw42⟩
          refine ⟨_, rfl, ?_⟩
          refine hK.out _ _ (hw41.below hbw42) (fun hw42 => ?_)
          clear hK K
          try simp only [Act.put, List.setIfInBounds_toArray, List.set_cons_zero, List.set_cons_succ]
          refine held_v 8 (some 111) rfl (by kernel_rfl) (by kernel_rfl) (by kernel_rfl) (by kernel_rfl) (fun c a v w h => HQ2.out c a _ v w h) (by kernel_rfl) (.int .u64 d) (fun W h => by have p := e5.out; have p2 := e5w.out; go_simp) hw42 ?_
          try simp only [Act.put, List.setIfInBounds_toArray, List.set_cons_zero, List.set_cons_succ]
          refine held_v 10 (some 113) rfl (by kernel_rfl) (by kernel_rfl) (by kernel_rfl) (by kernel_rfl) (fun c a v w h => HQ2.out c a _ v w h) (by kernel_rfl) (.int .u64 S2) (fun W h => by have p := e6.out; have p2 := e6w.out; go_simp) hw42 ?_
          try simp only [Act.put, List.setIfInBounds_toArray, List.set_cons_zero, List.set_cons_succ]
          refine held_v 11 (some 114) rfl (by kernel_rfl) (by kernel_rfl) (by kernel_rfl) (by kernel_rfl) (fun c a v w h => HQ2.out c a _ v w h) (by kernel_rfl) (.bool true) (fun W h => by go_simp) hw42 ?_
          try simp only [Act.put, List.setIfInBounds_toArray, List.set_cons_zero, List.set_cons_succ]
          refine held_v 12 (some 6) rfl (by kernel_rfl) (by kernel_rfl) (by kernel_rfl) (by kernel_rfl) (fun c a v w h => HQ2.out c a _ v w h) (by kernel_rfl) (.bool true) (fun W h => by kernel_rfl) hw42 ?_
          try simp only [Act.put, List.setIfInBounds_toArray, List.set_cons_zero, List.set_cons_succ]
          refine wpAnyH_done (by kernel_rfl) ?_ _
          refine HQ1.out _ _ ?_
          clear HQ1 HQ2
          go_wp2
          go_ret
          exact ⟨rfl, (Fx.e5 hw42)⟩
    · have e2 := setE_big (l := zs) (i := k) (v := v) ⟨by omega, by omega⟩ (by rw [Int.toNat_natCast]; exact hs2)
      have h2 := fun A c (hc : n ≤ c) (hm : c ≤ maxLen) W hT h => calls_fen (q11set_c zs hz0 hs (by omega) A n c hlen hc hm k v (by omega) (by omega) v0 v1 W hT h) (congrArg treeL e2.2) e2.1 (n := 0) rfl
      obtain ⟨T1, hT1⟩ : ∃ x, treeL zs = x := ⟨_, rfl⟩
      rw [hT1] at h1 h2
      have H1 := Lib.hid h1
      have H2 := Lib.hid h2
      clear h1 h2 hs hs2 e e2 hrd hw hz hz0 hg hn5 hnm lc cm hlen w1 w2 hT1
      go_enter Tryd.func7, Tryd.ntmps7
      go_wp2_with (first
        | (go_at_call 8; (with_reducible refine (alive11_c _ (HTT.out.below (Fx.e1 G0.out))).mono ?_); rintro e w1 ⟨rfl, hbw1⟩; have G2 := Lib.hid (Fx.below G0.out hbw1); clear G0; clear hbw1)
        | (go_at_call 9; (with_reducible refine (H1.out _ _ _ (HTT.out.below (Fx.e1 G2.out)) (Fx.r0 G2.out)).mono ?_); rintro e w3 ⟨A4, c5, rfl, hrw3, hlw3, hmw3, hbw3⟩; have lc5 := Lib.hid hlw3; have mc5 := Lib.hid hmw3; have G6 := Lib.hid (Fx.addR G2.out hbw3 hrw3); clear G2; clear hrw3 hbw3 hlw3 hmw3)
        | (with_reducible refine at_any ?_; refine at_dst 8 rfl ?_; refine wpList_alloc_any rfl 25 rfl #[.slice none 0 0] zero_fen ?_; intro w7 hkw7 hsw7 hbw7; have U8 := Lib.hid (Fx.under_new G6.out rfl); have G9 := Lib.hid (Fx.newB G6.out hkw7.out hbw7); clear G6; clear hkw7 hsw7 hbw7)
        | (with_reducible refine at_any ?_; refine at_store 8 rfl ?_; refine wpList_store_any rfl 25 (.tmp 8) (.tmp 35) rfl w3.heap.size rfl 25 #[.slice none 0 0] (#[.slice A4 n c5]) (Fx.b0 G9.out) rfl (size1 _ _) (sizedF _) (fen_ones _ _ _) ?_; intro w10 hkw10 hsw10 hbw10 how10; have G11 := Lib.hid (Fx.put1B G9.out U8.out hkw10.out hsw10.out hbw10 how10); clear G9; clear hkw10 hsw10 hbw10 how10)
        | (with_reducible refine at_any ?_; refine at_dst 44 rfl ?_; refine wpList_load_fen (by kernel_rfl) (.tmp 8) rfl w3.heap.size rfl 25 (.slice A4 n c5) (Fx.b0 G11.out) ?_)
        | (go_at_call 22; (with_reducible refine (H2.out _ _ lc5.out mc5.out _ (HTT.out.below (Fx.e3 G11.out)) (Fx.r1 G11.out)).mono ?_); rintro e w12 ⟨A13, c14, rfl, hrw12, hlw12, hmw12, hbw12⟩; have lc14 := Lib.hid hlw12; have mc14 := Lib.hid hmw12; have G15 := Lib.hid (Fx.addR G11.out hbw12 hrw12); clear G11; clear hrw12 hbw12 hlw12 hmw12)
        | (with_reducible refine at_any ?_; refine at_dst 10 rfl ?_; refine wpList_alloc_any rfl 25 rfl #[.slice none 0 0] zero_fen ?_; intro w16 hkw16 hsw16 hbw16; have U17 := Lib.hid (Fx.under_new G15.out rfl); have G18 := Lib.hid (Fx.newB G15.out hkw16.out hbw16); clear G15; clear hkw16 hsw16 hbw16)
        | (with_reducible refine at_any ?_; refine at_store 10 rfl ?_; refine wpList_store_any rfl 25 (.tmp 10) (.tmp 48) rfl w12.heap.size rfl 25 #[.slice none 0 0] (#[.slice A13 0 c14]) (Fx.b0 G18.out) rfl (size1 _ _) (sizedF _) (fen_ones _ _ _) ?_; intro w19 hkw19 hsw19 hbw19 how19; have G20 := Lib.hid (Fx.put1B G18.out U17.out hkw19.out hsw19.out hbw19 how19); clear G18; clear hkw19 hsw19 hbw19 how19; have cz21 := Blk.cell0 (Fx.b0 G20.out)))
      go_ret
      exact ⟨rfl, (Fx.e5 G20.out)⟩
  · have e := bldE_big (l := zs) (by omega) hs
    have H1 := Lib.hid (fun A c W hT h => calls_fen (q11build_c zs hz A n c hnm W hT h) e.2 e.1 (n := 0) rfl)
    clear hs e hrd hw hz hz0 hg hn5 hnm lc cm hlen w1 w2
    go_enter Tryd.func7, Tryd.ntmps7
    go_wp2_with (first
      | (go_at_call 8; (with_reducible refine (alive11_c _ (HTT.out.below (Fx.e1 G0.out))).mono ?_); rintro e w1 ⟨rfl, hbw1⟩; have G2 := Lib.hid (Fx.below G0.out hbw1); clear G0; clear hbw1)
      | (go_at_call 9; (with_reducible refine (H1.out _ _ _ (HTT.out.below (Fx.e1 G2.out)) (Fx.r0 G2.out)).mono ?_); rintro e w3 ⟨A4, c5, rfl, hrw3, hlw3, hmw3, hbw3⟩; have lc5 := Lib.hid hlw3; have mc5 := Lib.hid hmw3; have G6 := Lib.hid (Fx.addR G2.out hbw3 hrw3); clear G2; clear hrw3 hbw3 hlw3 hmw3)
      | (with_reducible refine at_any ?_; refine at_dst 8 rfl ?_; refine wpList_alloc_any rfl 25 rfl #[.slice none 0 0] zero_fen ?_; intro w7 hkw7 hsw7 hbw7; have U8 := Lib.hid (Fx.under_new G6.out rfl); have G9 := Lib.hid (Fx.newB G6.out hkw7.out hbw7); clear G6; clear hkw7 hsw7 hbw7)
      | (with_reducible refine at_any ?_; refine at_store 8 rfl ?_; refine wpList_store_any rfl 25 (.tmp 8) (.tmp 35) rfl w3.heap.size rfl 25 #[.slice none 0 0] (#[.slice A4 0 c5]) (Fx.b0 G9.out) rfl (size1 _ _) (sizedF _) (fen_ones _ _ _) ?_; intro w10 hkw10 hsw10 hbw10 how10; have G11 := Lib.hid (Fx.put1B G9.out U8.out hkw10.out hsw10.out hbw10 how10); clear G9; clear hkw10 hsw10 hbw10 how10; have cz12 := Blk.cell0 (Fx.b0 G11.out)))
    go_ret
    exact ⟨rfl, (Fx.e3 G11.out)⟩


set_option maxRecDepth 100000 in
theorem lifted (os : Os) (started : os.Started) (H : Type) (enc : TypeId × Value → H) :
    ReturnsInHanded {} Tryd.checked os 7 .any (fun w args => (Rows.fenTotalsSpec.pre enc Tryd.prog Tryd.f7 [] false w args ∧ laidMetH Tryd.prog laidT w) ∧ sizedMet enc Tryd.prog Tryd.f7 (OpenSpec.ofChange Rows.fenTotalsSpec) false w args) (Rows.fenTotalsSpec.post enc Tryd.prog Tryd.f7 false true false false) := by
  refine returnsInHanded_of_change_and (C := Tryd.checked) (X := fun w _ => laidMetH Tryd.prog laidT w) (fun _ _ _ hh h => h.of_heap hh) own started (by kernel_rfl) Tryd.func7
    (ChangeSpec.witness_shaped (enc := enc) (C := Tryd.checked) (os := os) (X := fun w _ => laidMetH Tryd.prog laidT w) false (World.doorLaid Tryd.prog 400 os) #[.slice none 0 0, .int .u16 0, .int .u64 0] 8 rfl (World.shaped_of_RefB (by kernel_rfl) (by kernel_rfl)) (by kernel_rfl) (by kernel_rfl) (by kernel_rfl) (door_metT os _)) ?_
  intro W base args ds gs before hval0 hW _ _ hL _
  have hval : ∀ (j : Nat) t v, Tryd.f7.params[j]? = some t → args[j]? = some v → Value.okWide Tryd.prog W .any base t v := hval0
  have hW' := hW
  obtain ⟨p, q, hA0, hV, rfl, hfz, hnd⟩ := hW
  have hA : DataW.TrodAll enc Tryd.prog W 0 (fun _ => true) true Tryd.f7.params.toList args.toList ds p := hA0
  rw [Tryd.params7] at hA hval
  obtain ⟨v0, vs0, d0, ds0, p0, q0, hargs, rfl, rfl, h0, r0⟩ := trodAll_cons hA
  obtain ⟨v1, vs1, d1, ds1, p1, q1, rfl, rfl, rfl, h1, r1⟩ := trodAll_cons r0
  obtain ⟨v2, vs2, d2, ds2, p2, q2, rfl, rfl, rfl, h2, r2⟩ := trodAll_cons r1
  obtain ⟨rfl, rfl, rfl⟩ := trodAll_nil r2
  obtain rfl : args = #[v0, v1, v2] := by cases args; simp_all
  obtain ⟨rfl, rfl⟩ := trodVars_none hV
  obtain ⟨a0, n0, c0, rfl⟩ := okWide_slice Tryd.underlying22 (hval 0 22 v0 rfl rfl)
  have k0 := h0
  have lt0 : ∀ x ∈ p0, x.block < W.heap.size := by obtain ⟨m, hm⟩ := k0; exact DataW.trod_lt m _ _ _ hm
  obtain ⟨z0, rd0, lc0, cm0, w0⟩ := open_rd Tryd.underlying22 Tryd.underlying32 (by kernel_rfl) h0
  obtain ⟨a1, rfl, rfl, rfl, w1⟩ := open_int Tryd.underlying54 (hval 1 54 v1 rfl rfl) h1
  obtain ⟨a2, rfl, rfl, rfl, w2⟩ := open_int Tryd.underlying32 (hval 2 32 v2 rfl rfl) h2
  clear hA0 hval0
  refine (walk a0 n0 c0 z0 a1 a2 W (tzT_of_laid hL) rd0 lc0 cm0 w0 w1 w2).mono fun e W' ⟨he, bel⟩ => ?_
  subst he
  exact ⟨_, rfl, _, _, _, [], _, [], hW', trodAll_mk1 (shut_bool Tryd.underlying4 _), (trodAll_cons_mk (Below.trod laidOut (by kernel_rfl) (of_decide_eq_true (by kernel_rfl)) k0 bel lt0) (trodAll_cons_mk (shut_int Tryd.underlying54 w1) (trodAll_cons_mk (shut_int Tryd.underlying32 w2) trodAll_mk0))), rfl, bel.frame _, fun h => by cases h⟩

theorem over : Rows.fenTotalsRow.holds Tryd.pinned (OpenSpec.ofChange Rows.fenTotalsSpec) :=
  OpenClaim.holds_of_wide 7 Tryd.f7 rfl rfl rfl rfl rfl rfl rfl ⟨rfl, rfl, rfl, rfl, rfl⟩ rfl rfl rfl rfl rfl (by kernel_rfl) Tryd.func7 (by kernel_rfl)
    (of_decide_eq_true (by kernel_rfl)) (by unfold Func.isWrapper; first | (rw [if_pos (by decide +kernel)]; kernel_rfl) | (rw [if_neg (by decide +kernel)]; exact ⟨rfl, rfl⟩))
    (fun os started H enc _ => lifted os started H enc)

end Go.Proofs.YtdpjambejmlppaaDoor.fenTotals
namespace Go.Proofs.YtdpjambejmlppaaDoor
theorem fenTotals_holds : Rows.FenTotalsCardSaid :=
  Claim7.holds_tied_plain_at .later [] [.data, .data] true _ false
    fenTotals.over (fun _ h => by cases h) (by kernel_rfl) (fun _ h => by cases h) fenTotals_row_tie rfl ⟨rfl, rfl⟩ (by kernel_rfl) rfl
    (fun f fn hf hfn => by
      obtain rfl : f = 7 := Option.some.inj ((show Tryd.prog.funcNamed "drawlot/drawlotlaw11.FenTotals" = some 7 by kernel_rfl).symm.trans hf) |>.symm
      obtain rfl : fn = Tryd.f7 := (Option.some.inj (Tryd.func7.symm.trans hfn)).symm
      exact ⟨by kernel_rfl, fun j t ht => by
        rw [Tryd.params7] at ht
        have hm : t ∈ [22, 54, 32] := by simpa using Array.mem_of_getElem? ht
        have hall : ([22, 54, 32].all fun u => !Tryd.prog.wantsStandIn u) = true := by kernel_rfl
        exact (show Tryd.prog.wantsStandIn t = false by simpa using List.all_eq_true.1 hall t hm)⟩)
    (by kernel_rfl)
#print axioms fenTotals_holds
end Go.Proofs.YtdpjambejmlppaaDoor

/-
  The shares of two places are as their stakes, by a tree, and by a table; of up to 20 stakes.
  Conditions: none.
-/
import Derived.Test.YtaaahgkpicjnoaaGc
import Derived.ShutString
import Derived.ChangeOld
namespace Go.Proofs.Ytaaahgkpicjnoaa.oddsShares
open Go.ChangeShapes Go.WideShapes Go.ChangeAt Go.RowKit
set_option linter.unusedVariables false
set_option linter.unusedSimpArgs false
set_option maxRecDepth 100000

theorem own : ownKnob Try.prog.godebug = none := by kernel_rfl
theorem laidOut : laidOutB Try.prog = true := by kernel_rfl

theorem idx (i : Int) (n : Nat) (i0 : 0 ≤ i) (i1 : i < 256) (hn : 1 ≤ n) (hn2 : n ≤ 20) : ∃ p : Nat, i.tmod (n : Int) = (p : Int) ∧ p < n := by
  have h1 : i.tmod (n : Int) = i % (n : Int) := Int.tmod_eq_emod_of_nonneg i0
  have h2 := Int.emod_nonneg i (show (n : Int) ≠ 0 by omega)
  have h3 := Int.emod_lt_of_pos i (show (0 : Int) < (n : Int) by omega)
  exact ⟨(i % (n : Int)).toNat, by rw [h1]; omega, by omega⟩
set_option maxHeartbeats 16000000 in
theorem walk (i k : Int) (a : Option Addr) (n c : Nat) (zs : List Int) (w : World) (w0 : (Lit.int .u8 i).wf = true) (w1 : (Lit.int .u8 k).wf = true) (hrd : Rd .u64 w w.heap.size a n zs) (lc : n ≤ c) (cm : c ≤ maxLen) (hw : ∀ z ∈ zs, (Lit.int .u64 z).wf = true) :
    Calls Try.prog 6 #[.int .u8 i, .int .u8 k, .slice a n c] w fun e w' => e = .returned (.bool true) ∧ Below w.heap.size w w' := by
  have i0 : 0 ≤ i := (bounds_u8 w0).1
  have i1 : i < 256 := by have := (bounds_u8 w0).2; omega
  have k0 : 0 ≤ k := (bounds_u8 w1).1
  have k1 : k < 256 := by have := (bounds_u8 w1).2; omega
  have hz : ∀ z ∈ zs, 0 ≤ z ∧ z < 18446744073709551616 := fun z h => by
    obtain ⟨h1, h2⟩ := bounds_u64 (hw z h)
    omega
  have hlen := hrd.len
  have G0 : Hid (Fx [.rdb .u64 w.heap.size a n zs, .bel w] w) := Lib.hid ⟨⟨hrd, Nat.le_refl _⟩, Below.refl _ _, trivial⟩
  by_cases hg : 20 < n
  · have hg2 : (20 : Int) < (n : Int) := by omega
    clear hrd hw hz hlen hg i0 i1 k0 k1 w0 w1 lc cm
    go_enter Try.func6, Try.ntmps6
    go_wp2_with (first
      | (go_at_call 8; (with_reducible refine (alive16_c _).mono ?_); rintro e w1 ⟨rfl, hbw1⟩; have G2 := Lib.hid (Fx.below G0.out hbw1); clear G0; clear hbw1))
    go_ret
    exact ⟨rfl, (Fx.e1 G2.out)⟩
  by_cases hn0 : n = 0
  · subst hn0
    clear hrd hw hz hlen hg i0 i1 k0 k1 w0 w1 lc cm
    go_enter Try.func6, Try.ntmps6
    go_wp2_with (first
      | (go_at_call 8; (with_reducible refine (alive16_c _).mono ?_); rintro e w1 ⟨rfl, hbw1⟩; have G2 := Lib.hid (Fx.below G0.out hbw1); clear G0; clear hbw1))
    go_ret
    exact ⟨rfl, (Fx.e1 G2.out)⟩
  have hg2 : (n : Int) ≤ 20 := by omega
  have hg3 : (1 : Int) ≤ (n : Int) := by omega
  have tn0 : ((n : Int) == 0) = false := by rw [beq_eq_false_iff_ne]; omega
  obtain ⟨p, hp1, hp2⟩ := idx i n i0 i1 (by omega) (by omega)
  obtain ⟨q, hq1, hq2⟩ := idx k n k0 k1 (by omega) (by omega)
  have HPT := Lib.hid hp1
  have HQT := Lib.hid hq1
  have HNZ : Hid ((n : Int) ≠ 0) := Lib.hid (by omega)
  have HN2 : Hid (¬ n = 0) := Lib.hid hn0
  have HIW : Hid (IntKind.i64.wrap i = i) := Lib.hid (by rw [IntKind.wrap_i64]; omega)
  have HKW : Hid (IntKind.i64.wrap k = k) := Lib.hid (by rw [IntKind.wrap_i64]; omega)
  have HPW : Hid (IntKind.i64.wrap (p : Int) = (p : Int)) := Lib.hid (by rw [IntKind.wrap_i64]; omega)
  have HQW : Hid (IntKind.i64.wrap (q : Int) = (q : Int)) := Lib.hid (by rw [IntKind.wrap_i64]; omega)
  have HPL : Hid ((p : Int) < (n : Int)) := Lib.hid (by omega)
  have HQL : Hid ((q : Int) < (n : Int)) := Lib.hid (by omega)
  have HP0 : Hid ((0 : Int) ≤ (p : Int)) := Lib.hid (by omega)
  have HQ0 : Hid ((0 : Int) ≤ (q : Int)) := Lib.hid (by omega)
  obtain ⟨g, off, ha, -, -⟩ := hrd.at_ (by omega)
  subst ha
  have hcell : ∀ (j : Nat) (z : Int), j < n → zs.getD j 0 = z → Hid (∀ W, Rd .u64 W W.heap.size (some ⟨g, off, none⟩) n zs → W.cell? ⟨g, off + j, none⟩ = some (.int .u64 z)) := fun j z hj hzz => Lib.hid (fun W h => by
    obtain ⟨g', off', e1, _, e2⟩ := h.at_ (by omega)
    injection e1 with e1
    injection e1 with e1 e3
    subst e1 e3
    rw [← hzz]
    exact e2 j hj)
  obtain ⟨za, hza⟩ : ∃ z, zs.getD p 0 = z := ⟨_, rfl⟩
  obtain ⟨zb, hzb⟩ : ∃ z, zs.getD q 0 = z := ⟨_, rfl⟩
  have HCA := hcell p za hp2 hza
  have HCB := hcell q zb hq2 hzb
  have hz0 : ∀ z ∈ zs, 0 ≤ z := fun z h => (hz z h).1
  have hs0 := sumL_nn hz0
  have hza1 := hz _ (getD_in (l := zs) (k := p) (by omega))
  have hzb1 := hz _ (getD_in (l := zs) (k := q) (by omega))
  have hza2 := sumL_at hz0 (k := p) (by omega)
  have hzb2 := sumL_at hz0 (k := q) (by omega)
  rw [hza] at hza1 hza2
  rw [hzb] at hzb1 hzb2
  have hla := fun A c W h => q16lead_c (p : Int) (by omega) (by omega) 3 (by omega) (by omega) zs hz A n c (by omega) W h
  have hlb := fun A c W h => q16lead_c (q : Int) (by omega) (by omega) 3 (by omega) (by omega) zs hz A n c (by omega) W h
  have hpa := fun A c W h => q16pick_c (p : Int) (by omega) (by omega) 3 (by omega) (by omega) zs hz A n c (by omega) W h
  have hpb := fun A c W h => q16pick_c (q : Int) (by omega) (by omega) 3 (by omega) (by omega) zs hz A n c (by omega) W h
  have hle : ∀ j z, j < n → zs.getD j 0 = z → leadR' (j : Int) 3 zs = if sumL zs < 9223372036854775808 then (if sumL zs = 0 then (10, []) else shareR z (sumL zs) 3) else (11, []) := fun j z hj hzz => by
    unfold leadR'
    rw [if_pos (by omega), Int.toNat_natCast, if_pos (show (0 : Int) ≤ (j : Int) ∧ (j : Int) < zs.length by omega), hzz]
  have hpe : ∀ j z, j < n → zs.getD j 0 = z → pickR' (j : Int) 3 zs = if sumL zs < 9223372036854775808 then (if sumL zs = 0 then (10, []) else if (n : Int) * sumL zs < 9223372036854775808 then shareR ((n : Int) * z) ((n : Int) * sumL zs) 3 else (11, [])) else (11, []) := fun j z hj hzz => by
    unfold pickR'
    rw [if_pos (by omega), Int.toNat_natCast, if_pos (show (0 : Int) ≤ (j : Int) ∧ (j : Int) < zs.length by omega), hzz, hlen]
  rw [hle p za hp2 hza] at hla
  rw [hle q zb hq2 hzb] at hlb
  rw [hpe p za hp2 hza] at hpa
  rw [hpe q zb hq2 hzb] at hpb
  obtain ⟨t, ht⟩ : ∃ t, sumL zs = t := ⟨_, rfl⟩
  rw [ht] at hs0 hza2 hzb2 hla hlb hpa hpb
  clear hle hpe hcell hza hzb hz hz0 hw hrd ht w0 w1 lc cm hp1 hq1
  by_cases hok : t < 9223372036854775808 ∧ t ≠ 0
  · obtain ⟨hs1, ht0⟩ := hok
    have hmay : mayB t 3 = true := mayB_iff.2 ⟨by omega, hs1, by omega, by omega⟩
    have hxa : (if t < 9223372036854775808 then (if t = 0 then ((10 : Int), ([] : List Int)) else shareR za t 3) else (11, [])) = (0, natL (za.toNat * eachV t 3)) := by rw [if_pos hs1, if_neg ht0]; exact shareR_ok hmay hza2
    have hxb : (if t < 9223372036854775808 then (if t = 0 then ((10 : Int), ([] : List Int)) else shareR zb t 3) else (11, [])) = (0, natL (zb.toNat * eachV t 3)) := by rw [if_pos hs1, if_neg ht0]; exact shareR_ok hmay hzb2
    have hla1 := fun A c W h => ret_e (hla A c W h) hxa
    have hlb1 := fun A c W h => ret_e (hlb A c W h) hxb
    have lx := odd_len hmay (part_le hmay (p := za.toNat) (by omega))
    have ly := odd_len hmay (part_le hmay (p := zb.toNat) (by omega))
    have oa := small_len (n := za.toNat) (by omega)
    have ob := small_len (n := zb.toNat) (by omega)
    have htx := fun A B c d W h1 h2 => times_n (x := za.toNat * eachV t 3) (y := zb.toNat) (by omega) (by omega) A B c d W h1 h2
    have hty := fun A B c d W h1 h2 => times_n (x := zb.toNat * eachV t 3) (y := za.toNat) (by omega) (by omega) A B c d W h1 h2
    rw [show zb.toNat * eachV t 3 * za.toNat = za.toNat * eachV t 3 * zb.toNat by rw [Nat.mul_comm (zb.toNat * eachV t 3), ← Nat.mul_assoc, Nat.mul_right_comm]] at hty
    have hoa := fun W => r10of_c za hza1.1 hza1.2 W
    have hob := fun W => r10of_c zb hzb1.1 hzb1.2 W
    have hww : (natL (za.toNat * eachV t 3 * zb.toNat)).length ≤ 1000 := Nat.le_trans (mul_len lx ob) (by omega)
    obtain ⟨ZX, hZX⟩ : ∃ Z, natL (za.toNat * eachV t 3) = Z := ⟨_, rfl⟩
    obtain ⟨ZY, hZY⟩ : ∃ Z, natL (zb.toNat * eachV t 3) = Z := ⟨_, rfl⟩
    obtain ⟨ZW, hZW⟩ : ∃ Z, natL (za.toNat * eachV t 3 * zb.toNat) = Z := ⟨_, rfl⟩
    obtain ⟨OA, hOA⟩ : ∃ Z, natL za.toNat = Z := ⟨_, rfl⟩
    obtain ⟨OB, hOB⟩ : ∃ Z, natL zb.toNat = Z := ⟨_, rfl⟩
    rw [hZX] at hla1 lx htx
    rw [hZY] at hlb1 ly hty
    rw [hZW] at htx hty hww
    have HSW := Lib.hid (fun A B c d W h1 h2 => same_n (Z := ZW) hww A B c d W h1 h2)
    have tx : (ZX.length : Int) ≤ 200 := by omega
    have ty : (ZY.length : Int) ≤ 200 := by omega
    have HLA := Lib.hid hla1
    have HLB := Lib.hid hlb1
    by_cases hb : (n : Int) * t < 9223372036854775808
    · have hm2 : mayB ((n : Int) * t) 3 = true := mayB_iff.2 ⟨by have := Int.mul_pos (show (0 : Int) < (n : Int) by omega) (show 0 < t by omega); omega, hb, by omega, by omega⟩
      have hya : (if t < 9223372036854775808 then (if t = 0 then ((10 : Int), ([] : List Int)) else if (n : Int) * t < 9223372036854775808 then shareR ((n : Int) * za) ((n : Int) * t) 3 else (11, [])) else (11, [])) = (0, natL (((n : Int) * za).toNat * eachV ((n : Int) * t) 3)) := by rw [if_pos hs1, if_neg ht0, if_pos hb]; exact shareR_ok hm2 (Int.mul_le_mul_of_nonneg_left hza2 (by omega))
      have hyb : (if t < 9223372036854775808 then (if t = 0 then ((10 : Int), ([] : List Int)) else if (n : Int) * t < 9223372036854775808 then shareR ((n : Int) * zb) ((n : Int) * t) 3 else (11, [])) else (11, [])) = (0, natL (((n : Int) * zb).toNat * eachV ((n : Int) * t) 3)) := by rw [if_pos hs1, if_neg ht0, if_pos hb]; exact shareR_ok hm2 (Int.mul_le_mul_of_nonneg_left hzb2 (by omega))
      have hpa1 := fun A c W h => ret_e (hpa A c W h) hya
      have hpb1 := fun A c W h => ret_e (hpb A c W h) hyb
      have lu := odd_len hm2 (part_le hm2 (p := ((n : Int) * za).toNat) (by have := Int.mul_le_mul_of_nonneg_left hza2 (show (0 : Int) ≤ (n : Int) by omega); omega))
      have lv := odd_len hm2 (part_le hm2 (p := ((n : Int) * zb).toNat) (by have := Int.mul_le_mul_of_nonneg_left hzb2 (show (0 : Int) ≤ (n : Int) by omega); omega))
      have htu := fun A B c d W h1 h2 => times_n (x := ((n : Int) * za).toNat * eachV ((n : Int) * t) 3) (y := zb.toNat) (by omega) (by omega) A B c d W h1 h2
      have htv := fun A B c d W h1 h2 => times_n (x := ((n : Int) * zb).toNat * eachV ((n : Int) * t) 3) (y := za.toNat) (by omega) (by omega) A B c d W h1 h2
      have hna : ((n : Int) * za).toNat = n * za.toNat := by rw [Int.toNat_mul (by omega) hza1.1, Int.toNat_natCast]
      have hnb : ((n : Int) * zb).toNat = n * zb.toNat := by rw [Int.toNat_mul (by omega) hzb1.1, Int.toNat_natCast]
      have hqe : ((n : Int) * zb).toNat * eachV ((n : Int) * t) 3 * za.toNat = ((n : Int) * za).toNat * eachV ((n : Int) * t) 3 * zb.toNat := by
        rw [hna, hnb]
        obtain ⟨e, he⟩ : ∃ e, eachV ((n : Int) * t) 3 = e := ⟨_, rfl⟩
        rw [he]
        obtain ⟨x, hx⟩ : ∃ x, za.toNat = x := ⟨_, rfl⟩
        obtain ⟨y, hy⟩ : ∃ x, zb.toNat = x := ⟨_, rfl⟩
        rw [hx, hy, Nat.mul_right_comm (n * y), Nat.mul_right_comm (n * x), Nat.mul_assoc n y x, Nat.mul_assoc n x y, Nat.mul_comm y x]
      rw [hqe] at htv
      have hqq : (natL (((n : Int) * za).toNat * eachV ((n : Int) * t) 3 * zb.toNat)).length ≤ 1000 := Nat.le_trans (mul_len lu ob) (by omega)
      obtain ⟨ZU, hZU⟩ : ∃ Z, natL (((n : Int) * za).toNat * eachV ((n : Int) * t) 3) = Z := ⟨_, rfl⟩
      obtain ⟨ZV, hZV⟩ : ∃ Z, natL (((n : Int) * zb).toNat * eachV ((n : Int) * t) 3) = Z := ⟨_, rfl⟩
      obtain ⟨ZQ, hZQ⟩ : ∃ Z, natL (((n : Int) * za).toNat * eachV ((n : Int) * t) 3 * zb.toNat) = Z := ⟨_, rfl⟩
      rw [hZU] at hpa1 lu htu
      rw [hZV] at hpb1 lv htv
      rw [hZQ] at htu htv hqq
      rw [hOA] at hty htv hoa
      rw [hOB] at htx htu hob
      unfold RetN at htx hty htu htv hoa hob
      have HSV := Lib.hid (fun A B c d W h1 h2 => same_n (Z := ZQ) hqq A B c d W h1 h2)
      have tu : (ZU.length : Int) ≤ 200 := by omega
      have tv : (ZV.length : Int) ≤ 200 := by omega
      have HPA := Lib.hid hpa1
      have HPB := Lib.hid hpb1
      have HTX := Lib.hid htx
      have HTY := Lib.hid hty
      have HTU := Lib.hid htu
      have HTV := Lib.hid htv
      have HOA := Lib.hid hoa
      have HOB := Lib.hid hob
      clear hla hlb hpa hpb hla1 hlb1 hpa1 hpb1 htx hty htu htv hoa hob lx ly lu lv oa ob hww hqq hqe hna hnb hZX hZY hZW hOA hOB hZU hZV hZQ hxa hxb hya hyb hmay hm2 hza1 hzb1 hza2 hzb2 hs0 hs1 ht0 hb hp2 hq2 hlen hg i0 i1 k0 k1 hn0
      go_enter Try.func6, Try.ntmps6
      go_wp2_with (first
        | (go_at_call 8; (with_reducible refine (alive16_c _).mono ?_); rintro e w1 ⟨rfl, hbw1⟩; have G2 := Lib.hid (Fx.below G0.out hbw1); clear G0; clear hbw1))
      refine wp_region_held_drew (S := (Fx [.rdb .u64 w.heap.size (some ⟨g, off, none⟩) n zs, .bel w])) (by kernel_rfl) (Fx.drew G2.out) (fun hH => ?_)
      refine wpAnyH_letter #[false, false, false, false, false, false, false, false, false, false, false, false] (by kernel_rfl) (fun _ _ d _ _ h => by cases d <;> exact h) (fun QL HQ1 HQ2 => ?_)
      refine held_v 0 (some 27) rfl (by kernel_rfl) (by kernel_rfl) (by kernel_rfl) (by kernel_rfl) (fun c a v w h => HQ2.out c a _ v w h) (by kernel_rfl) (.int .u8 i) (fun W h => by kernel_rfl) hH ?_
      try simp only [Act.put, List.setIfInBounds_toArray, List.set_cons_zero, List.set_cons_succ]
      refine held_v 1 (some 28) rfl (by kernel_rfl) (by kernel_rfl) (by kernel_rfl) (by kernel_rfl) (fun c a v w h => HQ2.out c a _ v w h) (by kernel_rfl) (.int .i64 i) (fun W h => by have p := HIW.out; go_simp) hH ?_
      try simp only [Act.put, List.setIfInBounds_toArray, List.set_cons_zero, List.set_cons_succ]
      refine held_v 2 (some 29) rfl (by kernel_rfl) (by kernel_rfl) (by kernel_rfl) (by kernel_rfl) (fun c a v w h => HQ2.out c a _ v w h) (by kernel_rfl) (.slice (some ⟨g, off, none⟩) n c) (fun W h => by kernel_rfl) hH ?_
      try simp only [Act.put, List.setIfInBounds_toArray, List.set_cons_zero, List.set_cons_succ]
      refine held_v 3 (some 30) rfl (by kernel_rfl) (by kernel_rfl) (by kernel_rfl) (by kernel_rfl) (fun c a v w h => HQ2.out c a _ v w h) (by kernel_rfl) (.int .i64 n) (fun W h => by go_simp) hH ?_
      try simp only [Act.put, List.setIfInBounds_toArray, List.set_cons_zero, List.set_cons_succ]
      refine held_v 4 (some 31) rfl (by kernel_rfl) (by kernel_rfl) (by kernel_rfl) (by kernel_rfl) (fun c a v w h => HQ2.out c a _ v w h) (by kernel_rfl) (.int .i64 (p : Int)) (fun W h => by have p1 := HPT.out; have p2 := HNZ.out; have p4 := HN2.out; have p3 := HPW.out; go_simp) hH ?_
      try simp only [Act.put, List.setIfInBounds_toArray, List.set_cons_zero, List.set_cons_succ]
      refine held_v 5 (some 32) rfl (by kernel_rfl) (by kernel_rfl) (by kernel_rfl) (by kernel_rfl) (fun c a v w h => HQ2.out c a _ v w h) (by kernel_rfl) (.int .u8 k) (fun W h => by kernel_rfl) hH ?_
      try simp only [Act.put, List.setIfInBounds_toArray, List.set_cons_zero, List.set_cons_succ]
      refine held_v 6 (some 33) rfl (by kernel_rfl) (by kernel_rfl) (by kernel_rfl) (by kernel_rfl) (fun c a v w h => HQ2.out c a _ v w h) (by kernel_rfl) (.int .i64 k) (fun W h => by have p := HKW.out; go_simp) hH ?_
      try simp only [Act.put, List.setIfInBounds_toArray, List.set_cons_zero, List.set_cons_succ]
      refine held_v 7 (some 34) rfl (by kernel_rfl) (by kernel_rfl) (by kernel_rfl) (by kernel_rfl) (fun c a v w h => HQ2.out c a _ v w h) (by kernel_rfl) (.slice (some ⟨g, off, none⟩) n c) (fun W h => by kernel_rfl) hH ?_
      try simp only [Act.put, List.setIfInBounds_toArray, List.set_cons_zero, List.set_cons_succ]
      refine held_v 8 (some 35) rfl (by kernel_rfl) (by kernel_rfl) (by kernel_rfl) (by kernel_rfl) (fun c a v w h => HQ2.out c a _ v w h) (by kernel_rfl) (.int .i64 n) (fun W h => by go_simp) hH ?_
      try simp only [Act.put, List.setIfInBounds_toArray, List.set_cons_zero, List.set_cons_succ]
      refine held_v 9 (some 36) rfl (by kernel_rfl) (by kernel_rfl) (by kernel_rfl) (by kernel_rfl) (fun c a v w h => HQ2.out c a _ v w h) (by kernel_rfl) (.int .i64 (q : Int)) (fun W h => by have p1 := HQT.out; have p2 := HNZ.out; have p4 := HN2.out; have p3 := HQW.out; go_simp) hH ?_
      try simp only [Act.put, List.setIfInBounds_toArray, List.set_cons_zero, List.set_cons_succ]
      refine held_v 10 (some 7) rfl (by kernel_rfl) (by kernel_rfl) (by kernel_rfl) (by kernel_rfl) (fun c a v w h => HQ2.out c a _ v w h) (by kernel_rfl) (.int .i64 (p : Int)) (fun W h => by kernel_rfl) hH ?_
      try simp only [Act.put, List.setIfInBounds_toArray, List.set_cons_zero, List.set_cons_succ]
      refine held_v 11 (some 8) rfl (by kernel_rfl) (by kernel_rfl) (by kernel_rfl) (by kernel_rfl) (fun c a v w h => HQ2.out c a _ v w h) (by kernel_rfl) (.int .i64 (q : Int)) (fun W h => by kernel_rfl) hH ?_
      try simp only [Act.put, List.setIfInBounds_toArray, List.set_cons_zero, List.set_cons_succ]
      refine wpAnyH_done (by kernel_rfl) ?_ _
      refine HQ1.out _ _ ?_
      clear HQ1 HQ2
      have G40 := Lib.hid hH
      go_wp2_with (first
        | (go_at_call 20; (with_reducible refine (HLA.out _ _ _ (Fx.r0 G40.out)).mono ?_); rintro e w41 ⟨A42, c43, rfl, hlw41, hmw41, hrw41, hbw41⟩; have lc43 := Lib.hid hlw41; have mc43 := Lib.hid hmw41; have G44 := Lib.hid (Fx.addR G40.out hbw41 hrw41); clear G40; clear hrw41 hbw41 hlw41 hmw41)
        | (go_at_call 20; (with_reducible refine (HLB.out _ _ _ (Fx.r1 G44.out)).mono ?_); rintro e w45 ⟨A46, c47, rfl, hlw45, hmw45, hrw45, hbw45⟩; have lc47 := Lib.hid hlw45; have mc47 := Lib.hid hmw45; have G48 := Lib.hid (Fx.addR G44.out hbw45 hrw45); clear G44; clear hrw45 hbw45 hlw45 hmw45)
        | (go_at_call 22; (with_reducible refine (HPA.out _ _ _ (Fx.r2 G48.out)).mono ?_); rintro e w49 ⟨A50, c51, rfl, hlw49, hmw49, hrw49, hbw49⟩; have lc51 := Lib.hid hlw49; have mc51 := Lib.hid hmw49; have G52 := Lib.hid (Fx.addR G48.out hbw49 hrw49); clear G48; clear hrw49 hbw49 hlw49 hmw49)
        | (go_at_call 22; (with_reducible refine (HPB.out _ _ _ (Fx.r3 G52.out)).mono ?_); rintro e w53 ⟨A54, c55, rfl, hlw53, hmw53, hrw53, hbw53⟩; have lc55 := Lib.hid hlw53; have mc55 := Lib.hid hmw53; have G56 := Lib.hid (Fx.addR G52.out hbw53 hrw53); clear G52; clear hrw53 hbw53 hlw53 hmw53))
      refine wp_region_held_drew (S := (Fx [.rdb .u32 w53.heap.size A54 ZV.length ZV, .rdb .u32 w49.heap.size A50 ZU.length ZU, .rdb .u32 w45.heap.size A46 ZY.length ZY, .rdb .u32 w41.heap.size A42 ZX.length ZX, .rdb .u64 w.heap.size (some ⟨g, off, none⟩) n zs, .bel w])) (by kernel_rfl) (Fx.drew G56.out) (fun hH => ?_)
      refine wpAnyH_letter #[false, false, false, false, false, false, false, false, false, false, false, false, false, false, false, false] (by kernel_rfl) (fun _ _ d _ _ h => by cases d <;> exact h) (fun QL HQ1 HQ2 => ?_)
      refine held_v 0 (some 96) rfl (by kernel_rfl) (by kernel_rfl) (by kernel_rfl) (by kernel_rfl) (fun c a v w h => HQ2.out c a _ v w h) (by kernel_rfl) (.slice A42 ZX.length c43) (fun W h => by kernel_rfl) hH ?_
      try simp only [Act.put, List.setIfInBounds_toArray, List.set_cons_zero, List.set_cons_succ]
      refine held_v 1 (some 97) rfl (by kernel_rfl) (by kernel_rfl) (by kernel_rfl) (by kernel_rfl) (fun c a v w h => HQ2.out c a _ v w h) (by kernel_rfl) (.slice (some ⟨g, off, none⟩) n c) (fun W h => by kernel_rfl) hH ?_
      try simp only [Act.put, List.setIfInBounds_toArray, List.set_cons_zero, List.set_cons_succ]
      refine held_v 2 (some 98) rfl (by kernel_rfl) (by kernel_rfl) (by kernel_rfl) (by kernel_rfl) (fun c a v w h => HQ2.out c a _ v w h) (by kernel_rfl) (.int .i64 (q : Int)) (fun W h => by kernel_rfl) hH ?_
      try simp only [Act.put, List.setIfInBounds_toArray, List.set_cons_zero, List.set_cons_succ]
      refine held_v 3 (some 99) rfl (by kernel_rfl) (by kernel_rfl) (by kernel_rfl) (by kernel_rfl) (fun c a v w h => HQ2.out c a _ v w h) (by kernel_rfl) (.pointer (some ⟨g, off + q, none⟩)) (fun W h => by have p1 := HQL.out; have p2 := HQ0.out; go_simp) hH ?_
      try simp only [Act.put, List.setIfInBounds_toArray, List.set_cons_zero, List.set_cons_succ]
      refine held_v 4 (some 100) rfl (by kernel_rfl) (by kernel_rfl) (by kernel_rfl) (by kernel_rfl) (fun c a v w h => HQ2.out c a _ v w h) (by kernel_rfl) (.int .u64 zb) (fun W h => by have p := HCB.out W (Fx.r4 h); go_simp) hH ?_
      try simp only [Act.put, List.setIfInBounds_toArray, List.set_cons_zero, List.set_cons_succ]
      refine held_v 7 (some 103) rfl (by kernel_rfl) (by kernel_rfl) (by kernel_rfl) (by kernel_rfl) (fun c a v w h => HQ2.out c a _ v w h) (by kernel_rfl) (.slice A46 ZY.length c47) (fun W h => by kernel_rfl) hH ?_
      try simp only [Act.put, List.setIfInBounds_toArray, List.set_cons_zero, List.set_cons_succ]
      refine held_v 8 (some 104) rfl (by kernel_rfl) (by kernel_rfl) (by kernel_rfl) (by kernel_rfl) (fun c a v w h => HQ2.out c a _ v w h) (by kernel_rfl) (.slice (some ⟨g, off, none⟩) n c) (fun W h => by kernel_rfl) hH ?_
      try simp only [Act.put, List.setIfInBounds_toArray, List.set_cons_zero, List.set_cons_succ]
      refine held_v 9 (some 105) rfl (by kernel_rfl) (by kernel_rfl) (by kernel_rfl) (by kernel_rfl) (fun c a v w h => HQ2.out c a _ v w h) (by kernel_rfl) (.int .i64 (p : Int)) (fun W h => by kernel_rfl) hH ?_
      try simp only [Act.put, List.setIfInBounds_toArray, List.set_cons_zero, List.set_cons_succ]
      refine held_v 10 (some 106) rfl (by kernel_rfl) (by kernel_rfl) (by kernel_rfl) (by kernel_rfl) (fun c a v w h => HQ2.out c a _ v w h) (by kernel_rfl) (.pointer (some ⟨g, off + p, none⟩)) (fun W h => by have p1 := HPL.out; have p2 := HP0.out; go_simp) hH ?_
      try simp only [Act.put, List.setIfInBounds_toArray, List.set_cons_zero, List.set_cons_succ]
      refine held_v 11 (some 107) rfl (by kernel_rfl) (by kernel_rfl) (by kernel_rfl) (by kernel_rfl) (fun c a v w h => HQ2.out c a _ v w h) (by kernel_rfl) (.int .u64 za) (fun W h => by have p := HCA.out W (Fx.r4 h); go_simp) hH ?_
      try simp only [Act.put, List.setIfInBounds_toArray, List.set_cons_zero, List.set_cons_succ]
      refine wpAnyH_ready (rs := [5]) (by kernel_rfl) (by decide) ?_
      refine AllReadyH.cons rfl (fun K hK => ?_) AllReadyH.nil
      refine step_call (some 101) (by kernel_rfl) (by kernel_rfl) _ _ (by kernel_rfl) _ (HOB.out w53.drew) ?_
      rintro e w81 ⟨A5, c5, rfl, hl5, hm5, hr5, hbw81⟩
      have ex82 : Fx [.rd .u32 A5 OB.length OB] w81 := ⟨hr5, trivial⟩
      refine ⟨_, rfl, ?_⟩
      refine hK.out _ _ (hH.below hbw81) (fun hw81 => ?_)
      clear hK K
      try simp only [Act.put, List.setIfInBounds_toArray, List.set_cons_zero, List.set_cons_succ]
      refine wpAnyH_ready (rs := [6]) (by kernel_rfl) (by decide) ?_
      refine AllReadyH.cons rfl (fun K hK => ?_) AllReadyH.nil
      refine step_call (some 102) (by kernel_rfl) (by kernel_rfl) _ _ (by kernel_rfl) _ (HTX.out A42 A5 c43 c5 w81 (Fx.r3 hw81) ex82.1) ?_
      rintro e w83 ⟨A6, c6, rfl, hl6, hm6, hr6, hbw83⟩
      have ex84 : Fx [.rd .u32 A6 ZW.length ZW] w83 := ⟨hr6, trivial⟩
      refine ⟨_, rfl, ?_⟩
      refine hK.out _ _ (hw81.below hbw83) (fun hw83 => ?_)
      clear hK K
      try simp only [Act.put, List.setIfInBounds_toArray, List.set_cons_zero, List.set_cons_succ]
      refine wpAnyH_ready (rs := [12]) (by kernel_rfl) (by decide) ?_
      refine AllReadyH.cons rfl (fun K hK => ?_) AllReadyH.nil
      refine step_call (some 108) (by kernel_rfl) (by kernel_rfl) _ _ (by kernel_rfl) _ (HOA.out w83) ?_
      rintro e w85 ⟨A12, c12, rfl, hl12, hm12, hr12, hbw85⟩
      have ex86 := ex84.below hbw85
      have ex87 : Fx [.rd .u32 A12 OA.length OA] w85 := ⟨hr12, trivial⟩
      refine ⟨_, rfl, ?_⟩
      refine hK.out _ _ (hw83.below hbw85) (fun hw85 => ?_)
      clear hK K
      try simp only [Act.put, List.setIfInBounds_toArray, List.set_cons_zero, List.set_cons_succ]
      refine wpAnyH_ready (rs := [13]) (by kernel_rfl) (by decide) ?_
      refine AllReadyH.cons rfl (fun K hK => ?_) AllReadyH.nil
      refine step_call (some 109) (by kernel_rfl) (by kernel_rfl) _ _ (by kernel_rfl) _ (HTY.out A46 A12 c47 c12 w85 (Fx.r2 hw85) ex87.1) ?_
      rintro e w88 ⟨A13, c13, rfl, hl13, hm13, hr13, hbw88⟩
      have ex89 := ex86.below hbw88
      have ex90 : Fx [.rd .u32 A13 ZW.length ZW] w88 := ⟨hr13, trivial⟩
      refine ⟨_, rfl, ?_⟩
      refine hK.out _ _ (hw85.below hbw88) (fun hw88 => ?_)
      clear hK K
      try simp only [Act.put, List.setIfInBounds_toArray, List.set_cons_zero, List.set_cons_succ]
      refine wpAnyH_ready (rs := [14]) (by kernel_rfl) (by decide) ?_
      refine AllReadyH.cons rfl (fun K hK => ?_) AllReadyH.nil
      refine step_call (some 110) (by kernel_rfl) (by kernel_rfl) _ _ (by kernel_rfl) _ (HSW.out A6 A13 c6 c13 w88 ex89.1 ex90.1) ?_
      rintro e w91 ⟨rfl, hbw91⟩
      refine ⟨_, rfl, ?_⟩
      refine hK.out _ _ (hw88.below hbw91) (fun hw91 => ?_)
      clear hK K
      try simp only [Act.put, List.setIfInBounds_toArray, List.set_cons_zero, List.set_cons_succ]
      refine held_v 15 (some 111) rfl (by kernel_rfl) (by kernel_rfl) (by kernel_rfl) (by kernel_rfl) (fun c a v w h => HQ2.out c a _ v w h) (by kernel_rfl) (.bool false) (fun W h => by kernel_rfl) hw91 ?_
      try simp only [Act.put, List.setIfInBounds_toArray, List.set_cons_zero, List.set_cons_succ]
      refine wpAnyH_done (by kernel_rfl) ?_ _
      refine HQ1.out _ _ ?_
      clear HQ1 HQ2
      have G60 := Lib.hid hw91
      go_wp2
      refine wp_region_held_drew (S := (Fx [.rdb .u32 w53.heap.size A54 ZV.length ZV, .rdb .u32 w49.heap.size A50 ZU.length ZU, .rdb .u32 w45.heap.size A46 ZY.length ZY, .rdb .u32 w41.heap.size A42 ZX.length ZX, .rdb .u64 w.heap.size (some ⟨g, off, none⟩) n zs, .bel w])) (by kernel_rfl) (Fx.drew G60.out) (fun hH => ?_)
      refine wpAnyH_letter #[false, false, false, false, false, false, false, false, false, false, false, false, false, false, false, false] (by kernel_rfl) (fun _ _ d _ _ h => by cases d <;> exact h) (fun QL HQ1 HQ2 => ?_)
      refine held_v 0 (some 125) rfl (by kernel_rfl) (by kernel_rfl) (by kernel_rfl) (by kernel_rfl) (fun c a v w h => HQ2.out c a _ v w h) (by kernel_rfl) (.slice A50 ZU.length c51) (fun W h => by kernel_rfl) hH ?_
      try simp only [Act.put, List.setIfInBounds_toArray, List.set_cons_zero, List.set_cons_succ]
      refine held_v 1 (some 126) rfl (by kernel_rfl) (by kernel_rfl) (by kernel_rfl) (by kernel_rfl) (fun c a v w h => HQ2.out c a _ v w h) (by kernel_rfl) (.slice (some ⟨g, off, none⟩) n c) (fun W h => by kernel_rfl) hH ?_
      try simp only [Act.put, List.setIfInBounds_toArray, List.set_cons_zero, List.set_cons_succ]
      refine held_v 2 (some 127) rfl (by kernel_rfl) (by kernel_rfl) (by kernel_rfl) (by kernel_rfl) (fun c a v w h => HQ2.out c a _ v w h) (by kernel_rfl) (.int .i64 (q : Int)) (fun W h => by kernel_rfl) hH ?_
      try simp only [Act.put, List.setIfInBounds_toArray, List.set_cons_zero, List.set_cons_succ]
      refine held_v 3 (some 128) rfl (by kernel_rfl) (by kernel_rfl) (by kernel_rfl) (by kernel_rfl) (fun c a v w h => HQ2.out c a _ v w h) (by kernel_rfl) (.pointer (some ⟨g, off + q, none⟩)) (fun W h => by have p1 := HQL.out; have p2 := HQ0.out; go_simp) hH ?_
      try simp only [Act.put, List.setIfInBounds_toArray, List.set_cons_zero, List.set_cons_succ]
      refine held_v 4 (some 129) rfl (by kernel_rfl) (by kernel_rfl) (by kernel_rfl) (by kernel_rfl) (fun c a v w h => HQ2.out c a _ v w h) (by kernel_rfl) (.int .u64 zb) (fun W h => by have p := HCB.out W (Fx.r4 h); go_simp) hH ?_
      try simp only [Act.put, List.setIfInBounds_toArray, List.set_cons_zero, List.set_cons_succ]
      refine held_v 7 (some 132) rfl (by kernel_rfl) (by kernel_rfl) (by kernel_rfl) (by kernel_rfl) (fun c a v w h => HQ2.out c a _ v w h) (by kernel_rfl) (.slice A54 ZV.length c55) (fun W h => by kernel_rfl) hH ?_
      try simp only [Act.put, List.setIfInBounds_toArray, List.set_cons_zero, List.set_cons_succ]
      refine held_v 8 (some 133) rfl (by kernel_rfl) (by kernel_rfl) (by kernel_rfl) (by kernel_rfl) (fun c a v w h => HQ2.out c a _ v w h) (by kernel_rfl) (.slice (some ⟨g, off, none⟩) n c) (fun W h => by kernel_rfl) hH ?_
      try simp only [Act.put, List.setIfInBounds_toArray, List.set_cons_zero, List.set_cons_succ]
      refine held_v 9 (some 134) rfl (by kernel_rfl) (by kernel_rfl) (by kernel_rfl) (by kernel_rfl) (fun c a v w h => HQ2.out c a _ v w h) (by kernel_rfl) (.int .i64 (p : Int)) (fun W h => by kernel_rfl) hH ?_
      try simp only [Act.put, List.setIfInBounds_toArray, List.set_cons_zero, List.set_cons_succ]
      refine held_v 10 (some 135) rfl (by kernel_rfl) (by kernel_rfl) (by kernel_rfl) (by kernel_rfl) (fun c a v w h => HQ2.out c a _ v w h) (by kernel_rfl) (.pointer (some ⟨g, off + p, none⟩)) (fun W h => by have p1 := HPL.out; have p2 := HP0.out; go_simp) hH ?_
      try simp only [Act.put, List.setIfInBounds_toArray, List.set_cons_zero, List.set_cons_succ]
      refine held_v 11 (some 136) rfl (by kernel_rfl) (by kernel_rfl) (by kernel_rfl) (by kernel_rfl) (fun c a v w h => HQ2.out c a _ v w h) (by kernel_rfl) (.int .u64 za) (fun W h => by have p := HCA.out W (Fx.r4 h); go_simp) hH ?_
      try simp only [Act.put, List.setIfInBounds_toArray, List.set_cons_zero, List.set_cons_succ]
      refine wpAnyH_ready (rs := [5]) (by kernel_rfl) (by decide) ?_
      refine AllReadyH.cons rfl (fun K hK => ?_) AllReadyH.nil
      refine step_call (some 130) (by kernel_rfl) (by kernel_rfl) _ _ (by kernel_rfl) _ (HOB.out w91.drew) ?_
      rintro e w201 ⟨A5, c5, rfl, hl5, hm5, hr5, hbw201⟩
      have ex202 : Fx [.rd .u32 A5 OB.length OB] w201 := ⟨hr5, trivial⟩
      refine ⟨_, rfl, ?_⟩
      refine hK.out _ _ (hH.below hbw201) (fun hw201 => ?_)
      clear hK K
      try simp only [Act.put, List.setIfInBounds_toArray, List.set_cons_zero, List.set_cons_succ]
      refine wpAnyH_ready (rs := [6]) (by kernel_rfl) (by decide) ?_
      refine AllReadyH.cons rfl (fun K hK => ?_) AllReadyH.nil
      refine step_call (some 131) (by kernel_rfl) (by kernel_rfl) _ _ (by kernel_rfl) _ (HTU.out A50 A5 c51 c5 w201 (Fx.r1 hw201) ex202.1) ?_
      rintro e w203 ⟨A6, c6, rfl, hl6, hm6, hr6, hbw203⟩
      have ex204 : Fx [.rd .u32 A6 ZQ.length ZQ] w203 := ⟨hr6, trivial⟩
      refine ⟨_, rfl, ?_⟩
      refine hK.out _ _ (hw201.below hbw203) (fun hw203 => ?_)
      clear hK K
      try simp only [Act.put, List.setIfInBounds_toArray, List.set_cons_zero, List.set_cons_succ]
      refine wpAnyH_ready (rs := [12]) (by kernel_rfl) (by decide) ?_
      refine AllReadyH.cons rfl (fun K hK => ?_) AllReadyH.nil
      refine step_call (some 137) (by kernel_rfl) (by kernel_rfl) _ _ (by kernel_rfl) _ (HOA.out w203) ?_
      rintro e w205 ⟨A12, c12, rfl, hl12, hm12, hr12, hbw205⟩
      have ex206 := ex204.below hbw205
      have ex207 : Fx [.rd .u32 A12 OA.length OA] w205 := ⟨hr12, trivial⟩
      refine ⟨_, rfl, ?_⟩
      refine hK.out _ _ (hw203.below hbw205) (fun hw205 => ?_)
      clear hK K
      try simp only [Act.put, List.setIfInBounds_toArray, List.set_cons_zero, List.set_cons_succ]
      refine wpAnyH_ready (rs := [13]) (by kernel_rfl) (by decide) ?_
      refine AllReadyH.cons rfl (fun K hK => ?_) AllReadyH.nil
      refine step_call (some 138) (by kernel_rfl) (by kernel_rfl) _ _ (by kernel_rfl) _ (HTV.out A54 A12 c55 c12 w205 (Fx.r0 hw205) ex207.1) ?_
      rintro e w208 ⟨A13, c13, rfl, hl13, hm13, hr13, hbw208⟩
      have ex209 := ex206.below hbw208
      have ex210 : Fx [.rd .u32 A13 ZQ.length ZQ] w208 := ⟨hr13, trivial⟩
      refine ⟨_, rfl, ?_⟩
      refine hK.out _ _ (hw205.below hbw208) (fun hw208 => ?_)
      clear hK K
      try simp only [Act.put, List.setIfInBounds_toArray, List.set_cons_zero, List.set_cons_succ]
      refine wpAnyH_ready (rs := [14]) (by kernel_rfl) (by decide) ?_
      refine AllReadyH.cons rfl (fun K hK => ?_) AllReadyH.nil
      refine step_call (some 139) (by kernel_rfl) (by kernel_rfl) _ _ (by kernel_rfl) _ (HSV.out A6 A13 c6 c13 w208 ex209.1 ex210.1) ?_
      rintro e w211 ⟨rfl, hbw211⟩
      refine ⟨_, rfl, ?_⟩
      refine hK.out _ _ (hw208.below hbw211) (fun hw211 => ?_)
      clear hK K
      try simp only [Act.put, List.setIfInBounds_toArray, List.set_cons_zero, List.set_cons_succ]
      refine held_v 15 (some 6) rfl (by kernel_rfl) (by kernel_rfl) (by kernel_rfl) (by kernel_rfl) (fun c a v w h => HQ2.out c a _ v w h) (by kernel_rfl) (.bool true) (fun W h => by kernel_rfl) hw211 ?_
      try simp only [Act.put, List.setIfInBounds_toArray, List.set_cons_zero, List.set_cons_succ]
      refine wpAnyH_done (by kernel_rfl) ?_ _
      refine HQ1.out _ _ ?_
      clear HQ1 HQ2
      go_wp2
      go_ret
      exact ⟨rfl, Fx.e5 hw211⟩
    · have hya : (if t < 9223372036854775808 then (if t = 0 then ((10 : Int), ([] : List Int)) else if (n : Int) * t < 9223372036854775808 then shareR ((n : Int) * za) ((n : Int) * t) 3 else (11, [])) else (11, [])) = (11, []) := by rw [if_pos hs1, if_neg ht0, if_neg hb]
      have hyb : (if t < 9223372036854775808 then (if t = 0 then ((10 : Int), ([] : List Int)) else if (n : Int) * t < 9223372036854775808 then shareR ((n : Int) * zb) ((n : Int) * t) 3 else (11, [])) else (11, [])) = (11, []) := by rw [if_pos hs1, if_neg ht0, if_neg hb]
      obtain ⟨ZU, hZU⟩ : ∃ Z : List Int, [] = Z := ⟨_, rfl⟩
      obtain ⟨ZV, hZV⟩ : ∃ Z : List Int, [] = Z := ⟨_, rfl⟩
      have tu : (ZU.length : Int) ≤ 200 := by rw [← hZU]; simp
      have tv : (ZV.length : Int) ≤ 200 := by rw [← hZV]; simp
      have hpa1 := fun A c W h => ret_e (hpa A c W h) (hya.trans (by rw [hZU]))
      have hpb1 := fun A c W h => ret_e (hpb A c W h) (hyb.trans (by rw [hZV]))
      rw [hOA] at hty hoa
      rw [hOB] at htx hob
      unfold RetN at htx hty hoa hob
      have HPA := Lib.hid hpa1
      have HPB := Lib.hid hpb1
      have HTX := Lib.hid htx
      have HTY := Lib.hid hty
      have HOA := Lib.hid hoa
      have HOB := Lib.hid hob
      clear hla hlb hpa hpb hla1 hlb1 hpa1 hpb1 htx hty hoa hob lx ly oa ob hww hZX hZY hZW hOA hOB hZU hZV hxa hxb hya hyb hmay hza1 hzb1 hza2 hzb2 hs0 hs1 ht0 hb hp2 hq2 hlen hg i0 i1 k0 k1 hn0
      go_enter Try.func6, Try.ntmps6
      go_wp2_with (first
        | (go_at_call 8; (with_reducible refine (alive16_c _).mono ?_); rintro e w1 ⟨rfl, hbw1⟩; have G2 := Lib.hid (Fx.below G0.out hbw1); clear G0; clear hbw1))
      refine wp_region_held_drew (S := (Fx [.rdb .u64 w.heap.size (some ⟨g, off, none⟩) n zs, .bel w])) (by kernel_rfl) (Fx.drew G2.out) (fun hH => ?_)
      refine wpAnyH_letter #[false, false, false, false, false, false, false, false, false, false, false, false] (by kernel_rfl) (fun _ _ d _ _ h => by cases d <;> exact h) (fun QL HQ1 HQ2 => ?_)
      refine held_v 0 (some 27) rfl (by kernel_rfl) (by kernel_rfl) (by kernel_rfl) (by kernel_rfl) (fun c a v w h => HQ2.out c a _ v w h) (by kernel_rfl) (.int .u8 i) (fun W h => by kernel_rfl) hH ?_
      try simp only [Act.put, List.setIfInBounds_toArray, List.set_cons_zero, List.set_cons_succ]
      refine held_v 1 (some 28) rfl (by kernel_rfl) (by kernel_rfl) (by kernel_rfl) (by kernel_rfl) (fun c a v w h => HQ2.out c a _ v w h) (by kernel_rfl) (.int .i64 i) (fun W h => by have p := HIW.out; go_simp) hH ?_
      try simp only [Act.put, List.setIfInBounds_toArray, List.set_cons_zero, List.set_cons_succ]
      refine held_v 2 (some 29) rfl (by kernel_rfl) (by kernel_rfl) (by kernel_rfl) (by kernel_rfl) (fun c a v w h => HQ2.out c a _ v w h) (by kernel_rfl) (.slice (some ⟨g, off, none⟩) n c) (fun W h => by kernel_rfl) hH ?_
      try simp only [Act.put, List.setIfInBounds_toArray, List.set_cons_zero, List.set_cons_succ]
      refine held_v 3 (some 30) rfl (by kernel_rfl) (by kernel_rfl) (by kernel_rfl) (by kernel_rfl) (fun c a v w h => HQ2.out c a _ v w h) (by kernel_rfl) (.int .i64 n) (fun W h => by go_simp) hH ?_
      try simp only [Act.put, List.setIfInBounds_toArray, List.set_cons_zero, List.set_cons_succ]
      refine held_v 4 (some 31) rfl (by kernel_rfl) (by kernel_rfl) (by kernel_rfl) (by kernel_rfl) (fun c a v w h => HQ2.out c a _ v w h) (by kernel_rfl) (.int .i64 (p : Int)) (fun W h => by have p1 := HPT.out; have p2 := HNZ.out; have p4 := HN2.out; have p3 := HPW.out; go_simp) hH ?_
      try simp only [Act.put, List.setIfInBounds_toArray, List.set_cons_zero, List.set_cons_succ]
      refine held_v 5 (some 32) rfl (by kernel_rfl) (by kernel_rfl) (by kernel_rfl) (by kernel_rfl) (fun c a v w h => HQ2.out c a _ v w h) (by kernel_rfl) (.int .u8 k) (fun W h => by kernel_rfl) hH ?_
      try simp only [Act.put, List.setIfInBounds_toArray, List.set_cons_zero, List.set_cons_succ]
      refine held_v 6 (some 33) rfl (by kernel_rfl) (by kernel_rfl) (by kernel_rfl) (by kernel_rfl) (fun c a v w h => HQ2.out c a _ v w h) (by kernel_rfl) (.int .i64 k) (fun W h => by have p := HKW.out; go_simp) hH ?_
      try simp only [Act.put, List.setIfInBounds_toArray, List.set_cons_zero, List.set_cons_succ]
      refine held_v 7 (some 34) rfl (by kernel_rfl) (by kernel_rfl) (by kernel_rfl) (by kernel_rfl) (fun c a v w h => HQ2.out c a _ v w h) (by kernel_rfl) (.slice (some ⟨g, off, none⟩) n c) (fun W h => by kernel_rfl) hH ?_
      try simp only [Act.put, List.setIfInBounds_toArray, List.set_cons_zero, List.set_cons_succ]
      refine held_v 8 (some 35) rfl (by kernel_rfl) (by kernel_rfl) (by kernel_rfl) (by kernel_rfl) (fun c a v w h => HQ2.out c a _ v w h) (by kernel_rfl) (.int .i64 n) (fun W h => by go_simp) hH ?_
      try simp only [Act.put, List.setIfInBounds_toArray, List.set_cons_zero, List.set_cons_succ]
      refine held_v 9 (some 36) rfl (by kernel_rfl) (by kernel_rfl) (by kernel_rfl) (by kernel_rfl) (fun c a v w h => HQ2.out c a _ v w h) (by kernel_rfl) (.int .i64 (q : Int)) (fun W h => by have p1 := HQT.out; have p2 := HNZ.out; have p4 := HN2.out; have p3 := HQW.out; go_simp) hH ?_
      try simp only [Act.put, List.setIfInBounds_toArray, List.set_cons_zero, List.set_cons_succ]
      refine held_v 10 (some 7) rfl (by kernel_rfl) (by kernel_rfl) (by kernel_rfl) (by kernel_rfl) (fun c a v w h => HQ2.out c a _ v w h) (by kernel_rfl) (.int .i64 (p : Int)) (fun W h => by kernel_rfl) hH ?_
      try simp only [Act.put, List.setIfInBounds_toArray, List.set_cons_zero, List.set_cons_succ]
      refine held_v 11 (some 8) rfl (by kernel_rfl) (by kernel_rfl) (by kernel_rfl) (by kernel_rfl) (fun c a v w h => HQ2.out c a _ v w h) (by kernel_rfl) (.int .i64 (q : Int)) (fun W h => by kernel_rfl) hH ?_
      try simp only [Act.put, List.setIfInBounds_toArray, List.set_cons_zero, List.set_cons_succ]
      refine wpAnyH_done (by kernel_rfl) ?_ _
      refine HQ1.out _ _ ?_
      clear HQ1 HQ2
      have G40 := Lib.hid hH
      go_wp2_with (first
        | (go_at_call 20; (with_reducible refine (HLA.out _ _ _ (Fx.r0 G40.out)).mono ?_); rintro e w41 ⟨A42, c43, rfl, hlw41, hmw41, hrw41, hbw41⟩; have lc43 := Lib.hid hlw41; have mc43 := Lib.hid hmw41; have G44 := Lib.hid (Fx.addR G40.out hbw41 hrw41); clear G40; clear hrw41 hbw41 hlw41 hmw41)
        | (go_at_call 20; (with_reducible refine (HLB.out _ _ _ (Fx.r1 G44.out)).mono ?_); rintro e w45 ⟨A46, c47, rfl, hlw45, hmw45, hrw45, hbw45⟩; have lc47 := Lib.hid hlw45; have mc47 := Lib.hid hmw45; have G48 := Lib.hid (Fx.addR G44.out hbw45 hrw45); clear G44; clear hrw45 hbw45 hlw45 hmw45)
        | (go_at_call 22; (with_reducible refine (HPA.out _ _ _ (Fx.r2 G48.out)).mono ?_); rintro e w49 ⟨A50, c51, rfl, hlw49, hmw49, hrw49, hbw49⟩; have lc51 := Lib.hid hlw49; have mc51 := Lib.hid hmw49; have G52 := Lib.hid (Fx.addR G48.out hbw49 hrw49); clear G48; clear hrw49 hbw49 hlw49 hmw49)
        | (go_at_call 22; (with_reducible refine (HPB.out _ _ _ (Fx.r3 G52.out)).mono ?_); rintro e w53 ⟨A54, c55, rfl, hlw53, hmw53, hrw53, hbw53⟩; have lc55 := Lib.hid hlw53; have mc55 := Lib.hid hmw53; have G56 := Lib.hid (Fx.addR G52.out hbw53 hrw53); clear G52; clear hrw53 hbw53 hlw53 hmw53))
      refine wp_region_held_drew (S := (Fx [.rdb .u32 w53.heap.size A54 ZV.length ZV, .rdb .u32 w49.heap.size A50 ZU.length ZU, .rdb .u32 w45.heap.size A46 ZY.length ZY, .rdb .u32 w41.heap.size A42 ZX.length ZX, .rdb .u64 w.heap.size (some ⟨g, off, none⟩) n zs, .bel w])) (by kernel_rfl) (Fx.drew G56.out) (fun hH => ?_)
      refine wpAnyH_letter #[false, false, false, false, false, false, false, false, false, false, false, false, false, false, false, false] (by kernel_rfl) (fun _ _ d _ _ h => by cases d <;> exact h) (fun QL HQ1 HQ2 => ?_)
      refine held_v 0 (some 96) rfl (by kernel_rfl) (by kernel_rfl) (by kernel_rfl) (by kernel_rfl) (fun c a v w h => HQ2.out c a _ v w h) (by kernel_rfl) (.slice A42 ZX.length c43) (fun W h => by kernel_rfl) hH ?_
      try simp only [Act.put, List.setIfInBounds_toArray, List.set_cons_zero, List.set_cons_succ]
      refine held_v 1 (some 97) rfl (by kernel_rfl) (by kernel_rfl) (by kernel_rfl) (by kernel_rfl) (fun c a v w h => HQ2.out c a _ v w h) (by kernel_rfl) (.slice (some ⟨g, off, none⟩) n c) (fun W h => by kernel_rfl) hH ?_
      try simp only [Act.put, List.setIfInBounds_toArray, List.set_cons_zero, List.set_cons_succ]
      refine held_v 2 (some 98) rfl (by kernel_rfl) (by kernel_rfl) (by kernel_rfl) (by kernel_rfl) (fun c a v w h => HQ2.out c a _ v w h) (by kernel_rfl) (.int .i64 (q : Int)) (fun W h => by kernel_rfl) hH ?_
      try simp only [Act.put, List.setIfInBounds_toArray, List.set_cons_zero, List.set_cons_succ]
      refine held_v 3 (some 99) rfl (by kernel_rfl) (by kernel_rfl) (by kernel_rfl) (by kernel_rfl) (fun c a v w h => HQ2.out c a _ v w h) (by kernel_rfl) (.pointer (some ⟨g, off + q, none⟩)) (fun W h => by have p1 := HQL.out; have p2 := HQ0.out; go_simp) hH ?_
      try simp only [Act.put, List.setIfInBounds_toArray, List.set_cons_zero, List.set_cons_succ]
      refine held_v 4 (some 100) rfl (by kernel_rfl) (by kernel_rfl) (by kernel_rfl) (by kernel_rfl) (fun c a v w h => HQ2.out c a _ v w h) (by kernel_rfl) (.int .u64 zb) (fun W h => by have p := HCB.out W (Fx.r4 h); go_simp) hH ?_
      try simp only [Act.put, List.setIfInBounds_toArray, List.set_cons_zero, List.set_cons_succ]
      refine held_v 7 (some 103) rfl (by kernel_rfl) (by kernel_rfl) (by kernel_rfl) (by kernel_rfl) (fun c a v w h => HQ2.out c a _ v w h) (by kernel_rfl) (.slice A46 ZY.length c47) (fun W h => by kernel_rfl) hH ?_
      try simp only [Act.put, List.setIfInBounds_toArray, List.set_cons_zero, List.set_cons_succ]
      refine held_v 8 (some 104) rfl (by kernel_rfl) (by kernel_rfl) (by kernel_rfl) (by kernel_rfl) (fun c a v w h => HQ2.out c a _ v w h) (by kernel_rfl) (.slice (some ⟨g, off, none⟩) n c) (fun W h => by kernel_rfl) hH ?_
      try simp only [Act.put, List.setIfInBounds_toArray, List.set_cons_zero, List.set_cons_succ]
      refine held_v 9 (some 105) rfl (by kernel_rfl) (by kernel_rfl) (by kernel_rfl) (by kernel_rfl) (fun c a v w h => HQ2.out c a _ v w h) (by kernel_rfl) (.int .i64 (p : Int)) (fun W h => by kernel_rfl) hH ?_
      try simp only [Act.put, List.setIfInBounds_toArray, List.set_cons_zero, List.set_cons_succ]
      refine held_v 10 (some 106) rfl (by kernel_rfl) (by kernel_rfl) (by kernel_rfl) (by kernel_rfl) (fun c a v w h => HQ2.out c a _ v w h) (by kernel_rfl) (.pointer (some ⟨g, off + p, none⟩)) (fun W h => by have p1 := HPL.out; have p2 := HP0.out; go_simp) hH ?_
      try simp only [Act.put, List.setIfInBounds_toArray, List.set_cons_zero, List.set_cons_succ]
      refine held_v 11 (some 107) rfl (by kernel_rfl) (by kernel_rfl) (by kernel_rfl) (by kernel_rfl) (fun c a v w h => HQ2.out c a _ v w h) (by kernel_rfl) (.int .u64 za) (fun W h => by have p := HCA.out W (Fx.r4 h); go_simp) hH ?_
      try simp only [Act.put, List.setIfInBounds_toArray, List.set_cons_zero, List.set_cons_succ]
      refine wpAnyH_ready (rs := [5]) (by kernel_rfl) (by decide) ?_
      refine AllReadyH.cons rfl (fun K hK => ?_) AllReadyH.nil
      refine step_call (some 101) (by kernel_rfl) (by kernel_rfl) _ _ (by kernel_rfl) _ (HOB.out w53.drew) ?_
      rintro e w81 ⟨A5, c5, rfl, hl5, hm5, hr5, hbw81⟩
      have ex82 : Fx [.rd .u32 A5 OB.length OB] w81 := ⟨hr5, trivial⟩
      refine ⟨_, rfl, ?_⟩
      refine hK.out _ _ (hH.below hbw81) (fun hw81 => ?_)
      clear hK K
      try simp only [Act.put, List.setIfInBounds_toArray, List.set_cons_zero, List.set_cons_succ]
      refine wpAnyH_ready (rs := [6]) (by kernel_rfl) (by decide) ?_
      refine AllReadyH.cons rfl (fun K hK => ?_) AllReadyH.nil
      refine step_call (some 102) (by kernel_rfl) (by kernel_rfl) _ _ (by kernel_rfl) _ (HTX.out A42 A5 c43 c5 w81 (Fx.r3 hw81) ex82.1) ?_
      rintro e w83 ⟨A6, c6, rfl, hl6, hm6, hr6, hbw83⟩
      have ex84 : Fx [.rd .u32 A6 ZW.length ZW] w83 := ⟨hr6, trivial⟩
      refine ⟨_, rfl, ?_⟩
      refine hK.out _ _ (hw81.below hbw83) (fun hw83 => ?_)
      clear hK K
      try simp only [Act.put, List.setIfInBounds_toArray, List.set_cons_zero, List.set_cons_succ]
      refine wpAnyH_ready (rs := [12]) (by kernel_rfl) (by decide) ?_
      refine AllReadyH.cons rfl (fun K hK => ?_) AllReadyH.nil
      refine step_call (some 108) (by kernel_rfl) (by kernel_rfl) _ _ (by kernel_rfl) _ (HOA.out w83) ?_
      rintro e w85 ⟨A12, c12, rfl, hl12, hm12, hr12, hbw85⟩
      have ex86 := ex84.below hbw85
      have ex87 : Fx [.rd .u32 A12 OA.length OA] w85 := ⟨hr12, trivial⟩
      refine ⟨_, rfl, ?_⟩
      refine hK.out _ _ (hw83.below hbw85) (fun hw85 => ?_)
      clear hK K
      try simp only [Act.put, List.setIfInBounds_toArray, List.set_cons_zero, List.set_cons_succ]
      refine wpAnyH_ready (rs := [13]) (by kernel_rfl) (by decide) ?_
      refine AllReadyH.cons rfl (fun K hK => ?_) AllReadyH.nil
      refine step_call (some 109) (by kernel_rfl) (by kernel_rfl) _ _ (by kernel_rfl) _ (HTY.out A46 A12 c47 c12 w85 (Fx.r2 hw85) ex87.1) ?_
      rintro e w88 ⟨A13, c13, rfl, hl13, hm13, hr13, hbw88⟩
      have ex89 := ex86.below hbw88
      have ex90 : Fx [.rd .u32 A13 ZW.length ZW] w88 := ⟨hr13, trivial⟩
      refine ⟨_, rfl, ?_⟩
      refine hK.out _ _ (hw85.below hbw88) (fun hw88 => ?_)
      clear hK K
      try simp only [Act.put, List.setIfInBounds_toArray, List.set_cons_zero, List.set_cons_succ]
      refine wpAnyH_ready (rs := [14]) (by kernel_rfl) (by decide) ?_
      refine AllReadyH.cons rfl (fun K hK => ?_) AllReadyH.nil
      refine step_call (some 110) (by kernel_rfl) (by kernel_rfl) _ _ (by kernel_rfl) _ (HSW.out A6 A13 c6 c13 w88 ex89.1 ex90.1) ?_
      rintro e w91 ⟨rfl, hbw91⟩
      refine ⟨_, rfl, ?_⟩
      refine hK.out _ _ (hw88.below hbw91) (fun hw91 => ?_)
      clear hK K
      try simp only [Act.put, List.setIfInBounds_toArray, List.set_cons_zero, List.set_cons_succ]
      refine held_v 15 (some 111) rfl (by kernel_rfl) (by kernel_rfl) (by kernel_rfl) (by kernel_rfl) (fun c a v w h => HQ2.out c a _ v w h) (by kernel_rfl) (.bool false) (fun W h => by kernel_rfl) hw91 ?_
      try simp only [Act.put, List.setIfInBounds_toArray, List.set_cons_zero, List.set_cons_succ]
      refine wpAnyH_done (by kernel_rfl) ?_ _
      refine HQ1.out _ _ ?_
      clear HQ1 HQ2
      go_wp2
      go_ret
      exact ⟨rfl, Fx.e5 hw91⟩
  · obtain ⟨er, her, hx, hy⟩ : ∃ er : Int, (er = 10 ∨ er = 11) ∧ (∀ R : Int × List Int, (if t < 9223372036854775808 then (if t = 0 then ((10 : Int), ([] : List Int)) else R) else (11, [])) = (er, [])) ∧ True := by
      by_cases hs1 : t < 9223372036854775808
      · have ht0 : t = 0 := Decidable.byContradiction fun h => hok ⟨hs1, h⟩
        exact ⟨10, .inl rfl, fun R => by rw [if_pos hs1, if_pos ht0], trivial⟩
      · exact ⟨11, .inr rfl, fun R => by rw [if_neg hs1], trivial⟩
    have te : (er == 0) = false := by rw [beq_eq_false_iff_ne]; omega
    have te2 : (er != 0) = true := by rw [bne, te]; rfl
    rw [hx] at hla hlb hpa hpb
    have HLA := Lib.hid (fun A c W h => ret_e (hla A c W h) rfl)
    have HLB := Lib.hid (fun A c W h => ret_e (hlb A c W h) rfl)
    have HPA := Lib.hid (fun A c W h => ret_e (hpa A c W h) rfl)
    have HPB := Lib.hid (fun A c W h => ret_e (hpb A c W h) rfl)
    clear hla hlb hpa hpb hx hy her hza1 hzb1 hza2 hzb2 hs0 hok hp2 hq2 hlen hg i0 i1 k0 k1 hn0
    go_enter Try.func6, Try.ntmps6
    go_wp2_with (first
      | (go_at_call 8; (with_reducible refine (alive16_c _).mono ?_); rintro e w1 ⟨rfl, hbw1⟩; have G2 := Lib.hid (Fx.below G0.out hbw1); clear G0; clear hbw1))
    refine wp_region_held_drew (S := (Fx [.rdb .u64 w.heap.size (some ⟨g, off, none⟩) n zs, .bel w])) (by kernel_rfl) (Fx.drew G2.out) (fun hH => ?_)
    refine wpAnyH_letter #[false, false, false, false, false, false, false, false, false, false, false, false] (by kernel_rfl) (fun _ _ d _ _ h => by cases d <;> exact h) (fun QL HQ1 HQ2 => ?_)
    refine held_v 0 (some 27) rfl (by kernel_rfl) (by kernel_rfl) (by kernel_rfl) (by kernel_rfl) (fun c a v w h => HQ2.out c a _ v w h) (by kernel_rfl) (.int .u8 i) (fun W h => by kernel_rfl) hH ?_
    try simp only [Act.put, List.setIfInBounds_toArray, List.set_cons_zero, List.set_cons_succ]
    refine held_v 1 (some 28) rfl (by kernel_rfl) (by kernel_rfl) (by kernel_rfl) (by kernel_rfl) (fun c a v w h => HQ2.out c a _ v w h) (by kernel_rfl) (.int .i64 i) (fun W h => by have p := HIW.out; go_simp) hH ?_
    try simp only [Act.put, List.setIfInBounds_toArray, List.set_cons_zero, List.set_cons_succ]
    refine held_v 2 (some 29) rfl (by kernel_rfl) (by kernel_rfl) (by kernel_rfl) (by kernel_rfl) (fun c a v w h => HQ2.out c a _ v w h) (by kernel_rfl) (.slice (some ⟨g, off, none⟩) n c) (fun W h => by kernel_rfl) hH ?_
    try simp only [Act.put, List.setIfInBounds_toArray, List.set_cons_zero, List.set_cons_succ]
    refine held_v 3 (some 30) rfl (by kernel_rfl) (by kernel_rfl) (by kernel_rfl) (by kernel_rfl) (fun c a v w h => HQ2.out c a _ v w h) (by kernel_rfl) (.int .i64 n) (fun W h => by go_simp) hH ?_
    try simp only [Act.put, List.setIfInBounds_toArray, List.set_cons_zero, List.set_cons_succ]
    refine held_v 4 (some 31) rfl (by kernel_rfl) (by kernel_rfl) (by kernel_rfl) (by kernel_rfl) (fun c a v w h => HQ2.out c a _ v w h) (by kernel_rfl) (.int .i64 (p : Int)) (fun W h => by have p1 := HPT.out; have p2 := HNZ.out; have p4 := HN2.out; have p3 := HPW.out; go_simp) hH ?_
    try simp only [Act.put, List.setIfInBounds_toArray, List.set_cons_zero, List.set_cons_succ]
    refine held_v 5 (some 32) rfl (by kernel_rfl) (by kernel_rfl) (by kernel_rfl) (by kernel_rfl) (fun c a v w h => HQ2.out c a _ v w h) (by kernel_rfl) (.int .u8 k) (fun W h => by kernel_rfl) hH ?_
    try simp only [Act.put, List.setIfInBounds_toArray, List.set_cons_zero, List.set_cons_succ]
    refine held_v 6 (some 33) rfl (by kernel_rfl) (by kernel_rfl) (by kernel_rfl) (by kernel_rfl) (fun c a v w h => HQ2.out c a _ v w h) (by kernel_rfl) (.int .i64 k) (fun W h => by have p := HKW.out; go_simp) hH ?_
    try simp only [Act.put, List.setIfInBounds_toArray, List.set_cons_zero, List.set_cons_succ]
    refine held_v 7 (some 34) rfl (by kernel_rfl) (by kernel_rfl) (by kernel_rfl) (by kernel_rfl) (fun c a v w h => HQ2.out c a _ v w h) (by kernel_rfl) (.slice (some ⟨g, off, none⟩) n c) (fun W h => by kernel_rfl) hH ?_
    try simp only [Act.put, List.setIfInBounds_toArray, List.set_cons_zero, List.set_cons_succ]
    refine held_v 8 (some 35) rfl (by kernel_rfl) (by kernel_rfl) (by kernel_rfl) (by kernel_rfl) (fun c a v w h => HQ2.out c a _ v w h) (by kernel_rfl) (.int .i64 n) (fun W h => by go_simp) hH ?_
    try simp only [Act.put, List.setIfInBounds_toArray, List.set_cons_zero, List.set_cons_succ]
    refine held_v 9 (some 36) rfl (by kernel_rfl) (by kernel_rfl) (by kernel_rfl) (by kernel_rfl) (fun c a v w h => HQ2.out c a _ v w h) (by kernel_rfl) (.int .i64 (q : Int)) (fun W h => by have p1 := HQT.out; have p2 := HNZ.out; have p4 := HN2.out; have p3 := HQW.out; go_simp) hH ?_
    try simp only [Act.put, List.setIfInBounds_toArray, List.set_cons_zero, List.set_cons_succ]
    refine held_v 10 (some 7) rfl (by kernel_rfl) (by kernel_rfl) (by kernel_rfl) (by kernel_rfl) (fun c a v w h => HQ2.out c a _ v w h) (by kernel_rfl) (.int .i64 (p : Int)) (fun W h => by kernel_rfl) hH ?_
    try simp only [Act.put, List.setIfInBounds_toArray, List.set_cons_zero, List.set_cons_succ]
    refine held_v 11 (some 8) rfl (by kernel_rfl) (by kernel_rfl) (by kernel_rfl) (by kernel_rfl) (fun c a v w h => HQ2.out c a _ v w h) (by kernel_rfl) (.int .i64 (q : Int)) (fun W h => by kernel_rfl) hH ?_
    try simp only [Act.put, List.setIfInBounds_toArray, List.set_cons_zero, List.set_cons_succ]
    refine wpAnyH_done (by kernel_rfl) ?_ _
    refine HQ1.out _ _ ?_
    clear HQ1 HQ2
    have G40 := Lib.hid hH
    go_wp2_with (first
      | (go_at_call 20; (with_reducible refine (HLA.out _ _ _ (Fx.r0 G40.out)).mono ?_); rintro e w41 ⟨A42, c43, rfl, hlw41, hmw41, hrw41, hbw41⟩; have lc43 := Lib.hid hlw41; have mc43 := Lib.hid hmw41; have G44 := Lib.hid (Fx.addR G40.out hbw41 hrw41); clear G40; clear hrw41 hbw41 hlw41 hmw41)
      | (go_at_call 20; (with_reducible refine (HLB.out _ _ _ (Fx.r1 G44.out)).mono ?_); rintro e w45 ⟨A46, c47, rfl, hlw45, hmw45, hrw45, hbw45⟩; have lc47 := Lib.hid hlw45; have mc47 := Lib.hid hmw45; have G48 := Lib.hid (Fx.addR G44.out hbw45 hrw45); clear G44; clear hrw45 hbw45 hlw45 hmw45)
      | (go_at_call 22; (with_reducible refine (HPA.out _ _ _ (Fx.r2 G48.out)).mono ?_); rintro e w49 ⟨A50, c51, rfl, hlw49, hmw49, hrw49, hbw49⟩; have lc51 := Lib.hid hlw49; have mc51 := Lib.hid hmw49; have G52 := Lib.hid (Fx.addR G48.out hbw49 hrw49); clear G48; clear hrw49 hbw49 hlw49 hmw49)
      | (go_at_call 22; (with_reducible refine (HPB.out _ _ _ (Fx.r3 G52.out)).mono ?_); rintro e w53 ⟨A54, c55, rfl, hlw53, hmw53, hrw53, hbw53⟩; have lc55 := Lib.hid hlw53; have mc55 := Lib.hid hmw53; have G56 := Lib.hid (Fx.addR G52.out hbw53 hrw53); clear G52; clear hrw53 hbw53 hlw53 hmw53))
    go_ret
    exact ⟨rfl, (Fx.e5 G56.out)⟩


set_option maxRecDepth 100000 in
theorem lifted (os : Os) (started : os.Started) (H : Type) (enc : TypeId × Value → H) :
    ReturnsInHanded {} Try.checked os 6 .any (Rows.oddsSharesSpec.pre6 enc Try.prog Try.f6 Rows.oddsSharesRow.domain false) (Rows.oddsSharesSpec.post enc Try.prog Try.f6 false true false false) := by
  refine returnsInHanded_of_change (C := Try.checked) own started (by kernel_rfl) Try.func6
    (ChangeSpec.witness6 (enc := enc) (C := Try.checked) false ⟨#[], #[.int .u8 0, .int .u8 0, .slice none 0 0], []⟩ 8 (by kernel_rfl) (by kernel_rfl) (by kernel_rfl) (by kernel_rfl)) ?_
  intro W base args ds gs before hval0 hW hcnd _
  have hval : ∀ (j : Nat) t v, Try.f6.params[j]? = some t → args[j]? = some v → Value.okWide Try.prog W .any base t v := hval0
  have hW' := hW
  obtain ⟨p, q, hA0, hV, rfl, hfz, hnd⟩ := hW
  have hA : DataW.TrodAll enc Try.prog W 0 (fun _ => true) true Try.f6.params.toList args.toList ds p := hA0
  rw [Try.params6] at hA hval
  obtain ⟨v0, vs0, d0, ds0, p0, q0, hargs, rfl, rfl, h0, r0⟩ := trodAll_cons hA
  obtain ⟨v1, vs1, d1, ds1, p1, q1, rfl, rfl, rfl, h1, r1⟩ := trodAll_cons r0
  obtain ⟨v2, vs2, d2, ds2, p2, q2, rfl, rfl, rfl, h2, r2⟩ := trodAll_cons r1
  obtain ⟨rfl, rfl, rfl⟩ := trodAll_nil r2
  obtain rfl : args = #[v0, v1, v2] := by cases args; simp_all
  obtain ⟨rfl, rfl⟩ := trodVars_none hV
  obtain ⟨a0, rfl, rfl, rfl, w0⟩ := open_int Try.underlying5 (hval 0 5 v0 rfl rfl) h0
  obtain ⟨a1, rfl, rfl, rfl, w1⟩ := open_int Try.underlying5 (hval 1 5 v1 rfl rfl) h1
  obtain ⟨a2, n2, c2, rfl⟩ := okWide_slice Try.underlying34 (hval 2 34 v2 rfl rfl)
  have k2 := h2
  have lt2 : ∀ x ∈ p2, x.block < W.heap.size := by obtain ⟨m, hm⟩ := k2; exact DataW.trod_lt m _ _ _ hm
  obtain ⟨z2, rd2, lc2, cm2, w2⟩ := open_rd Try.underlying34 Try.underlying22 (by kernel_rfl) h2
  clear hA0 hval0
  refine (walk a0 a1 a2 n2 c2 z2 W w0 w1 rd2 lc2 cm2 w2).mono fun e W' ⟨he, bel⟩ => ?_
  subst he
  exact ⟨_, rfl, _, _, _, [], _, [], hW', trodAll_mk1 (shut_bool Try.underlying4 _), (trodAll_cons_mk (shut_int Try.underlying5 w0) (trodAll_cons_mk (shut_int Try.underlying5 w1) (trodAll_cons_mk (Below.trod laidOut (by kernel_rfl) (of_decide_eq_true (by kernel_rfl)) k2 bel lt2) trodAll_mk0))), rfl, bel.frame _, fun h => by cases h⟩

theorem over : Rows.oddsSharesRow.holds Try.pinned (OpenSpec.ofChange Rows.oddsSharesSpec) :=
  OpenClaim.holds_of_wide 6 Try.f6 rfl rfl rfl rfl rfl rfl rfl ⟨rfl, rfl, rfl, rfl, rfl⟩ rfl rfl rfl rfl rfl (by kernel_rfl) Try.func6 (by kernel_rfl)
    (of_decide_eq_true (by kernel_rfl)) (by unfold Func.isWrapper; first | (rw [if_pos (by decide +kernel)]; kernel_rfl) | (rw [if_neg (by decide +kernel)]; exact ⟨rfl, rfl⟩))
    (fun os started H enc _ => lifted os started H enc)

end Go.Proofs.Ytaaahgkpicjnoaa.oddsShares
namespace Go.Proofs.Ytaaahgkpicjnoaa
theorem oddsShares_holds : Rows.OddsSharesSaid := oddsShares.over
#print axioms oddsShares_holds
end Go.Proofs.Ytaaahgkpicjnoaa

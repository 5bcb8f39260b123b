/-
  What stage 10's fixed fact returns.
  Conditions: none.
-/
import Derived.Test.YtoimepmignlmkaaDoorNatL
import Derived.Test.YtoimepmignlmkaaDoorRefW
import Derived.Test.YtoimepmignlmkaaDoorNatZ
set_option maxRecDepth 100000
set_option linter.unusedSimpArgs false
namespace Go.Proofs.YtoimepmignlmkaaDoor
open Go.ChangeShapes Go.WideShapes Go.ChangeAt Go.RowKit
set_option linter.unusedVariables false
set_option maxHeartbeats 8000000 in
theorem alive10_c (w : World) (hP : PowT w) : Calls Tryd.prog 8 #[] w fun e w' => e = .returned (.bool true) ∧ Below w.heap.size w w' := by
  have oka : rightN (natL 18446744073709551616) = true := small_right (by decide)
  have vaa := natL_val 18446744073709551616
  have lia := natL_lim 18446744073709551616
  have okb : rightN (natL 18446744073709551621) = true := small_right (by decide)
  have vab := natL_val 18446744073709551621
  have lib := natL_lim 18446744073709551621
  have okx5 : rightN (natL 5) = true := small_right (by decide)
  have vax5 := natL_val 5
  have lix5 := natL_lim 5
  have okx0 : rightN (natL 0) = true := small_right (by decide)
  have vax0 := natL_val 0
  have lix0 := natL_lim 0
  have okd : rightN (natL 100000000000000000000) = true := small_right (by decide)
  have vad := natL_val 100000000000000000000
  have lid := natL_lim 100000000000000000000
  have okx10 : rightN (natL 10) = true := small_right (by decide)
  have vax10 := natL_val 10
  have lix10 := natL_lim 10
  have okq : rightN (natL 14285714285714285714) = true := small_right (by decide)
  have vaq := natL_val 14285714285714285714
  have liq := natL_lim 14285714285714285714
  have okx7 : rightN (natL 7) = true := small_right (by decide)
  have vax7 := natL_val 7
  have lix7 := natL_lim 7
  have okm : rightN (natL 99999999999999999998) = true := small_right (by decide)
  have vam := natL_val 99999999999999999998
  have lim := natL_lim 99999999999999999998
  have okx1 : rightN (natL 1) = true := small_right (by decide)
  have vax1 := natL_val 1
  have lix1 := natL_lim 1
  have h1 := fun W => q10two_c 64 (by omega) (by omega) W
  rw [show twoR 64 = (0, natL 18446744073709551616) by unfold twoR; rw [if_pos ⟨by omega, by omega⟩]; rfl] at h1
  have h2 := fun W => q10two_c 8192 (by omega) (by omega) W
  rw [show twoR 8192 = (1, []) by unfold twoR; rw [if_neg (by omega)]] at h2
  have o5 := fun W => q10of_c 5 (by omega) (by omega) W
  rw [show (5 : Int).toNat = 5 from rfl] at o5
  have o0 := fun W => q10of_c 0 (by omega) (by omega) W
  rw [show (0 : Int).toNat = 0 from rfl] at o0
  have o10 := fun W => q10of_c 10 (by omega) (by omega) W
  rw [show (10 : Int).toNat = 10 from rfl] at o10
  have o7 := fun W => q10of_c 7 (by omega) (by omega) W
  rw [show (7 : Int).toNat = 7 from rfl] at o7
  have h3 := fun A B C c1 c2 c3 X c W (h : RdNs W W.heap.size X 3 [rowN A (natL 18446744073709551616) c1, rowN B (natL 5) c2, rowN C (natL 0) c3]) => q10add_c _ X 3 c (by omega) W h
  have e3 : ∀ A B C c1 c2 c3, addR [rowN A (natL 18446744073709551616) c1, rowN B (natL 5) c2, rowN C (natL 0) c3] = (0, natL 18446744073709551621) := fun A B C c1 c2 c3 => by
    have hs : sumN [rowN A (natL 18446744073709551616) c1, rowN B (natL 5) c2, rowN C (natL 0) c3] = 18446744073709551621 := by
      show valL (natL 18446744073709551616) + (valL (natL 5) + (valL (natL 0) + 0)) = 18446744073709551621
      rw [vaa, vax5, vax0]
    rw [addR_ok (allN_three oka okx5 okx0) (by rw [hs]; exact small_len (by decide)), hs]
  simp only [e3] at h3
  have h4 := fun A B c1 c2 W (h : Rd .u32 W W.heap.size A (natL 18446744073709551621).length (natL 18446744073709551621)) (h' : Rd .u32 W W.heap.size B (natL 18446744073709551616).length (natL 18446744073709551616)) => q10sub_c _ _ lib lia A B _ _ c1 c2 (by have := small_len (n := 18446744073709551621) (by decide); unfold maxLen; omega) (by have := small_len (n := 18446744073709551616) (by decide); unfold maxLen; omega) W h h'
  rw [sub_nat okb oka, if_neg (by decide), show 18446744073709551621 - 18446744073709551616 = 5 from rfl] at h4
  have h5 := fun A B c1 c2 W (h : Rd .u32 W W.heap.size A (natL 18446744073709551616).length (natL 18446744073709551616)) (h' : Rd .u32 W W.heap.size B (natL 18446744073709551621).length (natL 18446744073709551621)) => q10sub_c _ _ lia lib A B _ _ c1 c2 (by have := small_len (n := 18446744073709551616) (by decide); unfold maxLen; omega) (by have := small_len (n := 18446744073709551621) (by decide); unfold maxLen; omega) W h h'
  rw [sub_nat oka okb, if_pos (by decide)] at h5
  have h6 := fun A c W hc hm (h : Rd .u32 W W.heap.size A (natL 10).length (natL 10)) => q10pow_c _ lix10 A _ c hc hm 20 (by omega) (by omega) W h
  rw [show powR (natL 10) 20 = (0, natL 100000000000000000000) from (by
    have h := powR_ok (zs := natL 10) (k := 20) okx10 (by omega) (by rw [vax10]; decide) (by rw [vax10]; exact small_len (by decide))
    rw [vax10] at h
    exact h)] at h6
  have h7 := fun A c W (h : Rd .u32 W W.heap.size A (natL 100000000000000000000).length (natL 100000000000000000000)) => q10div_c _ lid A _ c (by have := small_len (n := 100000000000000000000) (by decide); unfold maxLen; omega) 7 (by omega) (by omega) W h
  obtain ⟨e71, e72, e73⟩ := div_nat (x := 100000000000000000000) (d := 7) okd (by omega) (by omega)
  rw [e71, e72, e73, show 100000000000000000000 / (7 : Int).toNat = 14285714285714285714 from rfl, show 100000000000000000000 % (7 : Int).toNat = 2 from rfl] at h7
  have h8 := fun A B c1 c2 X c W (h : RdNs W W.heap.size X 2 [rowN A (natL 14285714285714285714) c1, rowN B (natL 7) c2]) => q10mul_c _ X 2 c (by omega) W h
  have e8 : ∀ A B c1 c2, mulR [rowN A (natL 14285714285714285714) c1, rowN B (natL 7) c2] = (0, natL 99999999999999999998) := fun A B c1 c2 => by
    have h := mulR_two (A := A) (B := B) (c := c1) (d := c2) okq okx7 (by rw [vaq]; exact small_len (by decide)) (by rw [vaq, vax7]; exact small_len (by decide))
    rw [vaq, vax7] at h
    exact h
  simp only [e8] at h8
  have h9 := fun W => q10mul_c [] none 0 0 (by omega) W ⟨rfl, fun h => absurd h (by omega), fun r h => by cases h⟩
  rw [show mulR [] = (0, natL 1) by unfold mulR; rw [if_pos (show allN [] = true from rfl)]; rfl] at h9
  have h10 := fun A B c1 c2 W (h : Rd .u32 W W.heap.size A (natL 18446744073709551616).length (natL 18446744073709551616)) (h' : Rd .u32 W W.heap.size B (natL 18446744073709551621).length (natL 18446744073709551621)) => q10cmp_c _ _ lia lib A B _ _ c1 c2 (by have := small_len (n := 18446744073709551616) (by decide); unfold maxLen; omega) (by have := small_len (n := 18446744073709551621) (by decide); unfold maxLen; omega) W h h'
  rw [cmp_nat oka okb, if_pos (by decide)] at h10
  have h11 := fun A c W (h : Rd .u32 W W.heap.size A (natL 18446744073709551616).length (natL 18446744073709551616)) => q10right_c _ A _ c (by have := small_len (n := 18446744073709551616) (by decide); unfold maxLen; omega) W h
  rw [oka] at h11
  have h12 := fun A W (h : Rd .u32 W W.heap.size A 1 [0]) => q10right_c [0] A 1 1 (by simp [maxLen]) W h
  rw [show rightN [0] = false from rfl] at h12
  have t1 := fun A c W (hb : Below w.heap.size w W) hc hm (h : Rd .u32 W W.heap.size A (natL 18446744073709551616).length (natL 18446744073709551616)) => q10text_c _ lia A _ c hc hm W (hP.below hb) h
  rw [show strB (textR (natL 18446744073709551616)) = { data := #[49, 56, 52, 52, 54, 55, 52, 52, 48, 55, 51, 55, 48, 57, 53, 53, 49, 54, 49, 54] } from (by unfold textR; rw [if_pos oka, vaa, decF_eq 20 18446744073709551616 (by decide)]; rfl)] at t1
  have t2 := fun A c W (hb : Below w.heap.size w W) hc hm (h : Rd .u32 W W.heap.size A (natL 100000000000000000000).length (natL 100000000000000000000)) => q10text_c _ lid A _ c hc hm W (hP.below hb) h
  rw [show strB (textR (natL 100000000000000000000)) = { data := #[49, 48, 48, 48, 48, 48, 48, 48, 48, 48, 48, 48, 48, 48, 48, 48, 48, 48, 48, 48, 48] } from (by unfold textR; rw [if_pos okd, vad, decF_eq 21 100000000000000000000 (by decide)]; rfl)] at t2
  have t3 := fun A c W (hb : Below w.heap.size w W) hc hm (h : Rd .u32 W W.heap.size A (natL 99999999999999999998).length (natL 99999999999999999998)) => q10text_c _ lim A _ c hc hm W (hP.below hb) h
  rw [show strB (textR (natL 99999999999999999998)) = { data := #[57, 57, 57, 57, 57, 57, 57, 57, 57, 57, 57, 57, 57, 57, 57, 57, 57, 57, 57, 56] } from (by unfold textR; rw [if_pos okm, vam, decF_eq 20 99999999999999999998 (by decide)]; rfl)] at t3
  have t4 := fun W (hb : Below w.heap.size w W) => q10text_c [] Lim.nil none 0 0 (Nat.le_refl _) (by simp [maxLen]) W (hP.below hb) Rd.none_
  rw [show strB (textR []) = { data := #[48] } from (by unfold textR; rw [if_pos (show rightN [] = true from rfl), show valL [] = 0 from rfl, decL_small (by omega)]; rfl)] at t4
  have s1 := fun A B c1 W (h : Rd .u32 W W.heap.size A (natL 5).length (natL 5)) (h' : Rd .u32 W W.heap.size B 1 [5]) => q10same_c (natL 5) [5] A B _ 1 c1 1 (by have := small_len (n := 5) (by decide); unfold maxLen; omega) (by simp [maxLen]) W h h'
  rw [decide_eq_true (show natL 5 = [5] from (by rw [natF_eq 1 5 (by decide)]; rfl))] at s1
  have s2 := fun A B c1 W (h : Rd .u32 W W.heap.size A (natL 1).length (natL 1)) (h' : Rd .u32 W W.heap.size B 1 [1]) => q10same_c (natL 1) [1] A B _ 1 c1 1 (by have := small_len (n := 1) (by decide); unfold maxLen; omega) (by simp [maxLen]) W h h'
  rw [decide_eq_true (show natL 1 = [1] from natL_one)] at s2
  obtain ⟨Na, hNa⟩ : ∃ l, natL 18446744073709551616 = l := ⟨_, rfl⟩
  obtain ⟨Nb, hNb⟩ : ∃ l, natL 18446744073709551621 = l := ⟨_, rfl⟩
  obtain ⟨Nx5, hNx5⟩ : ∃ l, natL 5 = l := ⟨_, rfl⟩
  obtain ⟨Nx0, hNx0⟩ : ∃ l, natL 0 = l := ⟨_, rfl⟩
  obtain ⟨Nd, hNd⟩ : ∃ l, natL 100000000000000000000 = l := ⟨_, rfl⟩
  obtain ⟨Nx10, hNx10⟩ : ∃ l, natL 10 = l := ⟨_, rfl⟩
  obtain ⟨Nq, hNq⟩ : ∃ l, natL 14285714285714285714 = l := ⟨_, rfl⟩
  obtain ⟨Nx7, hNx7⟩ : ∃ l, natL 7 = l := ⟨_, rfl⟩
  obtain ⟨Nm, hNm⟩ : ∃ l, natL 99999999999999999998 = l := ⟨_, rfl⟩
  obtain ⟨Nx1, hNx1⟩ : ∃ l, natL 1 = l := ⟨_, rfl⟩
  rw [hNa] at h1 h3 h4 h5 h10 h11 t1 lia
  rw [hNb] at h3 h4 h5 h10 lib
  rw [hNx5] at o5 h3 h4 s1 lix5
  rw [hNx0] at o0 h3 lix0
  rw [hNd] at h6 h7 t2 lid
  rw [hNx10] at o10 h6 lix10
  rw [hNq] at h7 h8 liq
  rw [hNx7] at o7 h8 lix7
  rw [hNm] at h8 t3 lim
  rw [hNx1] at h9 s2 lix1
  have H1 := Lib.hid h1
  have H2 := Lib.hid h2
  have H3 := Lib.hid h3
  have H4 := Lib.hid h4
  have H5 := Lib.hid h5
  have H6 := Lib.hid h6
  have H7 := Lib.hid h7
  have H8 := Lib.hid h8
  have H9 := Lib.hid h9
  have H10 := Lib.hid h10
  have H11 := Lib.hid h11
  have H12 := Lib.hid h12
  have O5 := Lib.hid o5
  have O0 := Lib.hid o0
  have O10 := Lib.hid o10
  have O7 := Lib.hid o7
  have T1 := Lib.hid t1
  have T2 := Lib.hid t2
  have T3 := Lib.hid t3
  have T4 := Lib.hid t4
  have S1 := Lib.hid s1
  have S2 := Lib.hid s2
  have LIa := Lib.hid lia
  have LIb := Lib.hid lib
  have LIx5 := Lib.hid lix5
  have LIx0 := Lib.hid lix0
  have LId := Lib.hid lid
  have LIx10 := Lib.hid lix10
  have LIq := Lib.hid liq
  have LIx7 := Lib.hid lix7
  have LIm := Lib.hid lim
  have LIx1 := Lib.hid lix1
  have G0 := Lib.hid (NFx.start w)
  clear h1 h2 h3 h4 h5 h6 h7 h8 h9 h10 h11 h12 o5 o0 o10 o7 t1 t2 t3 t4 s1 s2 oka vaa lia hNa okb vab lib hNb okx5 vax5 lix5 hNx5 okx0 vax0 lix0 hNx0 okd vad lid hNd okx10 vax10 lix10 hNx10 okq vaq liq hNq okx7 vax7 lix7 hNx7 okm vam lim hNm okx1 vax1 lix1 hNx1 e3 e8 e71 e72 e73 hP
  go_enter Tryd.func8, Tryd.ntmps8
  go_wp2_with (first
    | (go_at_call 28; (with_reducible refine (H1.out _).mono ?_); rintro e w1 ⟨Aa, ca, rfl, hlw1, hmw1, hrw1, hbw1⟩; have La := Lib.hid hlw1; have Ma := Lib.hid hmw1; have G2 := Lib.hid (NFx.add G0.out hbw1 hrw1); clear G0; clear hrw1 hbw1 hlw1 hmw1)
    | (go_at_call 24; (with_reducible refine (O5.out _).mono ?_); rintro e w3 ⟨Ax5, cx5, rfl, hlw3, hmw3, hrw3, hbw3⟩; have Lx5 := Lib.hid hlw3; have Mx5 := Lib.hid hmw3; have G4 := Lib.hid (NFx.add G2.out hbw3 hrw3); clear G2; clear hrw3 hbw3 hlw3 hmw3)
    | (go_at_call 24; (with_reducible refine (O0.out _).mono ?_); rintro e w5 ⟨Ax0, cx0, rfl, hlw5, hmw5, hrw5, hbw5⟩; have Lx0 := Lib.hid hlw5; have Mx0 := Lib.hid hmw5; have G6 := Lib.hid (NFx.add G4.out hbw5 hrw5); clear G4; clear hrw5 hbw5 hlw5 hmw5)
    | (go_at_call 10; (with_reducible refine (H3.out _ _ _ _ _ _ _ _ _ (rdNs_three (NFx.r2 G6.out) (NFx.r1 G6.out) (NFx.r0 G6.out) La.out Lx5.out Lx0.out Ma.out Mx5.out Mx0.out LIa.out LIx5.out LIx0.out)).mono ?_); rintro e w7 ⟨Ab, cb, rfl, hlw7, hmw7, hrw7, hbw7⟩; have Lb := Lib.hid hlw7; have Mb := Lib.hid hmw7; have G8 := Lib.hid (NFx.add (NFx.alloc G6.out (.cells #[.slice Aa Na.length ca, .slice Ax5 Nx5.length cx5, .slice Ax0 Nx0.length cx0] 26)) hbw7 hrw7); clear G6; clear hrw7 hbw7 hlw7 hmw7)
    | (go_at_call 15; (with_reducible refine (H4.out _ _ _ _ _ (NFx.r0 G8.out) (NFx.r3 G8.out)).mono ?_); rintro e w9 ⟨Ac, cc, rfl, hlw9, hmw9, hrw9, hbw9⟩; have Lc := Lib.hid hlw9; have Mc := Lib.hid hmw9; have G10 := Lib.hid (NFx.add G8.out hbw9 hrw9); clear G8; clear hrw9 hbw9 hlw9 hmw9)
    | (go_at_call 15; (with_reducible refine (H5.out _ _ _ _ _ (NFx.r4 G10.out) (NFx.r1 G10.out)).mono ?_); rintro e w11 ⟨Ae, ce, rfl, hlw11, hmw11, hrw11, hbw11⟩; have Le := Lib.hid hlw11; have Me := Lib.hid hmw11; have G12 := Lib.hid (NFx.add G10.out hbw11 hrw11); clear G10; clear hrw11 hbw11 hlw11 hmw11)
    | (go_at_call 24; (with_reducible refine (O10.out _).mono ?_); rintro e w13 ⟨Ax10, cx10, rfl, hlw13, hmw13, hrw13, hbw13⟩; have Lx10 := Lib.hid hlw13; have Mx10 := Lib.hid hmw13; have G14 := Lib.hid (NFx.add G12.out hbw13 hrw13); clear G12; clear hrw13 hbw13 hlw13 hmw13)
    | (go_at_call 26; (with_reducible refine (H6.out _ _ _ Lx10.out Mx10.out (NFx.r0 G14.out)).mono ?_); rintro e w15 ⟨Ad, cd, rfl, hlw15, hmw15, hrw15, hbw15⟩; have Ld := Lib.hid hlw15; have Md := Lib.hid hmw15; have G16 := Lib.hid (NFx.add G14.out hbw15 hrw15); clear G14; clear hrw15 hbw15 hlw15 hmw15)
    | (go_at_call 17; (with_reducible refine (H7.out _ _ _ (NFx.r0 G16.out)).mono ?_); rintro e w17 ⟨Aq, cq, rfl, hlw17, hmw17, hrw17, hbw17⟩; have Lq := Lib.hid hlw17; have Mq := Lib.hid hmw17; have G18 := Lib.hid (NFx.add G16.out hbw17 hrw17); clear G16; clear hrw17 hbw17 hlw17 hmw17)
    | (go_at_call 24; (with_reducible refine (O7.out _).mono ?_); rintro e w19 ⟨Ax7, cx7, rfl, hlw19, hmw19, hrw19, hbw19⟩; have Lx7 := Lib.hid hlw19; have Mx7 := Lib.hid hmw19; have G20 := Lib.hid (NFx.add G18.out hbw19 hrw19); clear G18; clear hrw19 hbw19 hlw19 hmw19)
    | (go_at_call 12; (with_reducible refine (H8.out _ _ _ _ _ _ _ (rdNs_two (NFx.r1 G20.out) (NFx.r0 G20.out) Lq.out Lx7.out Mq.out Mx7.out LIq.out LIx7.out)).mono ?_); rintro e w21 ⟨Am, cm, rfl, hlw21, hmw21, hrw21, hbw21⟩; have Lm := Lib.hid hlw21; have Mm := Lib.hid hmw21; have G22 := Lib.hid (NFx.add (NFx.alloc G20.out (.cells #[.slice Aq Nq.length cq, .slice Ax7 Nx7.length cx7] 26)) hbw21 hrw21); clear G20; clear hrw21 hbw21 hlw21 hmw21)
    | (go_at_call 12; (with_reducible refine (H9.out _).mono ?_); rintro e w23 ⟨Ax1, cx1, rfl, hlw23, hmw23, hrw23, hbw23⟩; have Lx1 := Lib.hid hlw23; have Mx1 := Lib.hid hmw23; have G24 := Lib.hid (NFx.add G22.out hbw23 hrw23); clear G22; clear hrw23 hbw23 hlw23 hmw23)
    | (go_at_call 28; (with_reducible refine (H2.out _).mono ?_); rintro e w25 ⟨Af, cf, rfl, hlw25, hmw25, hrw25, hbw25⟩; have Lf := Lib.hid hlw25; have Mf := Lib.hid hmw25; have G26 := Lib.hid (NFx.add G24.out hbw25 hrw25); clear G24; clear hrw25 hbw25 hlw25 hmw25)
    | (go_at_call 30; (with_reducible refine (T1.out _ _ _ (NFx.bel G26.out) La.out Ma.out (NFx.r12 G26.out)).mono ?_); rintro e w27 ⟨rfl, hbw27⟩; have G28 := Lib.hid (NFx.below G26.out hbw27); clear G26; clear hbw27)
    | (go_at_call 21; (with_reducible refine (S1.out _ _ _ _ (NFx.r8 (NFx.alloc G28.out (.cells #[.int .u32 5] 45))) (rd_one w27 45 .u32 5).fit).mono ?_); rintro e w29 ⟨rfl, hbw29⟩; have G30 := Lib.hid (NFx.below (NFx.alloc G28.out (.cells #[.int .u32 5] 45)) hbw29); clear G28; clear hbw29)
    | (go_at_call 30; (with_reducible refine (T2.out _ _ _ (NFx.bel G30.out) Ld.out Md.out (NFx.r5 G30.out)).mono ?_); rintro e w31 ⟨rfl, hbw31⟩; have G32 := Lib.hid (NFx.below G30.out hbw31); clear G30; clear hbw31)
    | (go_at_call 30; (with_reducible refine (T3.out _ _ _ (NFx.bel G32.out) Lm.out Mm.out (NFx.r2 G32.out)).mono ?_); rintro e w33 ⟨rfl, hbw33⟩; have G34 := Lib.hid (NFx.below G32.out hbw33); clear G32; clear hbw33)
    | (go_at_call 21; (with_reducible refine (S2.out _ _ _ _ (NFx.r1 (NFx.alloc G34.out (.cells #[.int .u32 1] 45))) (rd_one w33 45 .u32 1).fit).mono ?_); rintro e w35 ⟨rfl, hbw35⟩; have G36 := Lib.hid (NFx.below (NFx.alloc G34.out (.cells #[.int .u32 1] 45)) hbw35); clear G34; clear hbw35)
    | (go_at_call 19; (with_reducible refine (H10.out _ _ _ _ _ (NFx.r12 G36.out) (NFx.r9 G36.out)).mono ?_); rintro e w37 ⟨rfl, hbw37⟩; have G38 := Lib.hid (NFx.below G36.out hbw37); clear G36; clear hbw37)
    | (go_at_call 22; (with_reducible refine (H11.out _ _ _ (NFx.r12 G38.out)).mono ?_); rintro e _ ⟨rfl, rfl⟩)
    | (go_at_call 22; (with_reducible refine (H12.out _ _ (rd_one w37 45 .u32 0).fit).mono ?_); rintro e _ ⟨rfl, rfl⟩)
    | (go_at_call 30; (with_reducible refine (T4.out _ (NFx.bel (NFx.alloc G38.out (.cells #[.int .u32 0] 45)))).mono ?_); rintro e w39 ⟨rfl, hbw39⟩; have G40 := Lib.hid (NFx.below (NFx.alloc G38.out (.cells #[.int .u32 0] 45)) hbw39); clear G38; clear hbw39))
  go_ret
  exact ⟨rfl, (NFx.bel G40.out)⟩
end Go.Proofs.YtoimepmignlmkaaDoor

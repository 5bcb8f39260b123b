/-
  What drawlotref10's all, Add, Mul and Same return.
  Conditions: limbs lie in their type's range; the numbers have at most 100,000 limbs.
-/
import Derived.Test.YtoimepmignlmkaaDoorRefR
import Derived.Test.YtoimepmignlmkaaDoorNatR
set_option maxRecDepth 100000
set_option linter.unusedSimpArgs false
namespace Go.Proofs.YtoimepmignlmkaaDoor
open Go.ChangeShapes Go.WideShapes Go.ChangeAt Go.RowKit
set_option linter.unusedVariables false
theorem r10all_c (rs : List NRow) (A : Option Addr) (n c : Nat) (hn : n ≤ 100000) (w : World) (hrd : RdNs w w.heap.size A n rs) : Calls Tryd.prog 34 #[.slice A n c] w fun e w' => e = .returned (.bool (allN rs)) ∧ w = w' := by
  have HR := Lib.hid hrd
  have hnI : (n : Int) ≤ 100000 := by omega
  have HE := Lib.hid (drop_end hrd.1)
  clear hrd
  go_enter Tryd.func34, Tryd.ntmps34
  go_wp2
  go_loopw [3] (fun ii wr => ∃ k : Nat, k ≤ n ∧ ii = .int .i64 (k : Int) ∧ allN (rs.drop k) = allN rs ∧ wr = w) (fun ii _ => n - (intOf ii).toNat)
  case atStart => exact ⟨0, by omega, rfl, by rw [List.drop_zero], by first | rfl | trivial⟩
  case round =>
    obtain ⟨k, hk, rfl, hall, rfl⟩ := hrel
    by_cases hlt : k < n
    · obtain ⟨r, b, off, hr, rfl, hcell, hrr, hrc, hrm, hrl, hdr⟩ := HR.out.row hlt
      have hst := allN_step hdr
      rw [hall] at hst
      have hrt := fun W h => r10right_c r.zs r.A r.n r.c (by omega) W h
      have h3 : (k : Int) < (n : Int) := by omega
      obtain ⟨RA, hRA⟩ : ∃ x, r.A = x := ⟨_, rfl⟩
      obtain ⟨Rn, hRn⟩ : ∃ x, r.n = x := ⟨_, rfl⟩
      obtain ⟨Rc, hRc⟩ : ∃ x, r.c = x := ⟨_, rfl⟩
      rw [hRA, hRn, hRc] at hcell
      rw [hRA, hRn] at hrr
      rw [hRA, hRn, hRc] at hrt
      have HRR := Lib.hid hrr
      cases hok : rightN r.zs with
      | true =>
        rw [hok] at hrt hst
        rw [Bool.true_and] at hst
        have HRT := Lib.hid hrt
        have HST := Lib.hid hst.symm
        clear hrt hst hall hr hrr hrc hrm hrl hdr hok hRA hRn hRc
        go_wp2_with (first
          | (go_at_call 23; (with_reducible refine (HRT.out _ HRR.out).mono ?_); rintro e _ ⟨rfl, rfl⟩))
        go_roundw
        case rel => exact ⟨k + 1, by omega, by go_num, HST.out, by first | rfl | trivial⟩
        case measure => simp [intOf]; omega
      | false =>
        rw [hok] at hrt hst
        rw [Bool.false_and] at hst
        have HRT := Lib.hid hrt
        have HST := Lib.hid hst.symm
        clear hrt hst hall hr hrr hrc hrm hrl hdr hok hRA hRn hRc
        go_wp2_with (first
          | (go_at_call 23; (with_reducible refine (HRT.out _ HRR.out).mono ?_); rintro e _ ⟨rfl, rfl⟩))
        go_ret
        exact ⟨ret_boolN HST.out, by first | rfl | trivial⟩
    · obtain rfl : k = n := by omega
      rw [HE.out] at hall
      have HST := Lib.hid (show true = allN rs from hall)
      clear hall
      go_wp2
      go_ret
      exact ⟨ret_boolN HST.out, by first | rfl | trivial⟩
set_option maxHeartbeats 4000000 in
theorem r10add_c (rs : List NRow) (A : Option Addr) (n c : Nat) (hn : n ≤ 100000) (w : World) (hrd : RdNs w w.heap.size A n rs) : Calls Tryd.prog 11 #[.slice A n c] w (RetNE w (addR rs)) := by
  have HR := Lib.hid hrd
  have hnI : (n : Int) ≤ 100000 := by omega
  have HE := Lib.hid (drop_end hrd.1)
  have hall := fun W h => r10all_c rs A n c hn W h
  by_cases hok : allN rs = true
  · rw [hok] at hall
    have HALL := Lib.hid hall
    have e1 : addR rs = addGo 0 rs := if_pos hok
    have HM := Lib.hid (fun r hr => rightN_len (allN_mem hok (r := r) hr))
    rw [e1]
    clear hrd hall hok e1
    go_enter Tryd.func11, Tryd.ntmps11
    go_wp2_with (first
      | (go_at_call 34; (with_reducible refine (HALL.out _ HR.out).mono ?_); rintro e _ ⟨rfl, rfl⟩))
    go_loopw [4, 5] (fun v ii wr => ∃ (k s : Nat) (A' : Option Addr) (c' : Nat), k ≤ n ∧ ii = .int .i64 (k : Int) ∧ v = .slice A' (natL s).length c' ∧ (natL s).length ≤ 256 ∧ (natL s).length ≤ c' ∧ c' ≤ maxLen ∧ Rd .u32 wr wr.heap.size A' (natL s).length (natL s) ∧ addGo s (rs.drop k) = addGo 0 rs ∧ Below w.heap.size w wr) (fun _ ii _ => n - (intOf ii).toNat)
    case atStart => exact ⟨0, 0, none, 0, by omega, rfl, by rw [natL_zero]; rfl, by rw [natL_zero]; simp, by rw [natL_zero]; simp, by simp [maxLen], by rw [natL_zero]; exact Rd.none_, by rw [List.drop_zero], Below.refl _ _⟩
    case round =>
      obtain ⟨k, s, A', c', hk, rfl, rfl, hl, hlc, hcm, hrs, hgo, hbl⟩ := hrel
      by_cases hlt : k < n
      · obtain ⟨r, b, off, hr, hA, hcell, hrr, hrc, hrm, hrl, hdr⟩ := (HR.out.to hbl).row hlt
        have hst := addGo_step (s := s) hdr
        rw [hgo] at hst
        have hrlen : r.n ≤ 256 := by rw [← hrr.len]; exact HM.out r (List.mem_of_getElem? hr)
        have hsum := fun W h h' => r10sum_c (natL s) r.zs (natL_lim s) hrl A' r.A (natL s).length r.n c' r.c (by omega) (by omega) W h h'
        rw [natL_val] at hsum
        have h3 : (k : Int) < (n : Int) := by omega
        obtain ⟨S, hS⟩ : ∃ S, s + valL r.zs = S := ⟨_, rfl⟩
        rw [hS] at hst hsum
        obtain ⟨RA, hRA⟩ : ∃ x, r.A = x := ⟨_, rfl⟩
        obtain ⟨Rn, hRn⟩ : ∃ x, r.n = x := ⟨_, rfl⟩
        obtain ⟨Rc, hRc⟩ : ∃ x, r.c = x := ⟨_, rfl⟩
        rw [hRA, hRn, hRc] at hcell hsum
        rw [hRA, hRn] at hrr
        have HRR := Lib.hid hrr
        have HRS := Lib.hid hrs
        have HBL := Lib.hid hbl
        have HST := Lib.hid hst
        have HSUM := Lib.hid hsum
        subst hA
        clear hst hsum hgo hr hrr hrs hrc hrm hrl hdr hRA hRn hRc hbl hS hl hlc hcm
        by_cases hbig : 256 < (natL S).length
        · have hgr := HST.out
          rw [if_pos hbig] at hgr
          have HG := Lib.hid hgr
          have hb2 : (256 : Int) < ((natL S).length : Int) := by omega
          obtain ⟨Z, hZ⟩ : ∃ Z, natL S = Z := ⟨_, rfl⟩
          rw [hZ] at HSUM hb2
          clear hgr hbig HST
          go_wp2_with (first
            | (go_at_call 35; (with_reducible refine (HSUM.out _ HRS.out HRR.out).mono ?_); rintro e w5 ⟨A5, c5, rfl, hl5, hm5, hr5, hb5⟩; have HB5 := Lib.hid (HBL.out.trans (hb5.mono HBL.out.size)); clear hl5 hm5 hr5 hb5))
          go_ret2
          rw [HG.out]
          exact RetNE.nil 11 HB5.out
        · have hgr := HST.out
          rw [if_neg hbig] at hgr
          have HG := Lib.hid hgr.symm
          have HSM : Hid ((natL S).length ≤ 256) := Lib.hid (by omega)
          have hb2 : ((natL S).length : Int) ≤ 256 := by omega
          obtain ⟨Z, hZ⟩ : ∃ Z, natL S = Z := ⟨_, rfl⟩
          have HZ := Lib.hid hZ
          rw [hZ] at HSUM hb2 HSM
          clear hgr hbig HST hZ
          go_wp2_with (first
            | (go_at_call 35; (with_reducible refine (HSUM.out _ HRS.out HRR.out).mono ?_); rintro e w5 ⟨A5, c5, rfl, hl5, hm5, hr5, hb5⟩; have HB5 := Lib.hid (HBL.out.trans (hb5.mono HBL.out.size)); have HL5 := Lib.hid hl5; have HM5 := Lib.hid hm5; have HR5 := Lib.hid hr5; clear hl5 hm5 hr5 hb5))
          go_roundw
          case rel => exact ⟨k + 1, S, A5, c5, by omega, by go_num, by rw [HZ.out], by rw [HZ.out]; exact HSM.out, by rw [HZ.out]; exact HL5.out, HM5.out, by rw [HZ.out]; exact HR5.out, HG.out, HB5.out⟩
          case measure => simp [intOf]; omega
      · obtain rfl : k = n := by omega
        rw [HE.out] at hgo
        have HG := Lib.hid (show (0, natL s) = addGo 0 rs from hgo)
        have HL := Lib.hid hlc
        have HM5 := Lib.hid hcm
        have HR5 := Lib.hid hrs
        have HB5 := Lib.hid hbl
        obtain ⟨Z, hZ⟩ : ∃ Z, natL s = Z := ⟨_, rfl⟩
        rw [hZ] at HG HL HR5 ⊢
        clear hgo hlc hcm hrs hbl hZ hl
        go_wp2
        go_ret2
        rw [← HG.out]
        exact ⟨_, _, rfl, HL.out, HM5.out, HR5.out, HB5.out⟩
  · rw [Bool.not_eq_true] at hok
    rw [hok] at hall
    have HALL := Lib.hid hall
    have e1 : addR rs = (1, []) := if_neg (by rw [hok]; decide)
    have HE1 := Lib.hid e1
    clear hrd hall hok e1
    go_enter Tryd.func11, Tryd.ntmps11
    go_wp2_with (first
      | (go_at_call 34; (with_reducible refine (HALL.out _ HR.out).mono ?_); rintro e _ ⟨rfl, rfl⟩))
    go_ret2
    rw [HE1.out]
    exact RetNE.nil 1 (Below.refl _ _)
set_option maxHeartbeats 4000000 in
theorem r10mul_c (rs : List NRow) (A : Option Addr) (n c : Nat) (hn : n ≤ 100000) (w : World) (hrd : RdNs w w.heap.size A n rs) : Calls Tryd.prog 13 #[.slice A n c] w (RetNE w (mulR rs)) := by
  have HR := Lib.hid hrd
  have hnI : (n : Int) ≤ 100000 := by omega
  have HE := Lib.hid (drop_end hrd.1)
  have hall := fun W h => r10all_c rs A n c hn W h
  by_cases hok : allN rs = true
  · rw [hok] at hall
    have HALL := Lib.hid hall
    have e1 : mulR rs = mulGo 1 rs := if_pos hok
    have HM := Lib.hid (fun r hr => rightN_len (allN_mem hok (r := r) hr))
    rw [e1]
    clear hrd hall hok e1
    go_enter Tryd.func13, Tryd.ntmps13
    go_wp2_with (first
      | (go_at_call 34; (with_reducible refine (HALL.out _ HR.out).mono ?_); rintro e _ ⟨rfl, rfl⟩))
    go_loopw [4, 5] (fun v ii wr => ∃ (k s : Nat) (A' : Option Addr) (c' : Nat), k ≤ n ∧ ii = .int .i64 (k : Int) ∧ v = .slice A' (natL s).length c' ∧ (natL s).length ≤ 256 ∧ (natL s).length ≤ c' ∧ c' ≤ maxLen ∧ Rd .u32 wr wr.heap.size A' (natL s).length (natL s) ∧ mulGo s (rs.drop k) = mulGo 1 rs ∧ Below w.heap.size w wr) (fun _ ii _ => n - (intOf ii).toNat)
    case atStart => exact ⟨0, 1, _, 1, by omega, rfl, by rw [natL_one]; rfl, by rw [natL_one]; simp, by rw [natL_one]; simp, by simp [maxLen], by rw [natL_one]; exact (rd_one w 45 .u32 1).fit, by rw [List.drop_zero], (Below.refl _ _).alloc (Nat.le_refl _) _⟩
    case round =>
      obtain ⟨k, s, A', c', hk, rfl, rfl, hl, hlc, hcm, hrs, hgo, hbl⟩ := hrel
      by_cases hlt : k < n
      · obtain ⟨r, b, off, hr, hA, hcell, hrr, hrc, hrm, hrl, hdr⟩ := (HR.out.to hbl).row hlt
        have hst := mulGo_step (s := s) hdr
        rw [hgo] at hst
        have hrlen : r.n ≤ 256 := by rw [← hrr.len]; exact HM.out r (List.mem_of_getElem? hr)
        have hsum := fun W h h' => r10times_c (natL s) r.zs (natL_lim s) hrl A' r.A (natL s).length r.n c' r.c (by omega) (by omega) W h h'
        rw [natL_val] at hsum
        have h3 : (k : Int) < (n : Int) := by omega
        obtain ⟨S, hS⟩ : ∃ S, s * valL r.zs = S := ⟨_, rfl⟩
        rw [hS] at hst hsum
        obtain ⟨RA, hRA⟩ : ∃ x, r.A = x := ⟨_, rfl⟩
        obtain ⟨Rn, hRn⟩ : ∃ x, r.n = x := ⟨_, rfl⟩
        obtain ⟨Rc, hRc⟩ : ∃ x, r.c = x := ⟨_, rfl⟩
        rw [hRA, hRn, hRc] at hcell hsum
        rw [hRA, hRn] at hrr
        have HRR := Lib.hid hrr
        have HRS := Lib.hid hrs
        have HBL := Lib.hid hbl
        have HST := Lib.hid hst
        have HSUM := Lib.hid hsum
        subst hA
        clear hst hsum hgo hr hrr hrs hrc hrm hrl hdr hRA hRn hRc hbl hS hl hlc hcm
        by_cases hbig : 256 < (natL S).length
        · have hgr := HST.out
          rw [if_pos hbig] at hgr
          have HG := Lib.hid hgr
          have hb2 : (256 : Int) < ((natL S).length : Int) := by omega
          obtain ⟨Z, hZ⟩ : ∃ Z, natL S = Z := ⟨_, rfl⟩
          rw [hZ] at HSUM hb2
          clear hgr hbig HST
          go_wp2_with (first
            | (go_at_call 37; (with_reducible refine (HSUM.out _ HRS.out HRR.out).mono ?_); rintro e w5 ⟨A5, c5, rfl, hl5, hm5, hr5, hb5⟩; have HB5 := Lib.hid (HBL.out.trans (hb5.mono HBL.out.size)); clear hl5 hm5 hr5 hb5))
          go_ret2
          rw [HG.out]
          exact RetNE.nil 11 HB5.out
        · have hgr := HST.out
          rw [if_neg hbig] at hgr
          have HG := Lib.hid hgr.symm
          have HSM : Hid ((natL S).length ≤ 256) := Lib.hid (by omega)
          have hb2 : ((natL S).length : Int) ≤ 256 := by omega
          obtain ⟨Z, hZ⟩ : ∃ Z, natL S = Z := ⟨_, rfl⟩
          have HZ := Lib.hid hZ
          rw [hZ] at HSUM hb2 HSM
          clear hgr hbig HST hZ
          go_wp2_with (first
            | (go_at_call 37; (with_reducible refine (HSUM.out _ HRS.out HRR.out).mono ?_); rintro e w5 ⟨A5, c5, rfl, hl5, hm5, hr5, hb5⟩; have HB5 := Lib.hid (HBL.out.trans (hb5.mono HBL.out.size)); have HL5 := Lib.hid hl5; have HM5 := Lib.hid hm5; have HR5 := Lib.hid hr5; clear hl5 hm5 hr5 hb5))
          go_roundw
          case rel => exact ⟨k + 1, S, A5, c5, by omega, by go_num, by rw [HZ.out], by rw [HZ.out]; exact HSM.out, by rw [HZ.out]; exact HL5.out, HM5.out, by rw [HZ.out]; exact HR5.out, HG.out, HB5.out⟩
          case measure => simp [intOf]; omega
      · obtain rfl : k = n := by omega
        rw [HE.out] at hgo
        have HG := Lib.hid (show (0, natL s) = mulGo 1 rs from hgo)
        have HL := Lib.hid hlc
        have HM5 := Lib.hid hcm
        have HR5 := Lib.hid hrs
        have HB5 := Lib.hid hbl
        obtain ⟨Z, hZ⟩ : ∃ Z, natL s = Z := ⟨_, rfl⟩
        rw [hZ] at HG HL HR5 ⊢
        clear hgo hlc hcm hrs hbl hZ hl
        go_wp2
        go_ret2
        rw [← HG.out]
        exact ⟨_, _, rfl, HL.out, HM5.out, HR5.out, HB5.out⟩
  · rw [Bool.not_eq_true] at hok
    rw [hok] at hall
    have HALL := Lib.hid hall
    have e1 : mulR rs = (1, []) := if_neg (by rw [hok]; decide)
    have HE1 := Lib.hid e1
    clear hrd hall hok e1
    go_enter Tryd.func13, Tryd.ntmps13
    go_wp2_with (first
      | (go_at_call 34; (with_reducible refine (HALL.out _ HR.out).mono ?_); rintro e _ ⟨rfl, rfl⟩))
    go_ret2
    rw [HE1.out]
    exact RetNE.nil 1 (Below.refl _ _)
set_option maxHeartbeats 2000000 in
theorem r10same_c (xs ys : List Int) (A B : Option Addr) (n m c d : Nat) (hn : n ≤ maxLen) (hm : m ≤ maxLen) (w : World) (hra : Rd .u32 w w.heap.size A n xs) (hrb : Rd .u32 w w.heap.size B m ys) : Calls Tryd.prog 14 #[.slice A n c, .slice B m d] w fun e w' => e = .returned (.bool (decide (xs = ys))) ∧ Below w.heap.size w w' := by
  have HA := Lib.hid hra
  have HB := Lib.hid hrb
  have hla := hra.len
  have hlb := hrb.len
  have hnm : (n : Int) ≤ 9223372036854775807 := by unfold maxLen at hn; omega
  clear hra hrb hn hm
  by_cases hl : n = m
  · subst hl
    have t0 : ((n : Int) != (n : Int)) = false := by simp
    go_enter Tryd.func14, Tryd.ntmps14
    go_wp2
    go_loopw [5] (fun i wr => ∃ k : Nat, k ≤ n ∧ i = .int .i64 (k : Int) ∧ (∀ j, j < k → xs.getD j 0 = ys.getD j 0) ∧ Below w.heap.size w wr) (fun i _ => n - (intOf i).toNat)
    case atStart => exact ⟨0, by omega, rfl, fun j h => absurd h (by omega), Below.refl _ _⟩
    case round =>
      obtain ⟨k, hk, rfl, heq, hbl⟩ := hrel
      have HEQ := Lib.hid heq
      have HBL := Lib.hid hbl
      by_cases hlt : k < n
      · obtain ⟨b1, o1, rfl, _, hc1⟩ := (HA.out.below hbl).at_ (by omega)
        obtain ⟨b2, o2, rfl, _, hc2⟩ := (HB.out.below hbl).at_ (by omega)
        have hk1 := hc1 k hlt
        have hk2 := hc2 k hlt
        obtain ⟨x, hx⟩ : ∃ x, xs.getD k 0 = x := ⟨_, rfl⟩
        obtain ⟨y, hy⟩ : ∃ y, ys.getD k 0 = y := ⟨_, rfl⟩
        rw [hx] at hk1
        rw [hy] at hk2
        have i0 : (0 : Int) ≤ (k : Int) := by omega
        have i1 : (k : Int) < (n : Int) := by omega
        clear heq hbl hc1 hc2
        by_cases hxy : x = y
        · subst hxy
          have HK : ∀ j, j < k + 1 → xs.getD j 0 = ys.getD j 0 := fun j hj => by
            by_cases h : j = k
            · rw [h, hx, hy]
            · exact HEQ.out j (by omega)
          have HKK := Lib.hid HK
          have t1 : (x != x) = false := by simp
          clear hx hy HEQ HK
          go_wp2
          go_quiet (fail)
          go_wp2
          go_roundw
          case rel => exact ⟨k + 1, by omega, by go_num, HKK.out, HBL.out.trans (below_drewN (Below.refl _ _) _)⟩
          case measure => simp [intOf]; omega
        · have hne : ¬ xs = ys := fun h => hxy (by rw [← hx, ← hy, h])
          have t1 : (x != y) = true := by simp [bne, hxy]
          have HNE := Lib.hid hne
          clear hx hy HEQ hne
          go_wp2
          go_quiet (fail)
          go_wp2
          go_ret
          exact ⟨ret_boolN (decide_eq_false HNE.out).symm, below_drewN HBL.out _⟩
      · have hxy : xs = ys := ext_getDN (by omega) fun j hj => heq j (by omega)
        obtain rfl : k = n := by omega
        have HXY := Lib.hid hxy
        clear heq hbl hxy
        go_wp2
        go_ret
        exact ⟨ret_boolN (decide_eq_true HXY.out).symm, HBL.out⟩
  · have t0 : ((n : Int) != (m : Int)) = true := by simp [bne]; omega
    have hne : ¬ xs = ys := fun h => hl (by rw [← hla, ← hlb, h])
    have HNE := Lib.hid hne
    clear hne
    go_enter Tryd.func14, Tryd.ntmps14
    go_wp2
    go_ret
    exact ⟨ret_boolN (decide_eq_false HNE.out).symm, Below.refl _ _⟩
end Go.Proofs.YtoimepmignlmkaaDoor

/-
  What the program's nat returns: fold (of plus, of times), Add, Mul.
  Conditions: limbs lie in their type's range; at most 100,000 numbers.
-/
import Derived.Test.YtoimepmignlmkaaDoorNatC
import Derived.Test.YtoimepmignlmkaaDoorNatR
set_option maxRecDepth 100000
set_option linter.unusedSimpArgs false
namespace Go.Proofs.YtoimepmignlmkaaDoor
open Go.ChangeShapes Go.WideShapes Go.ChangeAt Go.RowKit
set_option linter.unusedVariables false
set_option maxHeartbeats 4000000 in
theorem q10foldP_c (s0 : Nat) (hs0 : (natL s0).length ≤ 256) (A0 : Option Addr) (c0 : Nat) (hc0 : (natL s0).length ≤ c0) (hm0 : c0 ≤ maxLen) (rs : List NRow) (A : Option Addr) (n c : Nat) (hn : n ≤ 100000) (w : World) (hr0 : Rd .u32 w w.heap.size A0 (natL s0).length (natL s0)) (hrd : RdNs w w.heap.size A n rs) : Calls Tryd.prog 32 #[.func (.func 33) #[] #[], .slice A0 (natL s0).length c0, .slice A n c] w (RetNE w (if allN rs = true then addGo s0 rs else (1, []))) := by
  have HR := Lib.hid hrd
  have hnI : (n : Int) ≤ 100000 := by omega
  have HE := Lib.hid (drop_end hrd.1)
  have HR0 := Lib.hid hr0
  have HP0 := Lib.hid (And.intro hs0 (And.intro hc0 hm0))
  obtain ⟨N0, hN0⟩ : ∃ N, (natL s0).length = N := ⟨_, rfl⟩
  have HN0 := Lib.hid hN0
  rw [hN0]
  obtain ⟨R, hR⟩ : ∃ R, (if allN rs = true then addGo s0 rs else (1, [])) = R := ⟨_, rfl⟩
  have HRES := Lib.hid hR
  rw [hR]
  clear hrd hr0 hs0 hc0 hm0 hN0 hR
  go_enter Tryd.func32, Tryd.ntmps32
  go_wp2
  go_loopw [15] (fun ii wr => ∃ k : Nat, k ≤ n ∧ ii = .int .i64 (k : Int) ∧ allN (rs.drop k) = allN rs ∧ w = wr) (fun ii _ => n - (intOf ii).toNat)
  case atStart => exact ⟨0, by omega, rfl, by rw [List.drop_zero], by first | rfl | trivial⟩
  case round =>
    obtain ⟨k, hk, rfl, hall, rfl⟩ := hrel
    by_cases hlt : k < n
    · obtain ⟨r, b, off, hr, rfl, hcell, hrr, hrc, hrm, hrl, hdr⟩ := HR.out.row hlt
      have hst := allN_step hdr
      rw [hall] at hst
      have hrt := fun W h => q10right_c r.zs r.A r.n r.c (by omega) W h
      have h3 : (k : Int) < (n : Int) := by omega
      obtain ⟨RA, hRA⟩ : ∃ x, r.A = x := ⟨_, rfl⟩
      obtain ⟨Rn, hRn⟩ : ∃ x, r.n = x := ⟨_, rfl⟩
      obtain ⟨Rc, hRc⟩ : ∃ x, r.c = x := ⟨_, rfl⟩
      rw [hRA, hRn, hRc] at hcell
      rw [hRA, hRn] at hrr
      rw [hRA, hRn, hRc] at hrt
      have HRR := Lib.hid hrr
      cases hok : rightN r.zs with
      | true =>
        rw [hok] at hrt hst
        rw [Bool.true_and] at hst
        have HRT := Lib.hid hrt
        have HST := Lib.hid hst.symm
        clear hrt hst hall hr hrr hrc hrm hrl hdr hok hRA hRn hRc
        go_wp2_with (first
          | (go_at_call 22; (with_reducible refine (HRT.out _ HRR.out).mono ?_); rintro e _ ⟨rfl, rfl⟩))
        go_roundw
        case rel => exact ⟨k + 1, by omega, by go_num, HST.out, by first | rfl | trivial⟩
        case measure => simp [intOf]; omega
      | false =>
        rw [hok] at hrt hst
        rw [Bool.false_and] at hst
        have HRT := Lib.hid hrt
        have HST := Lib.hid hst
        clear hrt hst hall hr hrr hrc hrm hrl hdr hok hRA hRn hRc
        go_wp2_with (first
          | (go_at_call 22; (with_reducible refine (HRT.out _ HRR.out).mono ?_); rintro e _ ⟨rfl, rfl⟩))
        go_ret2
        rw [← HRES.out, if_neg (by rw [HST.out]; decide)]
        exact RetNE.nil 1 (Below.refl _ _)
    · obtain rfl : k = n := by omega
      rw [HE.out] at hall
      have hok : allN rs = true := hall.symm
      have HOK := Lib.hid hok
      have HM := Lib.hid (fun r hr => rightN_len (allN_mem hok (r := r) hr))
      clear hall hok
      go_wp2
      go_loopw [10, 26] (fun v ii wr => ∃ (j s : Nat) (A' : Option Addr) (c' : Nat), j ≤ k ∧ ii = .int .i64 (j : Int) ∧ v = .slice A' (natL s).length c' ∧ (natL s).length ≤ 256 ∧ (natL s).length ≤ c' ∧ c' ≤ maxLen ∧ Rd .u32 wr wr.heap.size A' (natL s).length (natL s) ∧ addGo s (rs.drop j) = addGo s0 rs ∧ Below w.heap.size w wr) (fun _ ii _ => k - (intOf ii).toNat)
      case atStart => exact ⟨0, s0, A0, c0, by omega, rfl, by rw [HN0.out], HP0.out.1, HP0.out.2.1, HP0.out.2.2, HR0.out, by rw [List.drop_zero], Below.refl _ _⟩
      case round =>
        obtain ⟨j, s, A', c', hj, rfl, rfl, hl, hlc, hcm, hrs, hgo, hbl⟩ := hrel
        by_cases hlt : j < k
        · obtain ⟨r, b, off, hr, hA, hcell, hrr, hrc, hrm, hrl, hdr⟩ := (HR.out.to hbl).row hlt
          have hst := addGo_step (s := s) hdr
          rw [hgo] at hst
          have hrlen : r.n ≤ 256 := by rw [← hrr.len]; exact HM.out r (List.mem_of_getElem? hr)
          have hsum := fun W h h' => q10plus_c (natL s) r.zs (natL_lim s) hrl A' r.A (natL s).length r.n c' r.c (by omega) (by omega) W h h'
          rw [natL_val] at hsum
          have h3 : (j : Int) < (k : Int) := by omega
          obtain ⟨S, hS⟩ : ∃ S, s + valL r.zs = S := ⟨_, rfl⟩
          rw [hS] at hst hsum
          obtain ⟨RA, hRA⟩ : ∃ x, r.A = x := ⟨_, rfl⟩
          obtain ⟨Rn, hRn⟩ : ∃ x, r.n = x := ⟨_, rfl⟩
          obtain ⟨Rc, hRc⟩ : ∃ x, r.c = x := ⟨_, rfl⟩
          rw [hRA, hRn, hRc] at hcell hsum
          rw [hRA, hRn] at hrr
          have HRR := Lib.hid hrr
          have HRS := Lib.hid hrs
          have HBL := Lib.hid hbl
          have HST := Lib.hid hst
          have HSUM := Lib.hid hsum
          have HJ1 : Hid (j + 1 ≤ k) := Lib.hid (by omega)
          subst hA
          clear hst hsum hgo hr hrr hrs hrc hrm hrl hdr hRA hRn hRc hbl hS hl hlc hcm
          by_cases hbig : 256 < (natL S).length
          · have hgr := HST.out
            rw [if_pos hbig] at hgr
            have HG := Lib.hid hgr
            have hb2 : (256 : Int) < ((natL S).length : Int) := by omega
            obtain ⟨Z, hZ⟩ : ∃ Z, natL S = Z := ⟨_, rfl⟩
            rw [hZ] at HSUM hb2
            clear hgr hbig HST
            go_wp2_with (first
              | (go_at_call 33; (with_reducible refine (HSUM.out _ HRS.out HRR.out).mono ?_); rintro e w5 ⟨A5, c5, rfl, hl5, hm5, hr5, hb5⟩; have HB5 := Lib.hid (HBL.out.trans (hb5.mono HBL.out.size)); clear hl5 hm5 hr5 hb5))
            go_ret2
            rw [← HRES.out, if_pos HOK.out, HG.out]
            exact RetNE.nil 11 HB5.out
          · have hgr := HST.out
            rw [if_neg hbig] at hgr
            have HG := Lib.hid hgr.symm
            have HSM : Hid ((natL S).length ≤ 256) := Lib.hid (by omega)
            have hb2 : ((natL S).length : Int) ≤ 256 := by omega
            obtain ⟨Z, hZ⟩ : ∃ Z, natL S = Z := ⟨_, rfl⟩
            have HZ := Lib.hid hZ
            rw [hZ] at HSUM hb2 HSM
            clear hgr hbig HST hZ
            go_wp2_with (first
              | (go_at_call 33; (with_reducible refine (HSUM.out _ HRS.out HRR.out).mono ?_); rintro e w5 ⟨A5, c5, rfl, hl5, hm5, hr5, hb5⟩; have HB5 := Lib.hid (HBL.out.trans (hb5.mono HBL.out.size)); have HL5 := Lib.hid hl5; have HM5 := Lib.hid hm5; have HR5 := Lib.hid hr5; clear hl5 hm5 hr5 hb5))
            go_roundw
            case rel => exact ⟨j + 1, S, A5, c5, HJ1.out, by go_num, by rw [HZ.out], by rw [HZ.out]; exact HSM.out, by rw [HZ.out]; exact HL5.out, HM5.out, by rw [HZ.out]; exact HR5.out, HG.out, HB5.out⟩
            case measure => have := HJ1.out; simp [intOf]; omega
        · obtain rfl : j = k := by omega
          rw [HE.out] at hgo
          have HG := Lib.hid (show (0, natL s) = addGo s0 rs from hgo)
          have HL := Lib.hid hlc
          have HM5 := Lib.hid hcm
          have HR5 := Lib.hid hrs
          have HB5 := Lib.hid hbl
          obtain ⟨Z, hZ⟩ : ∃ Z, natL s = Z := ⟨_, rfl⟩
          rw [hZ] at HG HL HR5 ⊢
          clear hgo hlc hcm hrs hbl hZ hl
          go_wp2
          go_ret2
          rw [← HRES.out, if_pos HOK.out, ← HG.out]
          exact ⟨_, _, rfl, HL.out, HM5.out, HR5.out, HB5.out⟩
set_option maxHeartbeats 4000000 in
theorem q10foldT_c (s0 : Nat) (hs0 : (natL s0).length ≤ 256) (A0 : Option Addr) (c0 : Nat) (hc0 : (natL s0).length ≤ c0) (hm0 : c0 ≤ maxLen) (rs : List NRow) (A : Option Addr) (n c : Nat) (hn : n ≤ 100000) (w : World) (hr0 : Rd .u32 w w.heap.size A0 (natL s0).length (natL s0)) (hrd : RdNs w w.heap.size A n rs) : Calls Tryd.prog 32 #[.func (.func 36) #[] #[], .slice A0 (natL s0).length c0, .slice A n c] w (RetNE w (if allN rs = true then mulGo s0 rs else (1, []))) := by
  have HR := Lib.hid hrd
  have hnI : (n : Int) ≤ 100000 := by omega
  have HE := Lib.hid (drop_end hrd.1)
  have HR0 := Lib.hid hr0
  have HP0 := Lib.hid (And.intro hs0 (And.intro hc0 hm0))
  obtain ⟨N0, hN0⟩ : ∃ N, (natL s0).length = N := ⟨_, rfl⟩
  have HN0 := Lib.hid hN0
  rw [hN0]
  obtain ⟨R, hR⟩ : ∃ R, (if allN rs = true then mulGo s0 rs else (1, [])) = R := ⟨_, rfl⟩
  have HRES := Lib.hid hR
  rw [hR]
  clear hrd hr0 hs0 hc0 hm0 hN0 hR
  go_enter Tryd.func32, Tryd.ntmps32
  go_wp2
  go_loopw [15] (fun ii wr => ∃ k : Nat, k ≤ n ∧ ii = .int .i64 (k : Int) ∧ allN (rs.drop k) = allN rs ∧ w = wr) (fun ii _ => n - (intOf ii).toNat)
  case atStart => exact ⟨0, by omega, rfl, by rw [List.drop_zero], by first | rfl | trivial⟩
  case round =>
    obtain ⟨k, hk, rfl, hall, rfl⟩ := hrel
    by_cases hlt : k < n
    · obtain ⟨r, b, off, hr, rfl, hcell, hrr, hrc, hrm, hrl, hdr⟩ := HR.out.row hlt
      have hst := allN_step hdr
      rw [hall] at hst
      have hrt := fun W h => q10right_c r.zs r.A r.n r.c (by omega) W h
      have h3 : (k : Int) < (n : Int) := by omega
      obtain ⟨RA, hRA⟩ : ∃ x, r.A = x := ⟨_, rfl⟩
      obtain ⟨Rn, hRn⟩ : ∃ x, r.n = x := ⟨_, rfl⟩
      obtain ⟨Rc, hRc⟩ : ∃ x, r.c = x := ⟨_, rfl⟩
      rw [hRA, hRn, hRc] at hcell
      rw [hRA, hRn] at hrr
      rw [hRA, hRn, hRc] at hrt
      have HRR := Lib.hid hrr
      cases hok : rightN r.zs with
      | true =>
        rw [hok] at hrt hst
        rw [Bool.true_and] at hst
        have HRT := Lib.hid hrt
        have HST := Lib.hid hst.symm
        clear hrt hst hall hr hrr hrc hrm hrl hdr hok hRA hRn hRc
        go_wp2_with (first
          | (go_at_call 22; (with_reducible refine (HRT.out _ HRR.out).mono ?_); rintro e _ ⟨rfl, rfl⟩))
        go_roundw
        case rel => exact ⟨k + 1, by omega, by go_num, HST.out, by first | rfl | trivial⟩
        case measure => simp [intOf]; omega
      | false =>
        rw [hok] at hrt hst
        rw [Bool.false_and] at hst
        have HRT := Lib.hid hrt
        have HST := Lib.hid hst
        clear hrt hst hall hr hrr hrc hrm hrl hdr hok hRA hRn hRc
        go_wp2_with (first
          | (go_at_call 22; (with_reducible refine (HRT.out _ HRR.out).mono ?_); rintro e _ ⟨rfl, rfl⟩))
        go_ret2
        rw [← HRES.out, if_neg (by rw [HST.out]; decide)]
        exact RetNE.nil 1 (Below.refl _ _)
    · obtain rfl : k = n := by omega
      rw [HE.out] at hall
      have hok : allN rs = true := hall.symm
      have HOK := Lib.hid hok
      have HM := Lib.hid (fun r hr => rightN_len (allN_mem hok (r := r) hr))
      clear hall hok
      go_wp2
      go_loopw [10, 26] (fun v ii wr => ∃ (j s : Nat) (A' : Option Addr) (c' : Nat), j ≤ k ∧ ii = .int .i64 (j : Int) ∧ v = .slice A' (natL s).length c' ∧ (natL s).length ≤ 256 ∧ (natL s).length ≤ c' ∧ c' ≤ maxLen ∧ Rd .u32 wr wr.heap.size A' (natL s).length (natL s) ∧ mulGo s (rs.drop j) = mulGo s0 rs ∧ Below w.heap.size w wr) (fun _ ii _ => k - (intOf ii).toNat)
      case atStart => exact ⟨0, s0, A0, c0, by omega, rfl, by rw [HN0.out], HP0.out.1, HP0.out.2.1, HP0.out.2.2, HR0.out, by rw [List.drop_zero], Below.refl _ _⟩
      case round =>
        obtain ⟨j, s, A', c', hj, rfl, rfl, hl, hlc, hcm, hrs, hgo, hbl⟩ := hrel
        by_cases hlt : j < k
        · obtain ⟨r, b, off, hr, hA, hcell, hrr, hrc, hrm, hrl, hdr⟩ := (HR.out.to hbl).row hlt
          have hst := mulGo_step (s := s) hdr
          rw [hgo] at hst
          have hrlen : r.n ≤ 256 := by rw [← hrr.len]; exact HM.out r (List.mem_of_getElem? hr)
          have hsum := fun W h h' => q10times_c (natL s) r.zs (natL_lim s) hrl A' r.A (natL s).length r.n c' r.c (by omega) (by omega) W h h'
          rw [natL_val] at hsum
          have h3 : (j : Int) < (k : Int) := by omega
          obtain ⟨S, hS⟩ : ∃ S, s * valL r.zs = S := ⟨_, rfl⟩
          rw [hS] at hst hsum
          obtain ⟨RA, hRA⟩ : ∃ x, r.A = x := ⟨_, rfl⟩
          obtain ⟨Rn, hRn⟩ : ∃ x, r.n = x := ⟨_, rfl⟩
          obtain ⟨Rc, hRc⟩ : ∃ x, r.c = x := ⟨_, rfl⟩
          rw [hRA, hRn, hRc] at hcell hsum
          rw [hRA, hRn] at hrr
          have HRR := Lib.hid hrr
          have HRS := Lib.hid hrs
          have HBL := Lib.hid hbl
          have HST := Lib.hid hst
          have HSUM := Lib.hid hsum
          have HJ1 : Hid (j + 1 ≤ k) := Lib.hid (by omega)
          subst hA
          clear hst hsum hgo hr hrr hrs hrc hrm hrl hdr hRA hRn hRc hbl hS hl hlc hcm
          by_cases hbig : 256 < (natL S).length
          · have hgr := HST.out
            rw [if_pos hbig] at hgr
            have HG := Lib.hid hgr
            have hb2 : (256 : Int) < ((natL S).length : Int) := by omega
            obtain ⟨Z, hZ⟩ : ∃ Z, natL S = Z := ⟨_, rfl⟩
            rw [hZ] at HSUM hb2
            clear hgr hbig HST
            go_wp2_with (first
              | (go_at_call 36; (with_reducible refine (HSUM.out _ HRS.out HRR.out).mono ?_); rintro e w5 ⟨A5, c5, rfl, hl5, hm5, hr5, hb5⟩; have HB5 := Lib.hid (HBL.out.trans (hb5.mono HBL.out.size)); clear hl5 hm5 hr5 hb5))
            go_ret2
            rw [← HRES.out, if_pos HOK.out, HG.out]
            exact RetNE.nil 11 HB5.out
          · have hgr := HST.out
            rw [if_neg hbig] at hgr
            have HG := Lib.hid hgr.symm
            have HSM : Hid ((natL S).length ≤ 256) := Lib.hid (by omega)
            have hb2 : ((natL S).length : Int) ≤ 256 := by omega
            obtain ⟨Z, hZ⟩ : ∃ Z, natL S = Z := ⟨_, rfl⟩
            have HZ := Lib.hid hZ
            rw [hZ] at HSUM hb2 HSM
            clear hgr hbig HST hZ
            go_wp2_with (first
              | (go_at_call 36; (with_reducible refine (HSUM.out _ HRS.out HRR.out).mono ?_); rintro e w5 ⟨A5, c5, rfl, hl5, hm5, hr5, hb5⟩; have HB5 := Lib.hid (HBL.out.trans (hb5.mono HBL.out.size)); have HL5 := Lib.hid hl5; have HM5 := Lib.hid hm5; have HR5 := Lib.hid hr5; clear hl5 hm5 hr5 hb5))
            go_roundw
            case rel => exact ⟨j + 1, S, A5, c5, HJ1.out, by go_num, by rw [HZ.out], by rw [HZ.out]; exact HSM.out, by rw [HZ.out]; exact HL5.out, HM5.out, by rw [HZ.out]; exact HR5.out, HG.out, HB5.out⟩
            case measure => have := HJ1.out; simp [intOf]; omega
        · obtain rfl : j = k := by omega
          rw [HE.out] at hgo
          have HG := Lib.hid (show (0, natL s) = mulGo s0 rs from hgo)
          have HL := Lib.hid hlc
          have HM5 := Lib.hid hcm
          have HR5 := Lib.hid hrs
          have HB5 := Lib.hid hbl
          obtain ⟨Z, hZ⟩ : ∃ Z, natL s = Z := ⟨_, rfl⟩
          rw [hZ] at HG HL HR5 ⊢
          clear hgo hlc hcm hrs hbl hZ hl
          go_wp2
          go_ret2
          rw [← HRES.out, if_pos HOK.out, ← HG.out]
          exact ⟨_, _, rfl, HL.out, HM5.out, HR5.out, HB5.out⟩
set_option maxHeartbeats 4000000 in
theorem q10add_c (rs : List NRow) (A : Option Addr) (n c : Nat) (hn : n ≤ 100000) (w : World) (hrd : RdNs w w.heap.size A n rs) : Calls Tryd.prog 10 #[.slice A n c] w (RetNE w (addR rs)) := by
  have hf := fun W (h : RdNs W W.heap.size A n rs) => q10foldP_c 0 (by rw [natL_zero]; simp) none 0 (by rw [natL_zero]; simp) (by simp [maxLen]) rs A n c hn W (by rw [natL_zero]; exact Rd.none_) h
  rw [natL_zero] at hf
  have HF : Hid (∀ W, RdNs W W.heap.size A n rs → Calls Tryd.prog 32 #[.func (.func 33) #[] #[], .slice none 0 0, .slice A n c] W (RetNE W (addR rs))) := Lib.hid hf
  have HR := Lib.hid hrd
  obtain ⟨⟨er, zr⟩, hR⟩ : ∃ R, addR rs = R := ⟨_, rfl⟩
  rw [hR] at HF ⊢
  clear hf hrd hR
  go_enter Tryd.func10, Tryd.ntmps10
  go_wp2_with (first
    | (go_at_call 32; (with_reducible refine (HF.out _ HR.out).mono ?_); rintro e w5 ⟨A5, c5, rfl, hl5, hm5, hr5, hb5⟩; have HB5 := Lib.hid hb5; have HL5 := Lib.hid hl5; have HM5 := Lib.hid hm5; have HR5 := Lib.hid hr5; clear hl5 hm5 hr5 hb5))
  go_ret2
  exact ⟨_, _, rfl, HL5.out, HM5.out, HR5.out, HB5.out⟩
set_option maxHeartbeats 4000000 in
theorem q10mul_c (rs : List NRow) (A : Option Addr) (n c : Nat) (hn : n ≤ 100000) (w : World) (hrd : RdNs w w.heap.size A n rs) : Calls Tryd.prog 12 #[.slice A n c] w (RetNE w (mulR rs)) := by
  have hof := fun W => q10of_c 1 (by omega) (by omega) W
  rw [show (1 : Int).toNat = 1 from rfl] at hof
  have h1 : (natL 1).length = 1 := by rw [natL_one]; rfl
  have HF : Hid (∀ A0 c0 W, (natL 1).length ≤ c0 → c0 ≤ maxLen → Rd .u32 W W.heap.size A0 (natL 1).length (natL 1) → RdNs W W.heap.size A n rs → Calls Tryd.prog 32 #[.func (.func 36) #[] #[], .slice A0 (natL 1).length c0, .slice A n c] W (RetNE W (mulR rs))) := Lib.hid (fun A0 c0 W h2 h3 h4 h5 => q10foldT_c 1 (by rw [h1]; omega) A0 c0 h2 h3 rs A n c hn W h4 h5)
  have HR := Lib.hid hrd
  have HOF := Lib.hid hof
  obtain ⟨⟨er, zr⟩, hR⟩ : ∃ R, mulR rs = R := ⟨_, rfl⟩
  rw [hR] at HF ⊢
  obtain ⟨Z, hZ⟩ : ∃ Z, natL 1 = Z := ⟨_, rfl⟩
  rw [hZ] at HF HOF
  clear hrd hR hof hZ h1
  go_enter Tryd.func12, Tryd.ntmps12
  go_wp2_with (first
    | (go_at_call 24; (with_reducible refine (HOF.out _).mono ?_); rintro e w4 ⟨A4, c4, rfl, hl4, hm4, hr4, hb4⟩; have HB4 := Lib.hid hb4; have HL4 := Lib.hid hl4; have HM4 := Lib.hid hm4; have HR4 := Lib.hid hr4; have HS4 := Lib.hid (HR.out.to hb4); clear hl4 hm4 hr4 hb4)
    | (go_at_call 32; (with_reducible refine (HF.out _ _ _ HL4.out HM4.out HR4.out HS4.out).mono ?_); rintro e w5 ⟨A5, c5, rfl, hl5, hm5, hr5, hb5⟩; have HB5 := Lib.hid (HB4.out.trans (hb5.mono HB4.out.size)); have HL5 := Lib.hid hl5; have HM5 := Lib.hid hm5; have HR5 := Lib.hid hr5; clear hl5 hm5 hr5 hb5))
  go_ret2
  exact ⟨_, _, rfl, HL5.out, HM5.out, HR5.out, HB5.out⟩
end Go.Proofs.YtoimepmignlmkaaDoor

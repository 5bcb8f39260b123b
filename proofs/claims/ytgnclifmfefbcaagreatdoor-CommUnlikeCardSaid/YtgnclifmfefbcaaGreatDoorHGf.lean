/-
  Texts of this claim, joined (what the claim does not need is left out): RefU, RefCw.
-/
import Derived.Test.YtgnclifmfefbcaaGreatDoorHGe
set_option maxRecDepth 100000
set_option linter.unusedVariables false
set_option linter.unusedSimpArgs false
set_option linter.unusedSectionVars false
namespace Go.Proofs.YtgnclifmfefbcaaGreatDoor
section
open Go.ChangeShapes Go.WideShapes Go.ChangeAt Go.RowKit
set_option maxHeartbeats 4000000 in
theorem r10cmp_c (xs ys : List Int) (hx : Lim xs) (hy : Lim ys) (A B : Option Addr) (n m c d : Nat) (hn : n ≤ maxLen) (hm : m ≤ maxLen) (w : World) (hra : Rd .u32 w w.heap.size A n xs) (hrb : Rd .u32 w w.heap.size B m ys) : Calls Tryz.prog 72 #[.slice A n c, .slice B m d] w fun e w' => e = .returned (.int .i64 (cmpR xs ys)) ∧ Below w.heap.size w w' := by
  have hr1 := fun W h => r10right_c xs A n c hn W h
  have hr2 := fun W h => r10right_c ys B m d hm W h
  have HRA := Lib.hid hra
  have HRB := Lib.hid hrb
  have hla := hra.len
  have hlb := hrb.len
  have hnI : (n : Int) ≤ 9223372036854775807 := by unfold maxLen at hn; omega
  have hmI : (m : Int) ≤ 9223372036854775807 := by unfold maxLen at hm; omega
  cases h1 : rightN xs with
  | false =>
    have e1 : cmpR xs ys = 0 := by unfold cmpR; rw [h1]; rfl
    rw [h1] at hr1
    rw [e1]
    have HR1 := Lib.hid hr1
    clear hr1 hr2 h1 e1 hra hrb hn hm
    go_enter Tryz.func72, Tryz.ntmps72
    go_wp2_with (first
      | (go_at_call 71; (with_reducible refine (HR1.out _ HRA.out).mono ?_); rintro e _ ⟨rfl, rfl⟩))
    go_ret
    exact ⟨rfl, Below.refl _ _⟩
  | true =>
    rw [h1] at hr1
    have HR1 := Lib.hid hr1
    cases h2 : rightN ys with
    | false =>
      have e1 : cmpR xs ys = 0 := by unfold cmpR; rw [h1, h2]; rfl
      rw [h2] at hr2
      rw [e1]
      have HR2 := Lib.hid hr2
      clear hr1 hr2 h1 h2 e1 hra hrb hn hm
      go_enter Tryz.func72, Tryz.ntmps72
      go_wp2_with (first
        | (go_at_call 71; (with_reducible refine (HR1.out _ HRA.out).mono ?_); rintro e _ ⟨rfl, rfl⟩)
        | (go_at_call 71; (with_reducible refine (HR2.out _ HRB.out).mono ?_); rintro e _ ⟨rfl, rfl⟩))
      go_ret
      exact ⟨rfl, Below.refl _ _⟩
    | true =>
      have e1 : cmpR xs ys = if valL xs < valL ys then -1 else if valL ys < valL xs then 1 else 0 := by unfold cmpR; rw [h1, h2]; rfl
      rw [h2] at hr2
      have HR2 := Lib.hid hr2
      have HE1 := Lib.hid e1
      by_cases hl : n < m
      · have hv := len_less hx hy h2 (by omega)
        have HE2 : Hid (cmpR xs ys = -1) := Lib.hid (by rw [e1, if_pos hv])
        have t1 : ((n : Int) != (m : Int)) = true := by rw [bne_iff_ne]; omega
        have t2 : (n : Int) < (m : Int) := by omega
        clear hr1 hr2 h1 h2 e1 hra hrb hn hm hv hl HE1
        go_enter Tryz.func72, Tryz.ntmps72
        go_wp2_with (first
          | (go_at_call 71; (with_reducible refine (HR1.out _ HRA.out).mono ?_); rintro e _ ⟨rfl, rfl⟩)
          | (go_at_call 71; (with_reducible refine (HR2.out _ HRB.out).mono ?_); rintro e _ ⟨rfl, rfl⟩))
        go_ret
        rw [HE2.out]
        exact ⟨rfl, Below.refl _ _⟩
      · by_cases hl2 : m < n
        · have hv := len_less hy hx h1 (by omega)
          have HE2 : Hid (cmpR xs ys = 1) := Lib.hid (by rw [e1, if_neg (by omega), if_pos hv])
          have t1 : ((n : Int) != (m : Int)) = true := by rw [bne_iff_ne]; omega
          have t2 : ¬ (n : Int) < (m : Int) := by omega
          clear hr1 hr2 h1 h2 e1 hra hrb hn hm hv hl hl2 HE1
          go_enter Tryz.func72, Tryz.ntmps72
          go_wp2_with (first
            | (go_at_call 71; (with_reducible refine (HR1.out _ HRA.out).mono ?_); rintro e _ ⟨rfl, rfl⟩)
            | (go_at_call 71; (with_reducible refine (HR2.out _ HRB.out).mono ?_); rintro e _ ⟨rfl, rfl⟩))
          go_ret
          rw [HE2.out]
          exact ⟨rfl, Below.refl _ _⟩
        · obtain rfl : n = m := by omega
          have t1 : ((n : Int) != (n : Int)) = false := by simp
          have HL := Lib.hid (fun i (h : i < n) hd hlt => cmp_less hx hy (i := i) (by omega) (by omega) hd hlt)
          have HG := Lib.hid (fun i (h : i < n) hd hlt => cmp_less hy hx (i := i) (by omega) (by omega) hd hlt)
          have HDX := Lib.hid (fun i (h : i < n) => show xs.drop i = xs.getD i 0 :: xs.drop (i + 1) by rw [List.drop_eq_getElem_cons (by omega), List.getD_eq_getElem?_getD, List.getElem?_eq_getElem (by omega)]; rfl)
          have HDY := Lib.hid (fun i (h : i < n) => show ys.drop i = ys.getD i 0 :: ys.drop (i + 1) by rw [List.drop_eq_getElem_cons (by omega), List.getD_eq_getElem?_getD, List.getElem?_eq_getElem (by omega)]; rfl)
          have hend : xs.drop n = ys.drop n := by rw [List.drop_eq_nil_of_le (by omega), List.drop_eq_nil_of_le (by omega)]
          have HEND := Lib.hid hend
          clear hr1 hr2 h1 h2 e1 hra hrb hn hm hl hl2 hx hy hend
          go_enter Tryz.func72, Tryz.ntmps72
          go_wp2_with (first
            | (go_at_call 71; (with_reducible refine (HR1.out _ HRA.out).mono ?_); rintro e _ ⟨rfl, rfl⟩)
            | (go_at_call 71; (with_reducible refine (HR2.out _ HRB.out).mono ?_); rintro e _ ⟨rfl, rfl⟩))
          go_loopw [5] (fun ii wr => ∃ j : Nat, j ≤ n ∧ ii = .int .i64 ((j : Int) - 1) ∧ xs.drop j = ys.drop j ∧ Below w.heap.size w wr) (fun ii _ => (intOf ii + 1).toNat)
          case atStart => exact ⟨n, Nat.le_refl _, by go_num, HEND.out, Below.refl _ _⟩
          case round =>
            obtain ⟨j, hj, rfl, hd, hbl⟩ := hrel
            rcases j with _ | i
            · have hxy : xs = ys := by rw [List.drop_zero, List.drop_zero] at hd; exact hd
              have HE2 : Hid (cmpR xs ys = 0) := Lib.hid (by rw [HE1.out, hxy, if_neg (by omega), if_neg (by omega)])
              have HBL := Lib.hid hbl
              clear hd hbl hxy
              rw [show ((0 : Nat) : Int) - 1 = -1 from rfl]
              go_wp2
              go_ret
              rw [HE2.out]
              exact ⟨rfl, HBL.out⟩
            · have hin : i < n := by omega
              rw [show ((i + 1 : Nat) : Int) - 1 = (i : Int) by omega]
              obtain ⟨b1, o1, rfl, _, hc1⟩ := (HRA.out.below hbl).at_ (by omega)
              obtain ⟨b2, o2, rfl, _, hc2⟩ := (HRB.out.below hbl).at_ (by omega)
              have hk1 := hc1 i hin
              have hk2 := hc2 i hin
              have hlt := HL.out i hin hd
              have hgt := HG.out i hin hd.symm
              have hdx := HDX.out i hin
              have hdy := HDY.out i hin
              obtain ⟨x, hx⟩ : ∃ x, xs.getD i 0 = x := ⟨_, rfl⟩
              obtain ⟨y, hy⟩ : ∃ y, ys.getD i 0 = y := ⟨_, rfl⟩
              rw [hx] at hk1 hlt hgt hdx
              rw [hy] at hk2 hlt hgt hdy
              have i0 : (0 : Int) ≤ (i : Int) := by omega
              have i1 : (i : Int) < (n : Int) := by omega
              have HBL := Lib.hid hbl
              by_cases hxy : x < y
              · have HE2 : Hid (cmpR xs ys = -1) := Lib.hid (by rw [HE1.out, if_pos (hlt hxy)])
                clear hc1 hc2 hlt hgt hdx hdy hx hy hd hbl
                go_wp2
                go_quiet (fail)
                go_wp2
                go_ret
                rw [HE2.out]
                exact ⟨rfl, below_drewN HBL.out _⟩
              · by_cases hyx : y < x
                · have HE2 : Hid (cmpR xs ys = 1) := Lib.hid (by
                    have := hgt hyx
                    rw [HE1.out, if_neg (by omega), if_pos this])
                  clear hc1 hc2 hlt hgt hdx hdy hx hy hd hbl
                  go_wp2
                  go_quiet (fail)
                  go_wp2
                  go_quiet (fail)
                  go_wp2
                  go_ret
                  rw [HE2.out]
                  exact ⟨rfl, below_drewN (below_drewN HBL.out _) _⟩
                · obtain rfl : x = y := by omega
                  have HD := Lib.hid (show xs.drop i = ys.drop i by rw [hdx, hdy, hd])
                  clear hc1 hc2 hlt hgt hdx hdy hx hy hd hbl hyx
                  go_wp2
                  go_quiet (fail)
                  go_wp2
                  go_quiet (fail)
                  go_wp2
                  go_roundw
                  case rel => exact ⟨i, by omega, by go_num, HD.out, below_drewN HBL.out _⟩
                  case measure => simp [intOf]
set_option maxHeartbeats 4000000 in
theorem r10sub_c (xs ys : List Int) (hx : Lim xs) (hy : Lim ys) (A B : Option Addr) (n m c d : Nat) (hn : n ≤ maxLen) (hm : m ≤ maxLen) (w : World) (hra : Rd .u32 w w.heap.size A n xs) (hrb : Rd .u32 w w.heap.size B m ys) : Calls Tryz.prog 45 #[.slice A n c, .slice B m d] w (RetNE w (subR xs ys)) := by
  have hr1 := fun W h => r10right_c xs A n c hn W h
  have hr2 := fun W h => r10right_c ys B m d hm W h
  have hcmp := fun W h h' => r10cmp_c xs ys hx hy A B n m c d hn hm W h h'
  have HRA := Lib.hid hra
  have HRB := Lib.hid hrb
  have hla := hra.len
  have hlb := hrb.len
  cases h1 : rightN xs with
  | false =>
    have e1 : subR xs ys = (1, []) := by unfold subR; rw [h1]; rfl
    rw [h1] at hr1
    rw [e1]
    have HR1 := Lib.hid hr1
    clear hr1 hr2 h1 e1 hra hrb hn hm hcmp
    go_enter Tryz.func45, Tryz.ntmps45
    go_wp2_with (first
      | (go_at_call 71; (with_reducible refine (HR1.out _ HRA.out).mono ?_); rintro e _ ⟨rfl, rfl⟩))
    go_ret2
    exact RetNE.nil 1 (Below.refl _ _)
  | true =>
    rw [h1] at hr1
    have HR1 := Lib.hid hr1
    cases h2 : rightN ys with
    | false =>
      have e1 : subR xs ys = (1, []) := by unfold subR; rw [h1, h2]; rfl
      rw [h2] at hr2
      rw [e1]
      have HR2 := Lib.hid hr2
      clear hr1 hr2 h1 h2 e1 hra hrb hn hm hcmp
      go_enter Tryz.func45, Tryz.ntmps45
      go_wp2_with (first
        | (go_at_call 71; (with_reducible refine (HR1.out _ HRA.out).mono ?_); rintro e _ ⟨rfl, rfl⟩)
        | (go_at_call 71; (with_reducible refine (HR2.out _ HRB.out).mono ?_); rintro e _ ⟨rfl, rfl⟩))
      go_ret2
      exact RetNE.nil 1 (Below.refl _ _)
    | true =>
      have e1 : subR xs ys = if valL xs < valL ys then (12, []) else (0, natL (valL xs - valL ys)) := by unfold subR; rw [h1, h2]; rfl
      have c1 : cmpR xs ys = if valL xs < valL ys then -1 else if valL ys < valL xs then 1 else 0 := by unfold cmpR; rw [h1, h2]; rfl
      rw [h2] at hr2
      have HR2 := Lib.hid hr2
      by_cases hv : valL xs < valL ys
      · rw [e1, if_pos hv]
        rw [c1, if_pos hv] at hcmp
        have HC := Lib.hid hcmp
        clear hr1 hr2 h1 h2 e1 c1 hra hrb hn hm hcmp hv
        go_enter Tryz.func45, Tryz.ntmps45
        go_wp2_with (first
          | (go_at_call 71; (with_reducible refine (HR1.out _ HRA.out).mono ?_); rintro e _ ⟨rfl, rfl⟩)
          | (go_at_call 71; (with_reducible refine (HR2.out _ HRB.out).mono ?_); rintro e _ ⟨rfl, rfl⟩)
          | (go_at_call 72; (with_reducible refine (HC.out _ HRA.out HRB.out).mono ?_); rintro e w3 ⟨rfl, hb3⟩; have HB3 := Lib.hid hb3; clear hb3))
        go_ret2
        exact RetNE.nil 12 HB3.out
      · rw [e1, if_neg hv]
        rw [c1, if_neg hv] at hcmp
        have hmn : m ≤ n := by
          rcases Nat.lt_or_ge n m with h | h
          · exact absurd (len_less hx hy h2 (by omega)) hv
          · exact h
        have hn256 : n ≤ 256 := by rw [← hla]; exact rightN_len h1
        obtain ⟨z, hz⟩ : ∃ z : Int, (if valL ys < valL xs then (1 : Int) else 0) = z := ⟨_, rfl⟩
        have hz0 : ¬ z < 0 := by rw [← hz]; split <;> omega
        rw [hz] at hcmp
        have HC := Lib.hid hcmp
        obtain ⟨i0, hi0, hz0', hz1, hzb⟩ := info_parts info_u32d
        have HLA := Lib.hid (fun (i : Nat) W (h : Rd .u32 W W.heap.size A n xs) => r10limb_c xs hx A n c hn i W h)
        have HLB := Lib.hid (fun (i : Nat) W (h : Rd .u32 W W.heap.size B m ys) => r10limb_c ys hy B m d hm i W h)
        have HXG := Lib.hid (fun i => hx.getD i)
        have HYG := Lib.hid (fun i => hy.getD i)
        have HXT := Lib.hid (fun i => valL_take_next xs i)
        have HYT := Lib.hid (fun i => valL_take_next ys i)
        have htx : xs.take n = xs := by rw [← hla, List.take_length]
        have hty : ys.take n = ys := List.take_of_length_le (by omega)
        have HTX := Lib.hid htx
        have HTY := Lib.hid hty
        have HV : Hid (valL ys ≤ valL xs) := Lib.hid (by omega)
        have HST : Hid (valL [] + valL (ys.take 0) = valL (xs.take 0) + 4294967296 ^ 0 * 0) := Lib.hid rfl
        clear hr1 hr2 h1 h2 e1 c1 hra hrb hm hcmp hv hz hx hy htx hty hn
        go_enter Tryz.func45, Tryz.ntmps45
        go_wp2_with (first
          | (go_at_call 71; (with_reducible refine (HR1.out _ HRA.out).mono ?_); rintro e _ ⟨rfl, rfl⟩)
          | (go_at_call 71; (with_reducible refine (HR2.out _ HRB.out).mono ?_); rintro e _ ⟨rfl, rfl⟩)
          | (go_at_call 72; (with_reducible refine (HC.out _ HRA.out HRB.out).mono ?_); rintro e w3 ⟨rfl, hb3⟩; have HB3 := Lib.hid hb3; clear hb3))
        go_loopw [6, 7, 8] (fun v cc ii wr => ∃ (i bo : Nat) (out : List Int), i ≤ n ∧ bo ≤ 1 ∧ cc = .int .u64 (bo : Int) ∧ ii = .int .i64 (i : Int) ∧ out.length = i ∧ Lim out ∧ valL out + valL (ys.take i) = valL (xs.take i) + 4294967296 ^ i * bo ∧ OwnI wr w.heap.size 62 .u32 v out ∧ Below w.heap.size w wr) (fun _ _ ii _ => n - (intOf ii).toNat)
        case atStart => exact ⟨0, 0, [], by omega, by omega, rfl, rfl, rfl, Lim.nil, HST.out, own_nil _ _ _, HB3.out⟩
        case round =>
          clear HST HB3
          obtain ⟨i, bo, out, hi, hbo, rfl, rfl, hol, hlo, hval, hown, hbl⟩ := hrel
          have HOW := Lib.hid hown
          have HBL := Lib.hid hbl
          have hsz := hbl.size
          by_cases hlt : i < n
          · have hxi := HXG.out i
            have hyi := HYG.out i
            have hla1 := fun W (h : Rd .u32 W W.heap.size A n xs) => HLA.out i W h
            have hlb1 := fun W (h : Rd .u32 W W.heap.size B m ys) => HLB.out i W h
            have hxt := HXT.out i
            have hyt := HYT.out i
            obtain ⟨x, hxx⟩ : ∃ x, xs.getD i 0 = x := ⟨_, rfl⟩
            obtain ⟨y, hyy⟩ : ∃ x, ys.getD i 0 = x := ⟨_, rfl⟩
            rw [hxx] at hxi hla1 hxt
            rw [hyy] at hyi hlb1 hyt
            obtain ⟨u, hu⟩ : ∃ u : Int, y + (bo : Int) = u := ⟨_, rfl⟩
            have hu0 : 0 ≤ u := by omega
            have hu1 : u ≤ 4294967296 := by omega
            obtain ⟨x0, x1⟩ := hxi
            have hgen : ∀ (dg : Int) (bn : Nat), 0 ≤ dg → dg < 4294967296 → bn ≤ 1 → dg + u = x + 4294967296 * (bn : Int) → Hid ((out ++ [dg]).length = i + 1 ∧ Lim (out ++ [dg]) ∧ valL (out ++ [dg]) + valL (ys.take (i + 1)) = valL (xs.take (i + 1)) + 4294967296 ^ (i + 1) * bn) := fun dg bn h0 h1 h2 h3 => Lib.hid ⟨by rw [List.length_append, hol]; rfl, hlo.app (Lim.cons ⟨h0, h1⟩ Lim.nil), by
              have hs := sub_step (4294967296 ^ i) dg.toNat y.toNat bo x.toNat bn (valL out) (valL (ys.take i)) (valL (xs.take i)) (by omega) hval
              rw [valL_app, hol, hxt, hyt, Nat.pow_succ]
              show valL out + 4294967296 ^ i * (dg.toNat + 4294967296 * 0) + _ = _
              rw [Nat.mul_zero, Nat.add_zero]
              exact hs⟩
            have HGEN := Lib.hid hgen
            have HPO := Lib.hid hol
            have HLA1 := Lib.hid hla1
            have HLB1 := Lib.hid hlb1
            have hi2 : (i : Int) < (n : Int) := by omega
            have hi3 : (i : Int) ≤ 256 := by omega
            have HSZ := Lib.hid hsz
            have HWS : Hid (w.heap.size ≤ wr.heap.size + 1) := Lib.hid (by omega)
            by_cases hux : x < u
            · have HG := HGEN.out (x + 4294967296 - u) 1 (by omega) (by omega) (by omega) (by omega)
              obtain ⟨dg, hdg⟩ : ∃ z, x + 4294967296 - u = z := ⟨_, rfl⟩
              rw [hdg] at HG
              have hdw : IntKind.u32.wrap dg = dg := by rw [IntKind.wrap_u32]; omega
              clear hgen hol hlo hval hown hbl hxt hyt hxx hyy hla1 hlb1 HGEN hsz hi hbo
              go_wp2_with (first
                | (go_at_call 73; (with_reducible refine (HLA1.out _ ((HRA.out.below HBL.out).mono HSZ.out)).mono ?_); rintro e _ ⟨rfl, rfl⟩)
                | (go_at_call 73; (with_reducible refine (HLB1.out _ ((HRB.out.below HBL.out).mono HSZ.out)).mono ?_); rintro e _ ⟨rfl, rfl⟩)
                | (at_builtin; refine wpList_append_ints _ rfl (.tmp 42) (.tmp 47) 49 rfl w.heap.size 62 i0 _ 4 .u32 Tryz.underlying49 hi0 hz0' hz1 hzb rfl _ out rfl (HOW.out.alloc _) (wr.heap.size + 1) (some ⟨wr.heap.size, 0, none⟩) 1 1 [dg] rfl (rd_one wr 62 .u32 dg) (by have := HPO.out; simp [maxLen]; omega) (by have := HPO.out; omega) (by have := HWS.out; simp; omega) ?_; intro v6 w6 hown6 hg6 hat6; have hb6 : Below w.heap.size w w6 := (HOW.out.alloc _).below_ (HBL.out.alloc HSZ.out _) (by have := HWS.out; simp; omega) hg6; have HO6 := Lib.hid hown6; have HB6 := Lib.hid hb6; clear hown6 hb6 hg6 hat6))
              go_roundw
              case rel => exact ⟨i + 1, 1, _, by omega, by omega, rfl, by go_num, HG.out.1, HG.out.2.1, HG.out.2.2, HO6.out, HB6.out⟩
              case measure => simp [intOf]; omega
            · have HG := HGEN.out (x - u) 0 (by omega) (by omega) (by omega) (by omega)
              obtain ⟨dg, hdg⟩ : ∃ z, x - u = z := ⟨_, rfl⟩
              rw [hdg] at HG
              have hdw : IntKind.u32.wrap dg = dg := by rw [IntKind.wrap_u32]; omega
              clear hgen hol hlo hval hown hbl hxt hyt hxx hyy hla1 hlb1 HGEN hsz hi hbo
              go_wp2_with (first
                | (go_at_call 73; (with_reducible refine (HLA1.out _ ((HRA.out.below HBL.out).mono HSZ.out)).mono ?_); rintro e _ ⟨rfl, rfl⟩)
                | (go_at_call 73; (with_reducible refine (HLB1.out _ ((HRB.out.below HBL.out).mono HSZ.out)).mono ?_); rintro e _ ⟨rfl, rfl⟩)
                | (at_builtin; refine wpList_append_ints _ rfl (.tmp 42) (.tmp 47) 49 rfl w.heap.size 62 i0 _ 4 .u32 Tryz.underlying49 hi0 hz0' hz1 hzb rfl _ out rfl (HOW.out.alloc _) (wr.heap.size + 1) (some ⟨wr.heap.size, 0, none⟩) 1 1 [dg] rfl (rd_one wr 62 .u32 dg) (by have := HPO.out; simp [maxLen]; omega) (by have := HPO.out; omega) (by have := HWS.out; simp; omega) ?_; intro v6 w6 hown6 hg6 hat6; have hb6 : Below w.heap.size w w6 := (HOW.out.alloc _).below_ (HBL.out.alloc HSZ.out _) (by have := HWS.out; simp; omega) hg6; have HO6 := Lib.hid hown6; have HB6 := Lib.hid hb6; clear hown6 hb6 hg6 hat6))
              go_roundw
              case rel => exact ⟨i + 1, 0, _, by omega, by omega, rfl, by go_num, HG.out.1, HG.out.2.1, HG.out.2.2, HO6.out, HB6.out⟩
              case measure => simp [intOf]; omega
          · obtain rfl : i = n := by omega
            rw [HTX.out, HTY.out] at hval
            have hvl := valL_lt hlo
            rw [hol] at hvl
            have hve := sub_end hbo hval hvl HV.out
            obtain ⟨A7, c7, hv7, hc7, hm7⟩ := hown.form
            subst hv7
            have hrd7 := hown.rd rfl
            have htr := r10trim_c out A7 out.length c7 (by unfold maxLen; omega) hc7 wr hrd7
            have hrt := rd_trim hrd7
            have htl := trimL_len out
            rw [trimL_eq hlo, hve] at htr hrt htl
            have HTR := Lib.hid htr
            have HRT := Lib.hid hrt
            have HTL := Lib.hid (Nat.le_trans htl hc7)
            have HM7 := Lib.hid hm7
            clear hown htr hrt htl hrd7 HOW hval hlo hol hbl hc7 hm7 hve hvl hbo
            go_wp2_with (first
              | (go_at_call 50; (with_reducible refine HTR.out.mono ?_); rintro e _ ⟨rfl, rfl⟩))
            go_ret2
            exact ⟨_, _, rfl, HTL.out, HM7.out, HRT.out, HBL.out⟩
end
section
open Go.ChangeShapes Go.WideShapes Go.ChangeAt Go.RowKit
theorem size_natR : (Tryz.prog.info? 49).map (·.size) = some 1 := by kernel_rfl
theorem num_len {x q : Nat} (h : x ≤ 2 ^ q) (hq : q ≤ 3000) : (natL x).length ≤ 100000 := natL_le100 h hq
theorem ctimes_c {x y : Nat} (hx : (natL x).length ≤ 100000) (hy : (natL y).length ≤ 100000) (A : Option Addr) (m c : Nat) (A' : Option Addr) (m' c' : Nat) (W : World) (h1 : NumR W x A m c) (h2 : NumR W y A' m' c') : Calls Tryz.prog 46 #[.slice A m c, .slice A' m' c'] W (RetNr W (x * y)) := by
  have h := r10times_c (natL x) (natL y) (natL_lim x) (natL_lim y) A A' m m' c c' (by rw [h1.1]; exact hx) (by rw [h2.1]; exact hy) W h1.2.2.2 h2.2.2.2
  rw [natL_val, natL_val] at h
  exact h.mono fun _ _ h => RetNr.of h
theorem csum_c {x y : Nat} (hx : (natL x).length ≤ 100000) (hy : (natL y).length ≤ 100000) (A : Option Addr) (m c : Nat) (A' : Option Addr) (m' c' : Nat) (W : World) (h1 : NumR W x A m c) (h2 : NumR W y A' m' c') : Calls Tryz.prog 47 #[.slice A m c, .slice A' m' c'] W (RetNr W (x + y)) := by
  have h := r10sum_c (natL x) (natL y) (natL_lim x) (natL_lim y) A A' m m' c c' (by rw [h1.1]; exact hx) (by rw [h2.1]; exact hy) W h1.2.2.2 h2.2.2.2
  rw [natL_val, natL_val] at h
  exact h.mono fun _ _ h => RetNr.of h
theorem csub_c {k t : Nat} (hk : k ≤ 63) (ht : t ≤ 2 ^ k) (A : Option Addr) (m c : Nat) (A' : Option Addr) (m' c' : Nat) (W : World) (h1 : NumR W (2 ^ k) A m c) (h2 : NumR W t A' m' c') : Calls Tryz.prog 45 #[.slice A m c, .slice A' m' c'] W (RetRE W (2 ^ k - t)) := by
  have h := r10sub_c (natL (2 ^ k)) (natL t) (natL_lim _) (natL_lim _) A A' m m' c c' (Nat.le_trans h1.2.1 h1.2.2.1) (Nat.le_trans h2.2.1 h2.2.2.1) W h1.2.2.2 h2.2.2.2
  rw [sub_pow hk ht] at h
  exact h.mono fun _ _ h => RetRE.of h
theorem ctwo_c {k : Nat} (hk : k ≤ 8191) (W : World) : Calls Tryz.prog 44 #[.int .i64 (k : Int)] W (RetRE W (2 ^ k)) := by
  have h := r10two_c (k : Int) (by omega) (by omega) W
  unfold twoR at h
  rw [if_pos ⟨by omega, by omega⟩, Int.toNat_natCast] at h
  exact h.mono fun _ _ h => RetRE.of h
theorem cof_c (t : Nat) (ht : t < 18446744073709551616) (W : World) : Calls Tryz.prog 25 #[.int .u64 (t : Int)] W (RetNr W t) := by
  have h := r10of_c (t : Int) (by omega) (by omega) W
  rw [Int.toNat_natCast] at h
  exact h.mono fun _ _ h => RetNr.of h
theorem run_make_nums (k : Nat) (hk : k ≤ 1000) (W : World) : (Instr.makeSlice 89 (.int .i64 (k : Int)) (.int .i64 (k : Int))).run Tryz.prog W = .ok (.slice (some ⟨W.heap.size, 0, none⟩) k k) (W.alloc (.cells (Array.replicate k (Value.slice none 0 0)) 49)) := by
  obtain ⟨i, hi, hz, hs, hb⟩ := info_parts info_nat
  have hr := run_make (P := Tryz.prog) W 89 49 i _ Tryz.underlying89 hi hz .i64 .i64 k k (by omega) (by omega) (by rw [hb]; omega) (by omega)
  simp only [Int.toNat_natCast, hs, Nat.mul_one] at hr
  rw [hr, show madeCells (Value.slice none 0 0).cells k = Array.replicate k (Value.slice none 0 0) from ?_]
  have h1 := madeCells_same (.slice none 0 0) 1 k (by omega)
  simpa [Value.cells] using h1
theorem set_inW {l : List Int} (h : ∀ z ∈ l, 0 ≤ z ∧ z < 18446744073709551616) (k : Nat) : ∀ z ∈ l.set k 0, 0 ≤ z ∧ z < 18446744073709551616 := fun z hz => by
  rcases List.mem_or_eq_of_mem_set hz with hz | hz
  · exact h z hz
  · rw [hz]; exact ⟨Int.le_refl _, by omega⟩
theorem stake_at {w0 W : World} {g1 n c1 gN gX q st : Nat} {L : List Int} {xs nx : List Nat} {vs us : List Value} (h : WayB w0 (.slice (some ⟨g1, 0, none⟩) n c1) L gN xs vs gX nx us W) (hl : L.length = n) (hq : q < n) (he : L.getD q 0 = (st : Int)) : W.cell? ⟨g1, q, none⟩ = some (.int .u64 (st : Int)) := by
  obtain ⟨g, cur, e, -, hk, -, hc⟩ := h.fst.own.whole (by omega)
  injection e with e
  injection e with e
  subst e
  rw [hk.cell, hc q (by omega), he]
set_option maxHeartbeats 16000000 in
theorem r17ways_c (M : List Int) (hM : ∀ z ∈ M, -9223372036854775808 ≤ z ∧ z < 9223372036854775808) (AM : Option Addr) (k d : Nat) (hk : k ≤ maxLen) (bits m : Int) (b0 : -9223372036854775808 ≤ bits) (b1 : bits < 9223372036854775808) (m0 : -9223372036854775808 ≤ m) (m1 : m < 9223372036854775808) (l : List Int) (hz : ∀ z ∈ l, 0 ≤ z ∧ z < 18446744073709551616) (AL : Option Addr) (n c : Nat) (hn : n ≤ 1000000) (w : World) (hrm : Rd .i64 w w.heap.size AM k M) (hrl : Rd .u64 w w.heap.size AL n l) :
    Calls Tryz.prog 20 #[.slice AM k d, .int .i64 bits, .int .i64 m, .slice AL n c] w (RetNE w (wayR M bits m l)) := by
  have hlm := hrm.len
  have hll := hrl.len
  have HRM := Lib.hid hrm
  have HRL := Lib.hid hrl
  have HM := Lib.hid hM
  have HZ := Lib.hid hz
  have HNM : Hid (n ≤ maxLen) := Lib.hid (by unfold maxLen; omega)
  have HN8 : Hid (n ≤ 100000000) := Lib.hid (by omega)
  have hto := fun W h => r12total_c l hz AL n c HNM.out W h
  have hk0 : (0 : Int) ≤ (k : Int) := by omega
  by_cases ok : wayOk M l bits m = true
  · obtain ⟨o1, o2, o3, o4, o5⟩ := of_decide_eq_true ok
    rw [hlm] at o1
    have o6 : (k : Int) ≤ 16 := by omega
    by_cases hs : sumL l < 9223372036854775808
    · obtain ⟨B, rfl⟩ := Int.eq_ofNat_of_zero_le o2
      obtain ⟨a, rfl⟩ := Int.eq_ofNat_of_zero_le (show 0 ≤ m by omega)
      rw [show wayR M (B : Int) (a : Int) l = (0, natL (wayN a M l B)) by unfold wayR; rw [if_pos ok, if_pos hs, Int.toNat_natCast, Int.toNat_natCast]]
      rw [(tot_ok hs).1, (tot_ok hs).2] at hto
      obtain ⟨tl, htl⟩ : ∃ t, sumL l = t := ⟨_, rfl⟩
      rw [htl] at hto
      obtain ⟨R, hRR⟩ : ∃ R, wayN a M l B = R := ⟨_, rfl⟩
      rw [hRR]
      obtain ⟨N, hN⟩ : ∃ N, B + 1 = N := ⟨_, rfl⟩
      have hNI : (B : Int) + 1 = (N : Int) := by omega
      have hN9 : (N : Int) ≤ 257 := by omega
      have hN99 : (0 : Int) < (N : Int) := by omega
      have hmk : ∀ W, (Instr.makeSlice 89 (.int .i64 (N : Int)) (.int .i64 (N : Int))).run Tryz.prog W = .ok (.slice (some ⟨W.heap.size, 0, none⟩) N N) (W.alloc (.cells (Array.replicate N (Value.slice none 0 0)) 49)) := fun W => run_make_nums N (by omega) W
      have HTO := Lib.hid hto
      have HRR := Lib.hid hRR
      have HNB := Lib.hid hN
      have HLM := Lib.hid hlm
      have HLL := Lib.hid hll
      have HS := Lib.hid hs
      have HBB : Hid (B ≤ 256) := Lib.hid (by omega)
      have HAA : Hid (a ≤ 8) := Lib.hid (by omega)
      have HN0 : Hid (0 < (List.replicate N (Value.slice none 0 0)).toArray.size) := Lib.hid (by rw [List.size_toArray, List.length_replicate]; omega)
      have HN1 : Hid (0 < (List.replicate N 0).length) := Lib.hid (by rw [List.length_replicate]; omega)
      have oB : (B : Int) ≤ 256 := o3
      have oa : (a : Int) ≤ 8 := o5
      have oa1 : (1 : Int) ≤ (a : Int) := o4
      have dA : decide ((16 : Int) < (k : Int)) = false := decide_eq_false (by omega)
      have dB : decide ((B : Int) < 0) = false := decide_eq_false (by omega)
      have dC : decide ((256 : Int) < (B : Int)) = false := decide_eq_false (by omega)
      have dD : decide ((a : Int) < 1) = false := decide_eq_false (by omega)
      have dE : decide ((8 : Int) < (a : Int)) = false := decide_eq_false (by omega)
      clear hto hRR hN hlm hll hs htl hrm hrl hM hz hk hn b0 b1 m0 m1 ok o1 o3 o4 o5
      go_enter Tryz.func20, Tryz.ntmps20
      go_wp2_with (first
        | (go_at_call 27; (with_reducible refine (HTO.out _ HRL.out).mono ?_); rintro e _ ⟨rfl, rfl⟩; skip)
        | (with_reducible refine at_any ?_; refine at_dst 60 rfl ?_; refine wpList_own_copy8o w rfl (.tmp 58) (.tmp 59) rfl rfl AL n c l rfl HRL.out HN8.out ?_; intro v1 w1 hb1 ho1; obtain ⟨A1, c1, rfl, hf1, hf2⟩ := ho1.form; rw [HLL.out] at ho1 hf1 ⊢; have HA1 := Lib.hid (WayA.start (n := N) hb1 ho1); clear hb1 hf1 hf2)
        | (with_reducible refine at_any ?_; refine at_store 66 rfl ?_; refine wpList_store_cell rfl 49 (.tmp 66) (.tmp 65) rfl w1.heap.size 0 rfl 49 (List.replicate N (Value.slice none 0 0)).toArray (HA1.out.alloc _).now.blk (.slice (some ⟨w1.heap.size + 1, 0, none⟩) 1 1) rfl HN0.out size_natR rfl rfl ?_; intro w4 hk4 ho4; have HA4 := Lib.hid ((HA1.out.alloc _).put (NumV.of (NumR.one1 _ _ _)) HN1.out hk4.out ho4); clear hk4 ho4))
      obtain ⟨gS, hgS⟩ : ∃ g, w1.heap.size = g := ⟨_, rfl⟩
      have HA := HA4.out
      rw [hgS] at HA
      rw [hgS]
      obtain ⟨x0, hx0⟩ : ∃ xs : List Nat, (List.replicate N 0).set 0 1 = xs := ⟨_, rfl⟩
      rw [hx0] at HA
      obtain ⟨u0, hu0⟩ : ∃ us : List Value, (List.replicate N (Value.slice none 0 0)).set 0 (.slice (some ⟨gS + 1, 0, none⟩) 1 1) = us := ⟨_, rfl⟩
      rw [hu0] at HA
      have HA5 := Lib.hid HA
      have HX0 : Hid (x0 = 1 :: List.replicate B 0) := Lib.hid (by rw [← hx0, ← HNB.out]; rfl)
      clear hx0 hu0 hgS HA HA4 HA1 ho1
      obtain ⟨w5, hw5⟩ : ∃ w5 : World, w5 = w4 := ⟨_, rfl⟩
      rw [← hw5] at HA5
      rw [← hw5]
      clear hw5 w4
      go_loopw [13, 14] (fun nn jj wr => ∃ (j gN : Nat) (L : List Int) (xs : List Nat) (vs : List Value), j ≤ k ∧ nn = .slice (some ⟨gN, 0, none⟩) N N ∧ jj = .int .i64 (j : Int) ∧ xs.length = N ∧ L.length = n ∧ (∀ z ∈ L, 0 ≤ z ∧ z < 18446744073709551616) ∧ sumL L < 9223372036854775808 ∧ linB (B + 1) xs (fun b => wayN a (M.drop j) L (B - b)) = R ∧ linB (B + 1) xs (fun b => 2 ^ (B - b)) ≤ 2 ^ B ∧ WayA w (.slice A1 n c1) L gN xs vs wr) (fun _ jj _ => k - (intOf jj).toNat)
      case atStart => exact ⟨0, gS, l, x0, u0, Nat.zero_le _, rfl, rfl, by rw [HX0.out, List.length_cons, List.length_replicate, HNB.out], HLL.out, HZ.out, HS.out, by rw [HX0.out, List.drop_zero, way_start, HRR.out], by rw [HX0.out]; exact start_pow B, HA5.out⟩
      case round =>
        clear HX0 HA5 u0 x0
        obtain ⟨j, gN, L, xs, vs, hj, rfl, rfl, hxl, hLl, hLz, hLs, hlin, hpow, hA⟩ := hrel
        have hjI : (j : Int) ≤ (k : Int) := by omega
        have HA := Lib.hid hA
        have HXL := Lib.hid hxl
        have HPW := Lib.hid hpow
        by_cases hjk : j < k
        · have hjI2 : (j : Int) < (k : Int) := by omega
          obtain ⟨b0, off, hAM, hblt, hmc⟩ := HRM.out.at_ (by omega)
          have hmj := (hA.bel.cell (p := ⟨b0, off + j, none⟩) hblt).trans (hmc j hjk)
          subst hAM
          have hjM : j < M.length := by rw [HLM.out]; exact hjk
          have hMj := HM.out _ (getD_in (l := M) (k := j) hjM)
          have hdr : M.drop j = M.getD j 0 :: M.drop (j + 1) := by
            rw [List.drop_eq_getElem_cons hjM, List.getD_eq_getElem?_getD, List.getElem?_eq_getElem hjM]
            rfl
          rw [hdr] at hlin
          obtain ⟨i, hi⟩ : ∃ i, M.getD j 0 = i := ⟨_, rfl⟩
          rw [hi] at hlin hmj hMj
          by_cases hm : memB L i
          · obtain ⟨hm0, hm1, hm2⟩ := hm
            obtain ⟨q, rfl⟩ := Int.eq_ofNat_of_zero_le hm0
            rw [Int.toNat_natCast] at hm2
            have hq : q < n := by omega
            obtain ⟨st, t, kk, e1, e2, e3, e4, e5, e6, e7, e8, e9, e10⟩ := mem_parts (fun z h => (hLz z h).1) hLs (i := q) (by omega) hm2
            obtain ⟨g1, cur1, hA1, hg1, hk1, hcs1, hcc1⟩ := hA.own.whole (by omega)
            subst hA1
            have hc1 := hA.rd hLl
            have hcq := hk1.cell q
            rw [hcc1 q (by omega), e1] at hcq
            have hz1 : ((st : Int) == 0) = false := by rw [beq_eq_false_iff_ne]; omega
            have hqI : (q : Int) < (n : Int) := by omega
            have hq0 : (0 : Int) ≤ (q : Int) := by omega
            have hto2 := fun W h => r12total_c L hLz (some ⟨g1, 0, none⟩) n c1 HNM.out W h
            rw [(tot_ok hLs).1, (tot_ok hLs).2, e2] at hto2
            have hnd := fun W => r8need_c (t : Int) (by omega) (by omega) W
            rw [← e2, e3, e2] at hnd
            have h2k := Nat.pow_le_pow_right (n := 2) (by omega) e4
            have htw := fun W => ctwo_c (k := kk) (by omega) W
            have hof := fun W => cof_c t (by omega) W
            have hsb := fun A m c A' m' c' W h1 h2 => csub_c (k := kk) (t := t) e4 e5 A m c A' m' c' W h1 h2
            obtain ⟨lo, hlo⟩ : ∃ x, 2 ^ kk - t = x := ⟨_, rfl⟩
            rw [hlo] at hsb e7 e9
            have hst : ∀ nx, StepD B a kk st lo xs nx → linB (B + 1) nx (fun b => wayN a (M.drop (j + 1)) (L.set q 0) (B - b)) = R := fun nx hD => by
              have h1 := step_way (i := (q : Int)) (M := M.drop (j + 1)) (l := L) (m := a) (B := B) (xs := xs) (nx := nx) (by rw [Int.toNat_natCast, e1, e2, ← e2, e3, e2, Int.toNat_natCast, Int.toNat_natCast, hlo]; exact hD) ⟨by omega, by omega, by rw [Int.toNat_natCast]; exact hm2⟩
              rw [Int.toNat_natCast] at h1
              exact h1.trans hlin
            have hsp : ∀ nx, StepD B a kk st lo xs nx → linB (B + 1) nx (fun b => 2 ^ (B - b)) ≤ 2 ^ B := fun nx hD => step_pow (i := (q : Int)) (l := L) (m := a) (B := B) (xs := xs) (nx := nx) (fun z h => (hLz z h).1) hLs ⟨by omega, by omega, by rw [Int.toNat_natCast]; exact hm2⟩ (by rw [Int.toNat_natCast, e1, e2, ← e2, e3, e2, Int.toNat_natCast, Int.toNat_natCast, hlo]; exact hD) hpow
            have hs6 := (hLz _ (getD_in (l := L) (k := q) (by omega))).2
            rw [e1] at hs6
            have HS6 : Hid (st < 18446744073709551616) := Lib.hid (by omega)
            clear hs6
            have HST := Lib.hid hst
            have HSP := Lib.hid hsp
            have HTO2 := Lib.hid hto2
            have HND := Lib.hid hnd
            have HTW := Lib.hid htw
            have HOF := Lib.hid hof
            have HSB := Lib.hid hsb
            have HE1 := Lib.hid e1
            have HE7 := Lib.hid e7
            have HE8 := Lib.hid e8
            have HE9 := Lib.hid e9
            have HLZ := Lib.hid hLz
            have HLS := Lib.hid hLs
            have HLL2 := Lib.hid hLl
            have HQN : Hid (q < n) := Lib.hid hq
            have HG1 : Hid (w.heap.size ≤ g1) := Lib.hid hg1
            have HJK : Hid (j + 1 ≤ k) := Lib.hid hjk
            have kI : (kk : Int) ≤ 63 := by omega
            have kI0 : (0 : Int) ≤ (kk : Int) := by omega
            clear hst hsp hto2 hnd htw hof hsb e1 e2 e3 e4 e5 e6 e7 e8 e9 e10 h2k hlo hlin hpow hLz hLs hLl hxl hA hm0 hm1 hm2 hq hc1 hk1 hcs1 hcc1 hg1 hi hdr hMj hjM hmc hblt hj hjk
            go_wp2_with (first
              | (go_at_call 27; (with_reducible refine (HTO2.out _ (HA.out.rd HLL2.out)).mono ?_); rintro e _ ⟨rfl, rfl⟩; skip)
              | (go_at_call 43; (with_reducible refine (HND.out _).mono ?_); rintro e _ ⟨rfl, rfl⟩; skip)
              | (go_at_call 44; (with_reducible refine (HTW.out _).mono ?_); rintro e w11 ⟨At, mt, ct, rfl, hn11, hb11⟩; have HA11 := Lib.hid (HA.out.below hb11); have HT11 := Lib.hid hn11; clear hn11 hb11)
              | (go_at_call 25; (with_reducible refine (HOF.out _).mono ?_); rintro e w12 ⟨Ao, mo, co, rfl, hn12, hb12⟩; have HA12 := Lib.hid (HA11.out.below hb12); have HT12 := Lib.hid (HT11.out.below hb12); have HO12 := Lib.hid hn12; clear hn12 hb12)
              | (go_at_call 45; (with_reducible refine (HSB.out _ _ _ _ _ _ _ HT12.out HO12.out).mono ?_); rintro e w13 ⟨Ay, my, cy, rfl, hn13, hb13⟩; have HA13 := Lib.hid (HA12.out.below hb13); have HY13 := Lib.hid hn13; clear hn13 hb13))
            obtain ⟨gX, hgX⟩ : ∃ g, w13.heap.size = g := ⟨_, rfl⟩
            have HB := HA13.out.fresh (n := N)
            have HY := HY13.out.alloc (.cells (Array.replicate N (Value.slice none 0 0)) 49)
            rw [hgX] at HB
            rw [hgX]
            obtain ⟨n0, hn0⟩ : ∃ xs : List Nat, List.replicate N 0 = xs := ⟨_, rfl⟩
            obtain ⟨u0, hu0⟩ : ∃ us : List Value, List.replicate N (Value.slice none 0 0) = us := ⟨_, rfl⟩
            rw [hn0, hu0] at HB
            obtain ⟨w14, hw14⟩ : ∃ w14, w13.alloc (.cells (Array.replicate N (Value.slice none 0 0)) 49) = w14 := ⟨_, rfl⟩
            rw [hw14] at HB HY
            rw [hw14]
            have HB14 := Lib.hid HB
            have HY14 := Lib.hid HY
            have HN0L : Hid (n0.length = N) := Lib.hid (by rw [← hn0, List.length_replicate])
            have HZ0 : Hid (∀ g : Nat → Nat, linB (B + 1) n0 g = sumB (fun b => xs.getD b 0 * wayD kk st lo (fun r => g (B - r)) a (B - b)) 0) := Lib.hid (by rw [← hn0, ← HNB.out]; exact step_start B a kk st lo xs)
            clear HB HY hgX hn0 hu0 hw14 HA13 HY13 HA HTO2 HND HTW HOF HSB hmj
            go_loopw [24] (fun bb wr => ∃ (b : Nat) (nx : List Nat) (us : List Value), b ≤ N ∧ bb = .int .i64 (b : Int) ∧ nx.length = N ∧ (∀ g : Nat → Nat, linB (B + 1) nx g = sumB (fun b => xs.getD b 0 * wayD kk st lo (fun r => g (B - r)) a (B - b)) b) ∧ WayB w (.slice (some ⟨g1, 0, none⟩) n c1) L gN xs vs gX nx us wr ∧ NumR wr lo Ay my cy) (fun bb _ => N - (intOf bb).toNat)
            case atStart => exact ⟨0, n0, u0, Nat.zero_le _, rfl, HN0L.out, HZ0.out, HB14.out, HY14.out⟩
            case round =>
              clear HZ0 HN0L HB14 HY14 u0 n0
              obtain ⟨b, nx, us, hb, rfl, hnl, hlin, hB, hY⟩ := hrel
              by_cases hbB : b ≤ B
              · have hbI : (b : Int) ≤ (B : Int) := by omega
                have hbN : (b : Int) < (N : Int) := by have := HNB.out; omega
                have hbx : b < xs.length := by rw [HXL.out]; have := HNB.out; omega
                obtain ⟨Ab, mb, cb, hvb, -⟩ := hB.fst.now.num hbx
                have hxb := lin_each HPW.out hbB
                obtain ⟨x, hx⟩ : ∃ x, xs.getD b 0 = x := ⟨_, rfl⟩
                have HPS : Hid (PartD B a kk st lo xs nx b 0) := Lib.hid (part_zero hlin)
                have HNB1 := Lib.hid (fun W (h : WayB w (.slice (some ⟨g1, 0, none⟩) n c1) L gN xs vs gX nx us W) => (h.fst.now.numR hbx hvb).2)
                have hnr := fun W (h : WayB w (.slice (some ⟨g1, 0, none⟩) n c1) L gN xs vs gX nx us W) => (h.fst.now.numR hbx hvb).1
                rw [hx] at hnr hxb
                have HNR1 := Lib.hid hnr
                have HRS := Lib.hid (fun W (h : WayB w (.slice (some ⟨g1, 0, none⟩) n c1) L gN xs vs gX nx us W) => stake_at h HLL2.out HQN.out HE1.out)
                have hs64 := HE8.out
                have hs6 := HS6.out
                have hl63 := HE9.out
                have hof := fun W => cof_c st (by omega) W
                have hsI : (st : Int) < 18446744073709551616 := by omega
                have htm := fun A m c A' m' c' W h1 h2 => ctimes_c (x := x) (y := st) (num_len hxb (by have := HBB.out; omega)) (num_len (q := 64) hs64 (by omega)) A m c A' m' c' W h1 h2
                have HOF := Lib.hid hof
                have HTM := Lib.hid htm
                have HXB := Lib.hid hxb
                have HX := Lib.hid hx
                have HBB2 := Lib.hid hbB
                have HNL := Lib.hid hnl
                have HB := hB
                have HY := hY
                clear hof htm hnr hvb hxb hx hnl hlin hB hY hb hbB hbx hs64 hl63 hs6
                go_wp2
                have HY9 := HY.drew
                refine wp_region_held_drew (S := (WayB w (.slice (some ⟨g1, 0, none⟩) n c1) L gN xs vs gX nx us)) (by kernel_rfl) HB.drew (fun hH => ?_)
                refine wpAnyH_letter #[false, false, false, false, false, false, false, false, false, false, false] (by kernel_rfl) (fun _ _ d _ _ h => by cases d <;> exact h) (fun QL HQ1 HQ2 => ?_)
                refine held_v 0 (some 119) rfl (by kernel_rfl) (by kernel_rfl) (by kernel_rfl) (by kernel_rfl) (fun c a v w h => HQ2.out c a _ v w h) (by kernel_rfl) (.slice (some ⟨gN, 0, none⟩) N N) (fun W h => by kernel_rfl) hH ?_
                try simp only [Act.put, List.setIfInBounds_toArray, List.set_cons_zero, List.set_cons_succ]
                refine held_v 1 (some 120) rfl (by kernel_rfl) (by kernel_rfl) (by kernel_rfl) (by kernel_rfl) (fun c a v w h => HQ2.out c a _ v w h) (by kernel_rfl) (.int .i64 (b : Int)) (fun W h => by kernel_rfl) hH ?_
                try simp only [Act.put, List.setIfInBounds_toArray, List.set_cons_zero, List.set_cons_succ]
                refine held_v 2 (some 121) rfl (by kernel_rfl) (by kernel_rfl) (by kernel_rfl) (by kernel_rfl) (fun c a v w h => HQ2.out c a _ v w h) (by kernel_rfl) (.pointer (some ⟨gN, b, none⟩)) (fun W h => by go_simp) hH ?_
                try simp only [Act.put, List.setIfInBounds_toArray, List.set_cons_zero, List.set_cons_succ]
                refine held_v 3 (some 122) rfl (by kernel_rfl) (by kernel_rfl) (by kernel_rfl) (by kernel_rfl) (fun c a v w h => HQ2.out c a _ v w h) (by kernel_rfl) (.slice Ab mb cb) (fun W h => by have p := HNB1.out W h; go_simp) hH ?_
                try simp only [Act.put, List.setIfInBounds_toArray, List.set_cons_zero, List.set_cons_succ]
                refine held_v 4 (some 123) rfl (by kernel_rfl) (by kernel_rfl) (by kernel_rfl) (by kernel_rfl) (fun c a v w h => HQ2.out c a _ v w h) (by kernel_rfl) (.slice (some ⟨g1, 0, none⟩) n c1) (fun W h => by kernel_rfl) hH ?_
                try simp only [Act.put, List.setIfInBounds_toArray, List.set_cons_zero, List.set_cons_succ]
                refine held_v 5 (some 124) rfl (by kernel_rfl) (by kernel_rfl) (by kernel_rfl) (by kernel_rfl) (fun c a v w h => HQ2.out c a _ v w h) (by kernel_rfl) (.int .i64 (q : Int)) (fun W h => by kernel_rfl) hH ?_
                try simp only [Act.put, List.setIfInBounds_toArray, List.set_cons_zero, List.set_cons_succ]
                refine held_v 6 (some 125) rfl (by kernel_rfl) (by kernel_rfl) (by kernel_rfl) (by kernel_rfl) (fun c a v w h => HQ2.out c a _ v w h) (by kernel_rfl) (.pointer (some ⟨g1, q, none⟩)) (fun W h => by go_simp) hH ?_
                try simp only [Act.put, List.setIfInBounds_toArray, List.set_cons_zero, List.set_cons_succ]
                refine held_v 7 (some 126) rfl (by kernel_rfl) (by kernel_rfl) (by kernel_rfl) (by kernel_rfl) (fun c a v w h => HQ2.out c a _ v w h) (by kernel_rfl) (.int .u64 (st : Int)) (fun W h => by have p := HRS.out W h; go_simp) hH ?_
                try simp only [Act.put, List.setIfInBounds_toArray, List.set_cons_zero, List.set_cons_succ]
                refine wpAnyH_ready (rs := [8]) (by kernel_rfl) (by decide) ?_
                refine AllReadyH.cons rfl (fun K hK => ?_) AllReadyH.nil
                refine step_call (some 127) (by kernel_rfl) (by kernel_rfl) _ _ (by kernel_rfl) _ (HOF.out _) ?_
                rintro e w61 ⟨Ao, mo, co, rfl, hno, hbw61⟩
                have ex62 := HY9.below hbw61
                have ex63 : NumR w61 st Ao mo co := hno
                refine ⟨_, rfl, ?_⟩
                refine hK.out _ _ (hH.below hbw61) (fun hw61 => ?_)
                clear hK K
                try simp only [Act.put, List.setIfInBounds_toArray, List.set_cons_zero, List.set_cons_succ]
                refine wpAnyH_ready (rs := [9]) (by kernel_rfl) (by decide) ?_
                refine AllReadyH.cons rfl (fun K hK => ?_) AllReadyH.nil
                refine step_call (some 128) (by kernel_rfl) (by kernel_rfl) _ _ (by kernel_rfl) _ (HTM.out _ _ _ _ _ _ _ (HNR1.out _ hw61) ex63) ?_
                rintro e w64 ⟨Ax, mx, cx, rfl, hnx, hbw64⟩
                have ex65 := ex62.below hbw64
                have ex66 : NumR w64 (x * st) Ax mx cx := hnx
                refine ⟨_, rfl, ?_⟩
                refine hK.out _ _ (hw61.below hbw64) (fun hw64 => ?_)
                clear hK K
                try simp only [Act.put, List.setIfInBounds_toArray, List.set_cons_zero, List.set_cons_succ]
                refine held_v 10 (some 25) rfl (by kernel_rfl) (by kernel_rfl) (by kernel_rfl) (by kernel_rfl) (fun c a v w h => HQ2.out c a _ v w h) (by kernel_rfl) (.slice Ax mx cx) (fun W h => by kernel_rfl) hw64 ?_
                try simp only [Act.put, List.setIfInBounds_toArray, List.set_cons_zero, List.set_cons_succ]
                refine wpAnyH_done (by kernel_rfl) ?_ _
                refine HQ1.out _ _ ?_
                clear HQ1 HQ2
                have HB := Lib.hid hw64
                have HY := Lib.hid ex65
                have HX5 := Lib.hid ex66
                clear hsI
                go_wp2
                go_loopw [25, 26] (fun ww aa wr => ∃ (p e : Nat) (nx : List Nat) (us : List Value) (Ax : Option Addr) (mx cx : Nat), p + 1 = e ∧ p ≤ a ∧ b + kk * p ≤ B ∧ ww = .slice Ax mx cx ∧ aa = .int .i64 (e : Int) ∧ nx.length = N ∧ PartD B a kk st lo xs nx b p ∧ WayB w (.slice (some ⟨g1, 0, none⟩) n c1) L gN xs vs gX nx us wr ∧ NumR wr lo Ay my cy ∧ NumR wr (x * st * lo ^ p) Ax mx cx) (fun _ aa _ => a + 1 - (intOf aa).toNat)
                case atStart => exact ⟨0, 1, nx, us, _, _, _, rfl, Nat.zero_le _, by have := HBB2.out; omega, rfl, rfl, HNL.out, HPS.out, HB.out, HY.out, by rw [Nat.pow_zero, Nat.mul_one]; exact HX5.out⟩
                case round =>
                  clear HNL HPS HB HY HX5 HNB1 HNR1 HRS
                  obtain ⟨p, e, nx, us, Ax, mx, cx, hpe, hpa, hkp, rfl, rfl, hnl, hpd, hB, hY, hX⟩ := hrel
                  obtain ⟨r, hr⟩ : ∃ r, kk * e = r := ⟨_, rfl⟩
                  obtain ⟨f, hf⟩ : ∃ f, b + r = f := ⟨_, rfl⟩
                  have hrI : (kk : Int) * (e : Int) = (r : Int) := by rw [← hr]; push_cast; rfl
                  have hfI : (b : Int) + (r : Int) = (f : Int) := by omega
                  have he9 : e ≤ 9 := by have := HAA.out; omega
                  have hr2 : r ≤ 63 * 9 := by rw [← hr]; exact Nat.mul_le_mul (by omega) he9
                  have hrW : IntKind.i64.wrap (r : Int) = (r : Int) := by rw [IntKind.wrap_i64]; omega
                  have hfb : f ≤ 1000 := by have := HBB.out; have := HBB2.out; omega
                  have f1 : (f : Int) ≤ 1000 := by omega
                  have f0 : (0 : Int) ≤ (f : Int) := by omega
                  have r1 : (r : Int) ≤ 567 := by omega
                  have r0 : (0 : Int) ≤ (r : Int) := by omega
                  have ei : (e : Int) ≤ 9 := by omega
                  have ei0 : (0 : Int) ≤ (e : Int) := by omega
                  by_cases hgo : e ≤ a ∧ f ≤ B
                  · obtain ⟨hea, hfB⟩ := hgo
                    have eI : (e : Int) ≤ (a : Int) := by omega
                    have fI : (f : Int) ≤ (B : Int) := by omega
                    have fN : (f : Int) < (N : Int) := by have := HNB.out; omega
                    have hfn : f < nx.length := by rw [hnl]; have := HNB.out; omega
                    obtain ⟨An, mn, cn, hvn, hnn⟩ := hB.nxt.num hfn
                    have hcn := (hB.nxt.numR hfn hvn).2
                    have hye := part_each hpd HE7.out HPW.out HBB2.out hfB
                    have hnew := part_next hpd (by rw [hnl]; exact HNB.out.symm) (show p < a by omega) (by rw [hpe, hr, hf]; exact hfB)
                    rw [hpe, hr, hf, HX.out] at hnew
                    obtain ⟨y, hy⟩ : ∃ y, nx.getD f 0 = y := ⟨_, rfl⟩
                    rw [hy] at hye hnn hnew
                    have hxl := way_len HXB.out HE8.out HE9.out HBB.out (show p ≤ 9 by omega)
                    have hx2 : x * st * lo ^ p * lo = x * st * lo ^ e := by rw [← hpe, Nat.pow_succ, ← Nat.mul_assoc]
                    have hsm := fun A m c A' m' c' W h1 h2 => csum_c (x := y) (y := x * st * lo ^ p) (num_len hye (by have := HBB.out; omega)) hxl A m c A' m' c' W h1 h2
                    have htm := fun A m c A' m' c' W h1 h2 => ctimes_c (x := x * st * lo ^ p) (y := lo) hxl (num_len (q := 63) HE9.out (by omega)) A m c A' m' c' W h1 h2
                    rw [hx2] at htm
                    have HSM := Lib.hid hsm
                    have HTM := Lib.hid htm
                    have HB := Lib.hid hB
                    have HY := Lib.hid hY
                    have HX := Lib.hid hX
                    have HNN := Lib.hid hnn
                    have HPD2 := Lib.hid hnew
                    have HNL := Lib.hid hnl
                    have HEA := Lib.hid hea
                    have HKE : Hid (b + kk * e ≤ B) := Lib.hid (by rw [hr, hf]; exact hfB)
                    have HFN := Lib.hid hfn
                    have HUL : Hid (f < us.toArray.size) := Lib.hid (by rw [List.size_toArray, hB.nxt.1]; exact hfn)
                    clear hsm htm hB hY hX hnn hnew hnl hea hfB hfn hvn hye hy hxl hx2 hpd hpe hpa hkp hr hf he9 hr2 hfb
                    go_wp2_with (first
                      | (go_at_call 47; (with_reducible refine (HSM.out _ _ _ _ _ _ _ HNN.out HX.out).mono ?_); rintro e w31 ⟨Au, mu, cu, rfl, hn31, hb31⟩; have HB31 := Lib.hid (HB.out.below hb31); have HY31 := Lib.hid (HY.out.below hb31); have HX31 := Lib.hid (HX.out.below hb31); have HU31 := Lib.hid hn31; clear hn31 hb31)
                      | (with_reducible refine at_any ?_; refine at_store 159 rfl ?_; refine wpList_store_cell rfl 49 (.tmp 159) (.tmp 158) rfl gX f rfl 49 us.toArray HB31.out.nxt.blk (.slice Au mu cu) rfl HUL.out size_natR rfl rfl ?_; intro w32 hk32 ho32; have HB32 := Lib.hid (HB31.out.put (NumV.of HU31.out) HFN.out hk32.out ho32); have HY32 := Lib.hid (HY31.out.only HB31.out.nxt ho32); have HX32 := Lib.hid (HX31.out.only HB31.out.nxt ho32); clear hk32 ho32)
                      | (go_at_call 46; (with_reducible refine (HTM.out _ _ _ _ _ _ _ HX32.out HY32.out).mono ?_); rintro e w33 ⟨Av, mv, cv, rfl, hn33, hb33⟩; have HB33 := Lib.hid (HB32.out.below hb33); have HY33 := Lib.hid (HY32.out.below hb33); have HX33 := Lib.hid hn33; clear hn33 hb33))
                    go_roundw
                    case rel => exact ⟨e, e + 1, _, _, _, _, _, rfl, HEA.out, HKE.out, rfl, by go_num, by rw [List.length_set]; exact HNL.out, HPD2.out, HB33.out, HY33.out, HX33.out⟩
                    case measure => have := HEA.out; simp [intOf] <;> omega
                  · have hdone := part_done hpd (by
                      rw [hpe, hr, hf]
                      by_cases h : e ≤ a
                      · exact .inr (by omega)
                      · exact .inl (by omega)) HBB2.out hkp
                    have HDN := Lib.hid hdone
                    have HNL := Lib.hid hnl
                    have HB := Lib.hid hB
                    have HY := Lib.hid hY
                    have HB1 : Hid (b + 1 ≤ N) := Lib.hid (by have := HBB2.out; have := HNB.out; omega)
                    by_cases hea : e ≤ a
                    · have eI : (e : Int) ≤ (a : Int) := by omega
                      have fI : ¬ (f : Int) ≤ (B : Int) := by omega
                      clear hdone hnl hB hY hX hpd hpe hpa hkp hr hf he9 hr2 hfb hgo hea
                      go_wp2
                      go_roundw
                      case rel => exact ⟨b + 1, nx, us, HB1.out, by go_num, HNL.out, HDN.out, HB.out, HY.out⟩
                      case measure => have := HB1.out; simp [intOf] <;> omega
                    · have eI : ¬ (e : Int) ≤ (a : Int) := by omega
                      clear hrI hfI hrW f1 f0 r1 r0 ei ei0
                      clear hdone hnl hB hY hX hpd hpe hpa hkp hr hf he9 hr2 hfb hgo hea
                      go_wp2
                      go_roundw
                      case rel => exact ⟨b + 1, nx, us, HB1.out, by go_num, HNL.out, HDN.out, HB.out, HY.out⟩
                      case measure => have := HB1.out; simp [intOf] <;> omega
              · obtain rfl : b = N := by have := HNB.out; omega
                have hNB : (B : Int) < (b : Int) := by omega
                have hD : StepD B a kk st lo xs nx := fun g => by rw [hlin g, HNB.out]
                have hst := HST.out nx hD
                have hsp := HSP.out nx hD
                obtain ⟨g1', cur, hA1', hg1', hk1, hcs1, hcc1⟩ := hB.fst.own.whole (by rw [HLL2.out]; have := HQN.out; omega)
                injection hA1' with hA1'
                injection hA1' with hA1'
                subst hA1'
                have HK1 := Lib.hid hk1
                have HQS : Hid (q < cur.size) := Lib.hid (by have := HQN.out; have := HLL2.out; omega)
                have HQL : Hid (q < L.length) := Lib.hid (by rw [HLL2.out]; exact HQN.out)
                have HCQ : Hid (cur[q]? = some (.int .u64 (L.getD q 0))) := Lib.hid (hcc1 q HQL.out)
                have HB := Lib.hid hB
                have HNL := Lib.hid hnl
                have HST2 := Lib.hid hst
                have HSP2 := Lib.hid hsp
                have HLZ2 := Lib.hid (set_inW HLZ.out q)
                have HLS2 : Hid (sumL (L.set q 0) < 9223372036854775808) := Lib.hid (Int.lt_of_le_of_lt (sum_set (fun z h => (HLZ.out z h).1) q) HLS.out)
                clear hst hsp hk1 hcs1 hcc1 hg1' hB hnl hlin hD hY hbB hb HST HSP
                go_wp2_with (first
                  | (with_reducible refine at_any ?_; refine at_store 166 rfl ?_; refine wpList_store_cell rfl 24 (.tmp 166) (.const (.int .u64 0)) rfl g1 q rfl 24 cur HK1.out (.int .u64 0) rfl HQS.out size_u64f rfl rfl ?_; intro w41 hk41 ho41; have HA41 := Lib.hid (HB.out.next HK1.out HQL.out HCQ.out hk41.out HG1.out ho41); clear hk41 ho41))
                go_roundw
                case rel => exact ⟨j + 1, gX, L.set q 0, nx, us, HJK.out, rfl, by go_num, HNL.out, by rw [List.length_set]; exact HLL2.out, HLZ2.out, HLS2.out, HST2.out, HSP2.out, HA41.out⟩
                case measure => have := HJK.out; simp [intOf] <;> omega
          · have hR0 : R = 0 := by rw [← hlin]; exact way_none a B xs hm
            rw [hR0, natL_zero]
            have HBL := Lib.hid hA.bel
            by_cases h1 : i < 0
            · clear hR0 hlin hpow hLz hLs hLl hxl hA hm hi hdr hMj hjM hmc hblt hj hjk
              go_wp2
              go_ret2
              exact RetNE.nil 0 HBL.out
            · have h2 : 0 ≤ i := by omega
              by_cases h3 : i < n
              · obtain ⟨q, rfl⟩ := Int.eq_ofNat_of_zero_le h2
                have hqI : (q : Int) < (n : Int) := by omega
                have hq0 : (0 : Int) ≤ (q : Int) := by omega
                have hz : L.getD q 0 = 0 := by
                  have h5 := (hLz _ (getD_in (l := L) (k := q) (by omega))).1
                  have h6 : ¬ 0 < L.getD q 0 := fun h7 => hm ⟨h2, by omega, by rw [Int.toNat_natCast]; exact h7⟩
                  omega
                obtain ⟨g1, cur1, hA1, hg1, hk1, hcs1, hcc1⟩ := hA.own.whole (by omega)
                subst hA1
                have hcq := hk1.cell q
                rw [hcc1 q (by omega), hz] at hcq
                clear hR0 hlin hpow hLz hLs hLl hxl hA hm hi hdr hMj hjM hmc hblt hj hjk h1 h2 h3 hz hg1 hk1 hcs1 hcc1
                go_wp2
                go_ret2
                exact RetNE.nil 0 HBL.out
              · have h4 : (n : Int) ≤ i := by omega
                clear hR0 hlin hpow hLz hLs hLl hxl hA hm hi hdr hMj hjM hmc hblt hj hjk h1 h3
                go_wp2
                go_ret2
                exact RetNE.nil 0 HBL.out
        · obtain rfl : j = k := by omega
          rw [show M.drop j = [] from List.drop_eq_nil_of_le (by rw [HLM.out]; exact Nat.le_refl _)] at hlin
          have HLIN : Hid (linB (B + 1) xs (fun b => 2 ^ (B - b)) = R) := Lib.hid hlin
          have HA6 := Lib.hid hA
          clear hlin hpow hLz hLs hLl hxl hA hjk hj HA
          go_wp2
          obtain ⟨w6, hw6⟩ : ∃ w6 : World, w6 = wr := ⟨_, rfl⟩
          rw [← hw6] at HA6
          rw [← hw6]
          clear hw6 wr
          go_loopw [27, 28] (fun ss bb wr => ∃ (b S : Nat) (As : Option Addr) (ms cs : Nat), b ≤ N ∧ ss = .slice As ms cs ∧ bb = .int .i64 (b : Int) ∧ S = linB b xs (fun b => 2 ^ (B - b)) ∧ WayA w (.slice A1 n c1) L gN xs vs wr ∧ NumR wr S As ms cs) (fun _ bb _ => N - (intOf bb).toNat)
          case atStart => exact ⟨0, 0, none, 0, 0, Nat.zero_le _, rfl, rfl, rfl, HA6.out, NumR.zero _⟩
          case round =>
            clear HA6
            obtain ⟨b, S, As, ms, cs, hb, rfl, rfl, hS, hA, hN⟩ := hrel
            by_cases hbB : b ≤ B
            · have hbI : (b : Int) ≤ (B : Int) := by omega
              have hbN : (b : Int) < (N : Int) := by have := HNB.out; omega
              have hbx : b < xs.length := by rw [HXL.out]; have := HNB.out; omega
              obtain ⟨Ab, mb, cb, hvb, -⟩ := hA.now.num hbx
              have hnb := fun W (h : WayA w (.slice A1 n c1) L gN xs vs W) => (h.now.numR hbx hvb).2
              have hnr := fun W (h : WayA w (.slice A1 n c1) L gN xs vs W) => (h.now.numR hbx hvb).1
              have hxb := lin_each HPW.out hbB
              obtain ⟨p, hp⟩ : ∃ p, B - b = p := ⟨_, rfl⟩
              have hpI : (B : Int) - (b : Int) = (p : Int) := by omega
              have hS2 : S + xs.getD b 0 * 2 ^ p = linB (b + 1) xs (fun b => 2 ^ (B - b)) := by rw [hS, ← hp]; rfl
              have hSl : S + xs.getD b 0 * 2 ^ p ≤ 2 ^ B := by rw [hS2]; exact sum_each HPW.out (by omega)
              obtain ⟨x, hx⟩ : ∃ x, xs.getD b 0 = x := ⟨_, rfl⟩
              rw [hx] at hnr hxb hS2 hSl
              have hpB : p ≤ 256 := by have := HBB.out; omega
              have hB256 := HBB.out
              have htw := fun W => ctwo_c (k := p) (by omega) W
              have htm := fun A m c A' m' c' W h1 h2 => ctimes_c (x := x) (y := 2 ^ p) (num_len hxb (by omega)) (num_len (Nat.le_refl (2 ^ p)) (by omega)) A m c A' m' c' W h1 h2
              have hsm := fun A m c A' m' c' W h1 h2 => csum_c (x := S) (y := x * 2 ^ p) (num_len (q := B) (by omega) (by omega)) (num_len (q := B) (by omega) (by omega)) A m c A' m' c' W h1 h2
              obtain ⟨y, hy⟩ : ∃ y, 2 ^ p = y := ⟨_, rfl⟩
              rw [hy] at htw htm hsm hS2
              have HTW := Lib.hid htw
              have HTM := Lib.hid htm
              have HSM := Lib.hid hsm
              have HNB1 := Lib.hid hnb
              have HNR1 := Lib.hid hnr
              have HA := Lib.hid hA
              have HN := Lib.hid hN
              have HS2 := Lib.hid hS2
              have HB1 : Hid (b + 1 ≤ N) := Lib.hid (by have := HNB.out; omega)
              have pI : (p : Int) ≤ 256 := by omega
              have pI0 : (0 : Int) ≤ (p : Int) := by omega
              clear htw htm hsm hnb hnr hA hN hS2 hSl hxb hx hy hvb hbx hS hb hp hpB hB256
              go_wp2_with (first
                | (go_at_call 44; (with_reducible refine (HTW.out _).mono ?_); rintro e w51 ⟨Af, mf, cf, rfl, hn51, hb51⟩; have HA51 := Lib.hid (HA.out.below hb51); have HN51 := Lib.hid (HN.out.below hb51); have HF51 := Lib.hid hn51; have hcell51 := HNB1.out _ HA51.out; clear hn51 hb51)
                | (go_at_call 46; (with_reducible refine (HTM.out _ _ _ _ _ _ _ (HNR1.out _ HA51.out) HF51.out).mono ?_); rintro e w52 ⟨Ap, mp, cp, rfl, hn52, hb52⟩; have HA52 := Lib.hid (HA51.out.below hb52); have HN52 := Lib.hid (HN51.out.below hb52); have HP52 := Lib.hid hn52; clear hn52 hb52)
                | (go_at_call 47; (with_reducible refine (HSM.out _ _ _ _ _ _ _ HN52.out HP52.out).mono ?_); rintro e w53 ⟨Aq, mq, cq, rfl, hn53, hb53⟩; have HA53 := Lib.hid (HA52.out.below hb53); have HS53 := Lib.hid hn53; clear hn53 hb53))
              go_roundw
              case rel => exact ⟨b + 1, S + x * y, _, _, _, HB1.out, rfl, by go_num, HS2.out, HA53.out, HS53.out⟩
              case measure => have := HB1.out; simp [intOf] <;> omega
            · obtain rfl : b = N := by have := HNB.out; omega
              have hNB : (B : Int) < (b : Int) := by omega
              have hSR : S = R := by rw [hS, HNB.out.symm]; exact HLIN.out
              have HN := Lib.hid hN
              have HBL := Lib.hid hA.bel
              subst hSR
              clear hS hA hN hb hbB
              go_wp2
              go_ret2
              exact NumR.ret HN.out HBL.out
    · rw [show wayR M bits m l = (11, []) by unfold wayR; rw [if_pos ok, if_neg hs]]
      rw [show totE l = 11 from if_neg hs] at hto
      obtain ⟨tl, htl⟩ : ∃ t, sumV l = t := ⟨_, rfl⟩
      rw [htl] at hto
      have HTO := Lib.hid hto
      clear hto htl hs hrm hrl hM hz hlm hll ok
      go_enter Tryz.func20, Tryz.ntmps20
      go_wp2_with (first
        | (go_at_call 27; (with_reducible refine (HTO.out _ HRL.out).mono ?_); rintro e _ ⟨rfl, rfl⟩; skip))
      go_ret2
      exact RetNE.nil 11 (Below.refl _ _)
  · rw [show wayR M bits m l = (1, []) from if_neg ok]
    have ok2 : ¬ (M.length ≤ 16 ∧ 0 ≤ bits ∧ bits ≤ 256 ∧ 1 ≤ m ∧ m ≤ 8) := fun h => ok (decide_eq_true h)
    rw [hlm] at ok2
    by_cases h1 : k ≤ 16
    · have g1 : (k : Int) ≤ 16 := by omega
      by_cases h2 : 0 ≤ bits
      · by_cases h3 : bits ≤ 256
        · by_cases h4 : 1 ≤ m
          · have h5 : 8 < m := by omega
            clear hto ok ok2 hrm hrl hM hz hlm hll
            go_enter Tryz.func20, Tryz.ntmps20
            go_wp2
            go_ret2
            exact RetNE.nil 1 (Below.refl _ _)
          · have h5 : m < 1 := by omega
            clear hto ok ok2 hrm hrl hM hz hlm hll h4
            go_enter Tryz.func20, Tryz.ntmps20
            go_wp2
            go_ret2
            exact RetNE.nil 1 (Below.refl _ _)
        · have h5 : 256 < bits := by omega
          clear hto ok ok2 hrm hrl hM hz hlm hll h3
          go_enter Tryz.func20, Tryz.ntmps20
          go_wp2
          go_ret2
          exact RetNE.nil 1 (Below.refl _ _)
      · have h5 : bits < 0 := by omega
        clear hto ok ok2 hrm hrl hM hz hlm hll h2
        go_enter Tryz.func20, Tryz.ntmps20
        go_wp2
        go_ret2
        exact RetNE.nil 1 (Below.refl _ _)
    · have h5 : 16 < (k : Int) := by omega
      clear hto ok ok2 hrm hrl hM hz hlm hll h1
      go_enter Tryz.func20, Tryz.ntmps20
      go_wp2
      go_ret2
      exact RetNE.nil 1 (Below.refl _ _)
end
end Go.Proofs.YtgnclifmfefbcaaGreatDoor

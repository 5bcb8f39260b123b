/-
  Texts of this claim, joined: RefU, RefOd, RowP, Fact, FxM, FxP, OwnD, LitL, OpenA, OddL. What each shows, and its conditions, stand at its own head.
-/
import Derived.Test.YtaaahgkpicjnoaaGb
import Derived.Test.YtaaahgkpicjnoaaRows
import Derived.ShutString
import Derived.ChangeOld
/-
  What drawlotref10's Cmp and Sub return.
  Conditions: limbs lie in their type's range; the numbers have at most 100,000 limbs.
-/
set_option maxRecDepth 100000
set_option linter.unusedSimpArgs false
namespace Go.Proofs.Ytaaahgkpicjnoaa
open Go.ChangeShapes Go.WideShapes Go.ChangeAt Go.RowKit
set_option linter.unusedVariables false
set_option maxHeartbeats 4000000 in
theorem r10cmp_c (xs ys : List Int) (hx : Lim xs) (hy : Lim ys) (A B : Option Addr) (n m c d : Nat) (hn : n ≤ maxLen) (hm : m ≤ maxLen) (w : World) (hra : Rd .u32 w w.heap.size A n xs) (hrb : Rd .u32 w w.heap.size B m ys) : Calls Try.prog 55 #[.slice A n c, .slice B m d] w fun e w' => e = .returned (.int .i64 (cmpR xs ys)) ∧ Below w.heap.size w w' := by
  have hr1 := fun W h => r10right_c xs A n c hn W h
  have hr2 := fun W h => r10right_c ys B m d hm W h
  have HRA := Lib.hid hra
  have HRB := Lib.hid hrb
  have hla := hra.len
  have hlb := hrb.len
  have hnI : (n : Int) ≤ 9223372036854775807 := by unfold maxLen at hn; omega
  have hmI : (m : Int) ≤ 9223372036854775807 := by unfold maxLen at hm; omega
  cases h1 : rightN xs with
  | false =>
    have e1 : cmpR xs ys = 0 := by unfold cmpR; rw [h1]; rfl
    rw [h1] at hr1
    rw [e1]
    have HR1 := Lib.hid hr1
    clear hr1 hr2 h1 e1 hra hrb hn hm
    go_enter Try.func55, Try.ntmps55
    go_wp2_with (first
      | (go_at_call 54; (with_reducible refine (HR1.out _ HRA.out).mono ?_); rintro e _ ⟨rfl, rfl⟩))
    go_ret
    exact ⟨rfl, Below.refl _ _⟩
  | true =>
    rw [h1] at hr1
    have HR1 := Lib.hid hr1
    cases h2 : rightN ys with
    | false =>
      have e1 : cmpR xs ys = 0 := by unfold cmpR; rw [h1, h2]; rfl
      rw [h2] at hr2
      rw [e1]
      have HR2 := Lib.hid hr2
      clear hr1 hr2 h1 h2 e1 hra hrb hn hm
      go_enter Try.func55, Try.ntmps55
      go_wp2_with (first
        | (go_at_call 54; (with_reducible refine (HR1.out _ HRA.out).mono ?_); rintro e _ ⟨rfl, rfl⟩)
        | (go_at_call 54; (with_reducible refine (HR2.out _ HRB.out).mono ?_); rintro e _ ⟨rfl, rfl⟩))
      go_ret
      exact ⟨rfl, Below.refl _ _⟩
    | true =>
      have e1 : cmpR xs ys = if valL xs < valL ys then -1 else if valL ys < valL xs then 1 else 0 := by unfold cmpR; rw [h1, h2]; rfl
      rw [h2] at hr2
      have HR2 := Lib.hid hr2
      have HE1 := Lib.hid e1
      by_cases hl : n < m
      · have hv := len_less hx hy h2 (by omega)
        have HE2 : Hid (cmpR xs ys = -1) := Lib.hid (by rw [e1, if_pos hv])
        have t1 : ((n : Int) != (m : Int)) = true := by rw [bne_iff_ne]; omega
        have t2 : (n : Int) < (m : Int) := by omega
        clear hr1 hr2 h1 h2 e1 hra hrb hn hm hv hl HE1
        go_enter Try.func55, Try.ntmps55
        go_wp2_with (first
          | (go_at_call 54; (with_reducible refine (HR1.out _ HRA.out).mono ?_); rintro e _ ⟨rfl, rfl⟩)
          | (go_at_call 54; (with_reducible refine (HR2.out _ HRB.out).mono ?_); rintro e _ ⟨rfl, rfl⟩))
        go_ret
        rw [HE2.out]
        exact ⟨rfl, Below.refl _ _⟩
      · by_cases hl2 : m < n
        · have hv := len_less hy hx h1 (by omega)
          have HE2 : Hid (cmpR xs ys = 1) := Lib.hid (by rw [e1, if_neg (by omega), if_pos hv])
          have t1 : ((n : Int) != (m : Int)) = true := by rw [bne_iff_ne]; omega
          have t2 : ¬ (n : Int) < (m : Int) := by omega
          clear hr1 hr2 h1 h2 e1 hra hrb hn hm hv hl hl2 HE1
          go_enter Try.func55, Try.ntmps55
          go_wp2_with (first
            | (go_at_call 54; (with_reducible refine (HR1.out _ HRA.out).mono ?_); rintro e _ ⟨rfl, rfl⟩)
            | (go_at_call 54; (with_reducible refine (HR2.out _ HRB.out).mono ?_); rintro e _ ⟨rfl, rfl⟩))
          go_ret
          rw [HE2.out]
          exact ⟨rfl, Below.refl _ _⟩
        · obtain rfl : n = m := by omega
          have t1 : ((n : Int) != (n : Int)) = false := by simp
          have HL := Lib.hid (fun i (h : i < n) hd hlt => cmp_less hx hy (i := i) (by omega) (by omega) hd hlt)
          have HG := Lib.hid (fun i (h : i < n) hd hlt => cmp_less hy hx (i := i) (by omega) (by omega) hd hlt)
          have HDX := Lib.hid (fun i (h : i < n) => show xs.drop i = xs.getD i 0 :: xs.drop (i + 1) by rw [List.drop_eq_getElem_cons (by omega), List.getD_eq_getElem?_getD, List.getElem?_eq_getElem (by omega)]; rfl)
          have HDY := Lib.hid (fun i (h : i < n) => show ys.drop i = ys.getD i 0 :: ys.drop (i + 1) by rw [List.drop_eq_getElem_cons (by omega), List.getD_eq_getElem?_getD, List.getElem?_eq_getElem (by omega)]; rfl)
          have hend : xs.drop n = ys.drop n := by rw [List.drop_eq_nil_of_le (by omega), List.drop_eq_nil_of_le (by omega)]
          have HEND := Lib.hid hend
          clear hr1 hr2 h1 h2 e1 hra hrb hn hm hl hl2 hx hy hend
          go_enter Try.func55, Try.ntmps55
          go_wp2_with (first
            | (go_at_call 54; (with_reducible refine (HR1.out _ HRA.out).mono ?_); rintro e _ ⟨rfl, rfl⟩)
            | (go_at_call 54; (with_reducible refine (HR2.out _ HRB.out).mono ?_); rintro e _ ⟨rfl, rfl⟩))
          go_loopw [5] (fun ii wr => ∃ j : Nat, j ≤ n ∧ ii = .int .i64 ((j : Int) - 1) ∧ xs.drop j = ys.drop j ∧ Below w.heap.size w wr) (fun ii _ => (intOf ii + 1).toNat)
          case atStart => exact ⟨n, Nat.le_refl _, by go_num, HEND.out, Below.refl _ _⟩
          case round =>
            obtain ⟨j, hj, rfl, hd, hbl⟩ := hrel
            rcases j with _ | i
            · have hxy : xs = ys := by rw [List.drop_zero, List.drop_zero] at hd; exact hd
              have HE2 : Hid (cmpR xs ys = 0) := Lib.hid (by rw [HE1.out, hxy, if_neg (by omega), if_neg (by omega)])
              have HBL := Lib.hid hbl
              clear hd hbl hxy
              rw [show ((0 : Nat) : Int) - 1 = -1 from rfl]
              go_wp2
              go_ret
              rw [HE2.out]
              exact ⟨rfl, HBL.out⟩
            · have hin : i < n := by omega
              rw [show ((i + 1 : Nat) : Int) - 1 = (i : Int) by omega]
              obtain ⟨b1, o1, rfl, _, hc1⟩ := (HRA.out.below hbl).at_ (by omega)
              obtain ⟨b2, o2, rfl, _, hc2⟩ := (HRB.out.below hbl).at_ (by omega)
              have hk1 := hc1 i hin
              have hk2 := hc2 i hin
              have hlt := HL.out i hin hd
              have hgt := HG.out i hin hd.symm
              have hdx := HDX.out i hin
              have hdy := HDY.out i hin
              obtain ⟨x, hx⟩ : ∃ x, xs.getD i 0 = x := ⟨_, rfl⟩
              obtain ⟨y, hy⟩ : ∃ y, ys.getD i 0 = y := ⟨_, rfl⟩
              rw [hx] at hk1 hlt hgt hdx
              rw [hy] at hk2 hlt hgt hdy
              have i0 : (0 : Int) ≤ (i : Int) := by omega
              have i1 : (i : Int) < (n : Int) := by omega
              have HBL := Lib.hid hbl
              by_cases hxy : x < y
              · have HE2 : Hid (cmpR xs ys = -1) := Lib.hid (by rw [HE1.out, if_pos (hlt hxy)])
                clear hc1 hc2 hlt hgt hdx hdy hx hy hd hbl
                go_wp2
                go_quiet (fail)
                go_wp2
                go_ret
                rw [HE2.out]
                exact ⟨rfl, below_drewN HBL.out _⟩
              · by_cases hyx : y < x
                · have HE2 : Hid (cmpR xs ys = 1) := Lib.hid (by
                    have := hgt hyx
                    rw [HE1.out, if_neg (by omega), if_pos this])
                  clear hc1 hc2 hlt hgt hdx hdy hx hy hd hbl
                  go_wp2
                  go_quiet (fail)
                  go_wp2
                  go_quiet (fail)
                  go_wp2
                  go_ret
                  rw [HE2.out]
                  exact ⟨rfl, below_drewN (below_drewN HBL.out _) _⟩
                · obtain rfl : x = y := by omega
                  have HD := Lib.hid (show xs.drop i = ys.drop i by rw [hdx, hdy, hd])
                  clear hc1 hc2 hlt hgt hdx hdy hx hy hd hbl hyx
                  go_wp2
                  go_quiet (fail)
                  go_wp2
                  go_quiet (fail)
                  go_wp2
                  go_roundw
                  case rel => exact ⟨i, by omega, by go_num, HD.out, below_drewN HBL.out _⟩
                  case measure => simp [intOf]
set_option maxHeartbeats 4000000 in
theorem r10sub_c (xs ys : List Int) (hx : Lim xs) (hy : Lim ys) (A B : Option Addr) (n m c d : Nat) (hn : n ≤ maxLen) (hm : m ≤ maxLen) (w : World) (hra : Rd .u32 w w.heap.size A n xs) (hrb : Rd .u32 w w.heap.size B m ys) : Calls Try.prog 38 #[.slice A n c, .slice B m d] w (RetNE w (subR xs ys)) := by
  have hr1 := fun W h => r10right_c xs A n c hn W h
  have hr2 := fun W h => r10right_c ys B m d hm W h
  have hcmp := fun W h h' => r10cmp_c xs ys hx hy A B n m c d hn hm W h h'
  have HRA := Lib.hid hra
  have HRB := Lib.hid hrb
  have hla := hra.len
  have hlb := hrb.len
  cases h1 : rightN xs with
  | false =>
    have e1 : subR xs ys = (1, []) := by unfold subR; rw [h1]; rfl
    rw [h1] at hr1
    rw [e1]
    have HR1 := Lib.hid hr1
    clear hr1 hr2 h1 e1 hra hrb hn hm hcmp
    go_enter Try.func38, Try.ntmps38
    go_wp2_with (first
      | (go_at_call 54; (with_reducible refine (HR1.out _ HRA.out).mono ?_); rintro e _ ⟨rfl, rfl⟩))
    go_ret2
    exact RetNE.nil 1 (Below.refl _ _)
  | true =>
    rw [h1] at hr1
    have HR1 := Lib.hid hr1
    cases h2 : rightN ys with
    | false =>
      have e1 : subR xs ys = (1, []) := by unfold subR; rw [h1, h2]; rfl
      rw [h2] at hr2
      rw [e1]
      have HR2 := Lib.hid hr2
      clear hr1 hr2 h1 h2 e1 hra hrb hn hm hcmp
      go_enter Try.func38, Try.ntmps38
      go_wp2_with (first
        | (go_at_call 54; (with_reducible refine (HR1.out _ HRA.out).mono ?_); rintro e _ ⟨rfl, rfl⟩)
        | (go_at_call 54; (with_reducible refine (HR2.out _ HRB.out).mono ?_); rintro e _ ⟨rfl, rfl⟩))
      go_ret2
      exact RetNE.nil 1 (Below.refl _ _)
    | true =>
      have e1 : subR xs ys = if valL xs < valL ys then (12, []) else (0, natL (valL xs - valL ys)) := by unfold subR; rw [h1, h2]; rfl
      have c1 : cmpR xs ys = if valL xs < valL ys then -1 else if valL ys < valL xs then 1 else 0 := by unfold cmpR; rw [h1, h2]; rfl
      rw [h2] at hr2
      have HR2 := Lib.hid hr2
      by_cases hv : valL xs < valL ys
      · rw [e1, if_pos hv]
        rw [c1, if_pos hv] at hcmp
        have HC := Lib.hid hcmp
        clear hr1 hr2 h1 h2 e1 c1 hra hrb hn hm hcmp hv
        go_enter Try.func38, Try.ntmps38
        go_wp2_with (first
          | (go_at_call 54; (with_reducible refine (HR1.out _ HRA.out).mono ?_); rintro e _ ⟨rfl, rfl⟩)
          | (go_at_call 54; (with_reducible refine (HR2.out _ HRB.out).mono ?_); rintro e _ ⟨rfl, rfl⟩)
          | (go_at_call 55; (with_reducible refine (HC.out _ HRA.out HRB.out).mono ?_); rintro e w3 ⟨rfl, hb3⟩; have HB3 := Lib.hid hb3; clear hb3))
        go_ret2
        exact RetNE.nil 12 HB3.out
      · rw [e1, if_neg hv]
        rw [c1, if_neg hv] at hcmp
        have hmn : m ≤ n := by
          rcases Nat.lt_or_ge n m with h | h
          · exact absurd (len_less hx hy h2 (by omega)) hv
          · exact h
        have hn256 : n ≤ 256 := by rw [← hla]; exact rightN_len h1
        obtain ⟨z, hz⟩ : ∃ z : Int, (if valL ys < valL xs then (1 : Int) else 0) = z := ⟨_, rfl⟩
        have hz0 : ¬ z < 0 := by rw [← hz]; split <;> omega
        rw [hz] at hcmp
        have HC := Lib.hid hcmp
        obtain ⟨i0, hi0, hz0', hz1, hzb⟩ := info_parts info_u32d
        have HLA := Lib.hid (fun (i : Nat) W (h : Rd .u32 W W.heap.size A n xs) => r10limb_c xs hx A n c hn i W h)
        have HLB := Lib.hid (fun (i : Nat) W (h : Rd .u32 W W.heap.size B m ys) => r10limb_c ys hy B m d hm i W h)
        have HXG := Lib.hid (fun i => hx.getD i)
        have HYG := Lib.hid (fun i => hy.getD i)
        have HXT := Lib.hid (fun i => valL_take_next xs i)
        have HYT := Lib.hid (fun i => valL_take_next ys i)
        have htx : xs.take n = xs := by rw [← hla, List.take_length]
        have hty : ys.take n = ys := List.take_of_length_le (by omega)
        have HTX := Lib.hid htx
        have HTY := Lib.hid hty
        have HV : Hid (valL ys ≤ valL xs) := Lib.hid (by omega)
        have HST : Hid (valL [] + valL (ys.take 0) = valL (xs.take 0) + 4294967296 ^ 0 * 0) := Lib.hid rfl
        clear hr1 hr2 h1 h2 e1 c1 hra hrb hm hcmp hv hz hx hy htx hty hn
        go_enter Try.func38, Try.ntmps38
        go_wp2_with (first
          | (go_at_call 54; (with_reducible refine (HR1.out _ HRA.out).mono ?_); rintro e _ ⟨rfl, rfl⟩)
          | (go_at_call 54; (with_reducible refine (HR2.out _ HRB.out).mono ?_); rintro e _ ⟨rfl, rfl⟩)
          | (go_at_call 55; (with_reducible refine (HC.out _ HRA.out HRB.out).mono ?_); rintro e w3 ⟨rfl, hb3⟩; have HB3 := Lib.hid hb3; clear hb3))
        go_loopw [6, 7, 8] (fun v cc ii wr => ∃ (i bo : Nat) (out : List Int), i ≤ n ∧ bo ≤ 1 ∧ cc = .int .u64 (bo : Int) ∧ ii = .int .i64 (i : Int) ∧ out.length = i ∧ Lim out ∧ valL out + valL (ys.take i) = valL (xs.take i) + 4294967296 ^ i * bo ∧ OwnI wr w.heap.size 46 .u32 v out ∧ Below w.heap.size w wr) (fun _ _ ii _ => n - (intOf ii).toNat)
        case atStart => exact ⟨0, 0, [], by omega, by omega, rfl, rfl, rfl, Lim.nil, HST.out, own_nil _ _ _, HB3.out⟩
        case round =>
          clear HST HB3
          obtain ⟨i, bo, out, hi, hbo, rfl, rfl, hol, hlo, hval, hown, hbl⟩ := hrel
          have HOW := Lib.hid hown
          have HBL := Lib.hid hbl
          have hsz := hbl.size
          by_cases hlt : i < n
          · have hxi := HXG.out i
            have hyi := HYG.out i
            have hla1 := fun W (h : Rd .u32 W W.heap.size A n xs) => HLA.out i W h
            have hlb1 := fun W (h : Rd .u32 W W.heap.size B m ys) => HLB.out i W h
            have hxt := HXT.out i
            have hyt := HYT.out i
            obtain ⟨x, hxx⟩ : ∃ x, xs.getD i 0 = x := ⟨_, rfl⟩
            obtain ⟨y, hyy⟩ : ∃ x, ys.getD i 0 = x := ⟨_, rfl⟩
            rw [hxx] at hxi hla1 hxt
            rw [hyy] at hyi hlb1 hyt
            obtain ⟨u, hu⟩ : ∃ u : Int, y + (bo : Int) = u := ⟨_, rfl⟩
            have hu0 : 0 ≤ u := by omega
            have hu1 : u ≤ 4294967296 := by omega
            obtain ⟨x0, x1⟩ := hxi
            have hgen : ∀ (dg : Int) (bn : Nat), 0 ≤ dg → dg < 4294967296 → bn ≤ 1 → dg + u = x + 4294967296 * (bn : Int) → Hid ((out ++ [dg]).length = i + 1 ∧ Lim (out ++ [dg]) ∧ valL (out ++ [dg]) + valL (ys.take (i + 1)) = valL (xs.take (i + 1)) + 4294967296 ^ (i + 1) * bn) := fun dg bn h0 h1 h2 h3 => Lib.hid ⟨by rw [List.length_append, hol]; rfl, hlo.app (Lim.cons ⟨h0, h1⟩ Lim.nil), by
              have hs := sub_step (4294967296 ^ i) dg.toNat y.toNat bo x.toNat bn (valL out) (valL (ys.take i)) (valL (xs.take i)) (by omega) hval
              rw [valL_app, hol, hxt, hyt, Nat.pow_succ]
              show valL out + 4294967296 ^ i * (dg.toNat + 4294967296 * 0) + _ = _
              rw [Nat.mul_zero, Nat.add_zero]
              exact hs⟩
            have HGEN := Lib.hid hgen
            have HPO := Lib.hid hol
            have HLA1 := Lib.hid hla1
            have HLB1 := Lib.hid hlb1
            have hi2 : (i : Int) < (n : Int) := by omega
            have hi3 : (i : Int) ≤ 256 := by omega
            have HSZ := Lib.hid hsz
            have HWS : Hid (w.heap.size ≤ wr.heap.size + 1) := Lib.hid (by omega)
            by_cases hux : x < u
            · have HG := HGEN.out (x + 4294967296 - u) 1 (by omega) (by omega) (by omega) (by omega)
              obtain ⟨dg, hdg⟩ : ∃ z, x + 4294967296 - u = z := ⟨_, rfl⟩
              rw [hdg] at HG
              have hdw : IntKind.u32.wrap dg = dg := by rw [IntKind.wrap_u32]; omega
              clear hgen hol hlo hval hown hbl hxt hyt hxx hyy hla1 hlb1 HGEN hsz hi hbo
              go_wp2_with (first
                | (go_at_call 46; (with_reducible refine (HLA1.out _ ((HRA.out.below HBL.out).mono HSZ.out)).mono ?_); rintro e _ ⟨rfl, rfl⟩)
                | (go_at_call 46; (with_reducible refine (HLB1.out _ ((HRB.out.below HBL.out).mono HSZ.out)).mono ?_); rintro e _ ⟨rfl, rfl⟩)
                | (at_builtin; refine wpList_append_ints _ rfl (.tmp 42) (.tmp 47) 25 rfl w.heap.size 46 i0 _ 4 .u32 Try.underlying25 hi0 hz0' hz1 hzb rfl _ out rfl (HOW.out.alloc _) (wr.heap.size + 1) (some ⟨wr.heap.size, 0, none⟩) 1 1 [dg] rfl (rd_one wr 46 .u32 dg) (by have := HPO.out; simp [maxLen]; omega) (by have := HPO.out; omega) (by have := HWS.out; simp; omega) ?_; intro v6 w6 hown6 hg6 hat6; have hb6 : Below w.heap.size w w6 := (HOW.out.alloc _).below_ (HBL.out.alloc HSZ.out _) (by have := HWS.out; simp; omega) hg6; have HO6 := Lib.hid hown6; have HB6 := Lib.hid hb6; clear hown6 hb6 hg6 hat6))
              go_roundw
              case rel => exact ⟨i + 1, 1, _, by omega, by omega, rfl, by go_num, HG.out.1, HG.out.2.1, HG.out.2.2, HO6.out, HB6.out⟩
              case measure => simp [intOf]; omega
            · have HG := HGEN.out (x - u) 0 (by omega) (by omega) (by omega) (by omega)
              obtain ⟨dg, hdg⟩ : ∃ z, x - u = z := ⟨_, rfl⟩
              rw [hdg] at HG
              have hdw : IntKind.u32.wrap dg = dg := by rw [IntKind.wrap_u32]; omega
              clear hgen hol hlo hval hown hbl hxt hyt hxx hyy hla1 hlb1 HGEN hsz hi hbo
              go_wp2_with (first
                | (go_at_call 46; (with_reducible refine (HLA1.out _ ((HRA.out.below HBL.out).mono HSZ.out)).mono ?_); rintro e _ ⟨rfl, rfl⟩)
                | (go_at_call 46; (with_reducible refine (HLB1.out _ ((HRB.out.below HBL.out).mono HSZ.out)).mono ?_); rintro e _ ⟨rfl, rfl⟩)
                | (at_builtin; refine wpList_append_ints _ rfl (.tmp 42) (.tmp 47) 25 rfl w.heap.size 46 i0 _ 4 .u32 Try.underlying25 hi0 hz0' hz1 hzb rfl _ out rfl (HOW.out.alloc _) (wr.heap.size + 1) (some ⟨wr.heap.size, 0, none⟩) 1 1 [dg] rfl (rd_one wr 46 .u32 dg) (by have := HPO.out; simp [maxLen]; omega) (by have := HPO.out; omega) (by have := HWS.out; simp; omega) ?_; intro v6 w6 hown6 hg6 hat6; have hb6 : Below w.heap.size w w6 := (HOW.out.alloc _).below_ (HBL.out.alloc HSZ.out _) (by have := HWS.out; simp; omega) hg6; have HO6 := Lib.hid hown6; have HB6 := Lib.hid hb6; clear hown6 hb6 hg6 hat6))
              go_roundw
              case rel => exact ⟨i + 1, 0, _, by omega, by omega, rfl, by go_num, HG.out.1, HG.out.2.1, HG.out.2.2, HO6.out, HB6.out⟩
              case measure => simp [intOf]; omega
          · obtain rfl : i = n := by omega
            rw [HTX.out, HTY.out] at hval
            have hvl := valL_lt hlo
            rw [hol] at hvl
            have hve := sub_end hbo hval hvl HV.out
            obtain ⟨A7, c7, hv7, hc7, hm7⟩ := hown.form
            subst hv7
            have hrd7 := hown.rd rfl
            have htr := r10trim_c out A7 out.length c7 (by unfold maxLen; omega) hc7 wr hrd7
            have hrt := rd_trim hrd7
            have htl := trimL_len out
            rw [trimL_eq hlo, hve] at htr hrt htl
            have HTR := Lib.hid htr
            have HRT := Lib.hid hrt
            have HTL := Lib.hid (Nat.le_trans htl hc7)
            have HM7 := Lib.hid hm7
            clear hown htr hrt htl hrd7 HOW hval hlo hol hbl hc7 hm7 hve hvl hbo
            go_wp2_with (first
              | (go_at_call 47; (with_reducible refine HTR.out.mono ?_); rintro e _ ⟨rfl, rfl⟩))
            go_ret2
            exact ⟨_, _, rfl, HTL.out, HM7.out, HRT.out, HBL.out⟩
end Go.Proofs.Ytaaahgkpicjnoaa
/-
  What the reference's calls of stage 16 return, and that memory is left as it was.
  Conditions: the arguments lie in their types' ranges; the stakes are a list in memory.
-/
set_option maxRecDepth 100000
set_option linter.unusedVariables false
set_option linter.unusedSimpArgs false
namespace Go.Proofs.Ytaaahgkpicjnoaa
open Go.ChangeShapes Go.WideShapes Go.ChangeAt Go.RowKit
/-! ### the calls of stage 10, of numbers -/
theorem times_n {x y : Nat} (hx : (natL x).length ≤ 1000) (hy : (natL y).length ≤ 1000) (A B : Option Addr) (c d : Nat) (W : World) (h1 : Rd .u32 W W.heap.size A (natL x).length (natL x)) (h2 : Rd .u32 W W.heap.size B (natL y).length (natL y)) : Calls Try.prog 27 #[.slice A (natL x).length c, .slice B (natL y).length d] W (RetN W (natL (x * y))) := by
  have h := r10times_c (natL x) (natL y) (natL_lim x) (natL_lim y) A B (natL x).length (natL y).length c d (by omega) (by omega) W h1 h2
  rwa [natL_val, natL_val] at h
theorem sum_n {x y : Nat} (hx : (natL x).length ≤ 1000) (hy : (natL y).length ≤ 1000) (A B : Option Addr) (c d : Nat) (W : World) (h1 : Rd .u32 W W.heap.size A (natL x).length (natL x)) (h2 : Rd .u32 W W.heap.size B (natL y).length (natL y)) : Calls Try.prog 26 #[.slice A (natL x).length c, .slice B (natL y).length d] W (RetN W (natL (x + y))) := by
  have h := r10sum_c (natL x) (natL y) (natL_lim x) (natL_lim y) A B (natL x).length (natL y).length c d (by omega) (by omega) W h1 h2
  rwa [natL_val, natL_val] at h
theorem sub_n {x y : Nat} (hx : (natL x).length ≤ 256) (hy : (natL y).length ≤ 256) (hxy : y ≤ x) (A B : Option Addr) (c d : Nat) (W : World) (h1 : Rd .u32 W W.heap.size A (natL x).length (natL x)) (h2 : Rd .u32 W W.heap.size B (natL y).length (natL y)) : Calls Try.prog 38 #[.slice A (natL x).length c, .slice B (natL y).length d] W (RetNE W (0, natL (x - y))) := by
  have h := r10sub_c (natL x) (natL y) (natL_lim x) (natL_lim y) A B (natL x).length (natL y).length c d (by unfold maxLen; omega) (by unfold maxLen; omega) W h1 h2
  rwa [sub_nat (rightN_natL hx) (rightN_natL hy), if_neg (by omega)] at h
theorem pow_n {x k : Nat} (hx : (natL x).length ≤ 256) (hk : k ≤ 64) (k1 : 1 ≤ k) (h : (natL (x ^ k)).length ≤ 256) (A : Option Addr) (c : Nat) (hc : (natL x).length ≤ c) (hm : c ≤ maxLen) (W : World) (h1 : Rd .u32 W W.heap.size A (natL x).length (natL x)) : Calls Try.prog 39 #[.slice A (natL x).length c, .int .i64 (k : Int)] W (RetNE W (0, natL (x ^ k))) := by
  have h := r10pow_c (natL x) (natL_lim x) A (natL x).length c hc hm (k : Int) (by omega) (by omega) W h1
  rwa [powR_any hx hk k1 (by assumption)] at h
theorem two_n {k : Nat} (hk : k ≤ 8191) (W : World) : Calls Try.prog 30 #[.int .i64 (k : Int)] W (RetNE W (0, natL (2 ^ k))) := by
  have h := r10two_c (k : Int) (by omega) (by omega) W
  unfold twoR at h
  rwa [if_pos ⟨by omega, by omega⟩, Int.toNat_natCast] at h
/-! ### the calls of stage 16 -/
theorem r16may_c (n m : Int) (n0 : 0 ≤ n) (n1 : n < 18446744073709551616) (m0 : -9223372036854775808 ≤ m) (m1 : m < 9223372036854775808) (w : World) : Calls Try.prog 36 #[.int .u64 n, .int .i64 m] w fun e w' => e = .returned (.bool (mayB n m)) ∧ w = w' := by
  by_cases h1 : 1 ≤ n
  · by_cases h2 : n < 9223372036854775808
    · by_cases h3 : 1 ≤ m
      · by_cases h4 : m ≤ 64
        · rw [mayB_iff.2 ⟨h1, h2, h3, h4⟩]
          go_enter Try.func36, Try.ntmps36
          go_wp2
          go_ret
          exact ⟨rfl, rfl⟩
        · rw [mayB_no (by omega)]
          go_enter Try.func36, Try.ntmps36
          go_wp2
          go_ret
          exact ⟨rfl, rfl⟩
      · rw [mayB_no (by omega)]
        go_enter Try.func36, Try.ntmps36
        go_wp2
        go_ret
        exact ⟨rfl, rfl⟩
    · rw [mayB_no (by omega)]
      go_enter Try.func36, Try.ntmps36
      go_wp2
      go_ret
      exact ⟨rfl, rfl⟩
  · rw [mayB_no (by omega)]
    go_enter Try.func36, Try.ntmps36
    go_wp2
    go_ret
    exact ⟨rfl, rfl⟩
theorem r16bits_c (n m : Int) (n0 : 0 ≤ n) (n1 : n < 18446744073709551616) (m0 : -9223372036854775808 ≤ m) (m1 : m < 9223372036854775808) (w : World) : Calls Try.prog 18 #[.int .u64 n, .int .i64 m] w fun e w' => e = .returned (.tuple #[.int .i64 (bitR n m).1, .int .i64 (bitR n m).2]) ∧ w = w' := by
  have hm := fun W => r16may_c n m n0 n1 m0 m1 W
  cases h : mayB n m with
  | false =>
    rw [show bitR n m = (0, 1) from if_neg (by rw [h]; decide)]
    rw [h] at hm
    have HM := Lib.hid hm
    clear hm h
    go_enter Try.func18, Try.ntmps18
    go_wp2_with (first
      | (go_at_call 36; (with_reducible refine (HM.out _).mono ?_); rintro e _ ⟨rfl, rfl⟩))
    go_ret2
    exact ⟨rfl, rfl⟩
  | true =>
    rw [show bitR n m = ((needN n : Int) * m, 0) from if_pos h]
    rw [h] at hm
    obtain ⟨p1, p2, p3, p4⟩ := mayB_iff.1 h
    obtain ⟨M, rfl⟩ := Int.eq_ofNat_of_zero_le (show 0 ≤ m by omega)
    have HM := Lib.hid hm
    have hnd := fun W => r8need_c n n0 n1 W
    have hk := (need_in p1 p2).1
    obtain ⟨k, hkk⟩ : ∃ k, needN n = k := ⟨_, rfl⟩
    rw [hkk] at hnd hk ⊢
    obtain ⟨p, hp⟩ : ∃ p, k * M = p := ⟨_, rfl⟩
    have hkM : (k : Int) * (M : Int) = (p : Int) := by rw [← hp]; push_cast; rfl
    have hp2 : p ≤ 4032 := by rw [← hp]; exact exp_in hk (by omega)
    have hp3 : (p : Int) ≤ 4032 := by omega
    rw [hkM]
    have HND := Lib.hid hnd
    clear hm h hnd hkk hk hp hp2 p1 p2 p3 p4 m0 m1
    go_enter Try.func18, Try.ntmps18
    go_wp2_with (first
      | (go_at_call 36; (with_reducible refine (HM.out _).mono ?_); rintro e _ ⟨rfl, rfl⟩)
      | (go_at_call 37; (with_reducible refine (HND.out _).mono ?_); rintro e _ ⟨rfl, rfl⟩))
    go_ret2
    exact ⟨rfl, rfl⟩
theorem r16all_c (n m : Int) (n0 : 0 ≤ n) (n1 : n < 18446744073709551616) (m0 : -9223372036854775808 ≤ m) (m1 : m < 9223372036854775808) (w : World) : Calls Try.prog 10 #[.int .u64 n, .int .i64 m] w (RetNE w (allR n m)) := by
  have hb := fun W => r16bits_c n m n0 n1 m0 m1 W
  cases h : mayB n m with
  | false =>
    rw [show allR n m = (1, []) from if_neg (by rw [h]; decide)]
    rw [show bitR n m = (0, 1) from if_neg (by rw [h]; decide)] at hb
    have HB := Lib.hid hb
    clear hb h
    go_enter Try.func10, Try.ntmps10
    go_wp2_with (first
      | (go_at_call 18; (with_reducible refine (HB.out _).mono ?_); rintro e _ ⟨rfl, rfl⟩))
    go_ret2
    exact RetNE.nil _ (Below.refl _ _)
  | true =>
    rw [show allR n m = (0, natL (allV n m)) from if_pos h]
    rw [show bitR n m = ((needN n : Int) * m, 0) from if_pos h] at hb
    obtain ⟨p1, p2, p3, p4⟩ := mayB_iff.1 h
    obtain ⟨M, rfl⟩ := Int.eq_ofNat_of_zero_le (show 0 ≤ m by omega)
    have hk := (need_in p1 p2).1
    unfold allV
    obtain ⟨k, hkk⟩ : ∃ k, needN n = k := ⟨_, rfl⟩
    rw [hkk] at hb hk ⊢
    rw [Int.toNat_natCast]
    obtain ⟨p, hp⟩ : ∃ p, k * M = p := ⟨_, rfl⟩
    have hkM : (k : Int) * (M : Int) = (p : Int) := by rw [← hp]; push_cast; rfl
    have hp2 : p ≤ 4032 := by rw [← hp]; exact exp_in hk (by omega)
    rw [hkM] at hb
    rw [hp]
    have ht := fun W => two_n (k := p) (by omega) W
    unfold RetNE at ht ⊢
    obtain ⟨Z, hZ⟩ : ∃ Z, natL (2 ^ p) = Z := ⟨_, rfl⟩
    rw [hZ] at ht ⊢
    dsimp only at ht hb ⊢
    have HB := Lib.hid hb
    have HTW := Lib.hid ht
    have G0 := Lib.hid (NFx.start w)
    clear hb ht h hkk hk hp hp2 p1 p2 p3 p4 m0 m1 hkM hZ
    go_enter Try.func10, Try.ntmps10
    go_wp2_with (first
      | (go_at_call 18; (with_reducible refine (HB.out _).mono ?_); rintro e _ ⟨rfl, rfl⟩)
      | (go_at_call 30; (with_reducible refine (HTW.out _).mono ?_); rintro e w1 ⟨Az, cz, rfl, hlw1, hmw1, hrw1, hbw1⟩; have Lz := Lib.hid hlw1; have Mz := Lib.hid hmw1; have G2 := Lib.hid (NFx.add G0.out hbw1 hrw1); clear G0; clear hrw1 hbw1 hlw1 hmw1))
    go_ret2
    exact ⟨Az, cz, rfl, Lz.out, Mz.out, (NFx.r0 G2.out), (NFx.bel G2.out)⟩
theorem r16lost_c (n m : Int) (n0 : 0 ≤ n) (n1 : n < 18446744073709551616) (m0 : -9223372036854775808 ≤ m) (m1 : m < 9223372036854775808) (w : World) : Calls Try.prog 12 #[.int .u64 n, .int .i64 m] w (RetNE w (lostR n m)) := by
  have hm := fun W => r16may_c n m n0 n1 m0 m1 W
  cases h : mayB n m with
  | false =>
    rw [show lostR n m = (1, []) from if_neg (by rw [h]; decide)]
    rw [h] at hm
    have HM := Lib.hid hm
    clear hm h
    go_enter Try.func12, Try.ntmps12
    go_wp2_with (first
      | (go_at_call 36; (with_reducible refine (HM.out _).mono ?_); rintro e _ ⟨rfl, rfl⟩))
    go_ret2
    exact RetNE.nil _ (Below.refl _ _)
  | true =>
    rw [show lostR n m = (0, natL (lostV n m)) from if_pos h]
    rw [h] at hm
    have hll := odd_len h (lostV_le h)
    obtain ⟨p1, p2, p3, p4⟩ := mayB_iff.1 h
    obtain ⟨M, rfl⟩ := Int.eq_ofNat_of_zero_le (show 0 ≤ m by omega)
    obtain ⟨hk, hk2⟩ := need_in p1 p2
    unfold lostV at hll ⊢
    rw [Int.toNat_natCast] at hll ⊢
    have hnd := fun W => r8need_c n n0 n1 W
    have h6 := small_len (n := n.toNat) (by omega)
    have h7 : (natL (oddR n)).length ≤ 256 := small_len (by unfold oddR oddP; have : 2 ^ needN n ≤ 2 ^ 63 := Nat.pow_le_pow_right (by omega) hk; omega)
    have h8 : (natL (2 ^ needN n)).length ≤ 256 := small_len (by have : 2 ^ needN n ≤ 2 ^ 63 := Nat.pow_le_pow_right (by omega) hk; omega)
    have hpw := fun A c W h1 h2 h3 => pow_n (x := oddR n) (k := M) h7 (by omega) (by omega) (by omega) A c h1 h2 W h3
    have hsb := fun A B c d W h1 h2 => sub_n (x := 2 ^ needN n) (y := n.toNat) h8 h6 hk2 A B c d W h1 h2
    rw [show 2 ^ needN n - n.toNat = oddR n from rfl] at hsb
    have htw := fun W => two_n (k := needN n) (by omega) W
    have hof := fun W => r10of_c n n0 n1 W
    obtain ⟨k, hkk⟩ : ∃ k, needN n = k := ⟨_, rfl⟩
    rw [hkk] at hnd htw hsb
    obtain ⟨Z, hZ⟩ : ∃ Z, natL (oddR n ^ M) = Z := ⟨_, rfl⟩
    obtain ⟨Y, hY⟩ : ∃ Z, natL (oddR n) = Z := ⟨_, rfl⟩
    obtain ⟨X, hX⟩ : ∃ Z, natL (2 ^ k) = Z := ⟨_, rfl⟩
    obtain ⟨V, hV⟩ : ∃ Z, natL n.toNat = Z := ⟨_, rfl⟩
    unfold RetNE at hpw hsb htw ⊢
    unfold RetN at hof
    rw [hZ] at hpw ⊢
    rw [hY] at hpw hsb
    rw [hX] at hsb htw
    rw [hV] at hsb hof
    dsimp only at hpw hsb htw ⊢
    have HM := Lib.hid hm
    have HND := Lib.hid hnd
    have HTW := Lib.hid htw
    have HOF := Lib.hid hof
    have HSB := Lib.hid hsb
    have HPW := Lib.hid hpw
    have G0 := Lib.hid (NFx.start w)
    clear hm hnd htw hof hsb hpw h h6 h7 h8 hkk hk hk2 p1 p2 p3 p4 m0 m1 hZ hY hX hV hll
    go_enter Try.func12, Try.ntmps12
    go_wp2_with (first
      | (go_at_call 36; (with_reducible refine (HM.out _).mono ?_); rintro e _ ⟨rfl, rfl⟩)
      | (go_at_call 37; (with_reducible refine (HND.out _).mono ?_); rintro e _ ⟨rfl, rfl⟩)
      | (go_at_call 30; (with_reducible refine (HTW.out _).mono ?_); rintro e w1 ⟨Ax, cx, rfl, hlw1, hmw1, hrw1, hbw1⟩; have Lx := Lib.hid hlw1; have Mx := Lib.hid hmw1; have G2 := Lib.hid (NFx.add G0.out hbw1 hrw1); clear G0; clear hrw1 hbw1 hlw1 hmw1)
      | (go_at_call 28; (with_reducible refine (HOF.out _).mono ?_); rintro e w3 ⟨Av, cv, rfl, hlw3, hmw3, hrw3, hbw3⟩; have Lv := Lib.hid hlw3; have Mv := Lib.hid hmw3; have G4 := Lib.hid (NFx.add G2.out hbw3 hrw3); clear G2; clear hrw3 hbw3 hlw3 hmw3)
      | (go_at_call 38; (with_reducible refine (HSB.out _ _ _ _ _ (NFx.r1 G4.out) (NFx.r0 G4.out)).mono ?_); rintro e w5 ⟨Ay, cy, rfl, hlw5, hmw5, hrw5, hbw5⟩; have Ly := Lib.hid hlw5; have My := Lib.hid hmw5; have G6 := Lib.hid (NFx.add G4.out hbw5 hrw5); clear G4; clear hrw5 hbw5 hlw5 hmw5)
      | (go_at_call 39; (with_reducible refine (HPW.out _ _ _ Ly.out My.out (NFx.r0 G6.out)).mono ?_); rintro e w7 ⟨Az, cz, rfl, hlw7, hmw7, hrw7, hbw7⟩; have Lz := Lib.hid hlw7; have Mz := Lib.hid hmw7; have G8 := Lib.hid (NFx.add G6.out hbw7 hrw7); clear G6; clear hrw7 hbw7 hlw7 hmw7))
    go_ret2
    exact ⟨Az, cz, rfl, Lz.out, Mz.out, (NFx.r0 G8.out), (NFx.bel G8.out)⟩
set_option maxHeartbeats 4000000 in
theorem r16each_c (n m : Int) (n0 : 0 ≤ n) (n1 : n < 18446744073709551616) (m0 : -9223372036854775808 ≤ m) (m1 : m < 9223372036854775808) (w : World) : Calls Try.prog 14 #[.int .u64 n, .int .i64 m] w (RetNE w (eachR n m)) := by
  have hm := fun W => r16may_c n m n0 n1 m0 m1 W
  cases h : mayB n m with
  | false =>
    rw [show eachR n m = (1, []) from if_neg (by rw [h]; decide)]
    rw [h] at hm
    have HM := Lib.hid hm
    clear hm h
    go_enter Try.func14, Try.ntmps14
    go_wp2_with (first
      | (go_at_call 36; (with_reducible refine (HM.out _).mono ?_); rintro e _ ⟨rfl, rfl⟩))
    go_ret2
    exact RetNE.nil _ (Below.refl _ _)
  | true =>
    rw [show eachR n m = (0, natL (eachV n m)) from if_pos h]
    rw [h] at hm
    obtain ⟨p1, p2, p3, p4⟩ := mayB_iff.1 h
    obtain ⟨M, rfl⟩ := Int.eq_ofNat_of_zero_le (show 0 ≤ m by omega)
    obtain ⟨hk, hk2⟩ := need_in p1 p2
    have hea := fun j (hj : j ≤ M) => odd_len h (ea_le h (j := j) (by omega)).1
    have hpa := fun j (hj : j ≤ M) => odd_len h (ea_parts h (j := j) (by omega)).1
    have hpb := fun j (hj : j ≤ M) i (hi : i + j ≤ M) => odd_len h ((ea_parts h (j := j) (by omega)).2 i (by omega)).1
    have hpc := fun j (hj : j ≤ M) i (hi : i + j ≤ M) => odd_len h ((ea_parts h (j := j) (by omega)).2 i (by omega)).2
    unfold eachV
    rw [Int.toNat_natCast] at hea ⊢
    have hnd := fun W => r8need_c n n0 n1 W
    have h6 := small_len (n := n.toNat) (by omega)
    have h7 : (natL (oddR n)).length ≤ 256 := small_len (by unfold oddR oddP; have : 2 ^ needN n ≤ 2 ^ 63 := Nat.pow_le_pow_right (by omega) hk; omega)
    have h8 : (natL (2 ^ needN n)).length ≤ 256 := small_len (by have : 2 ^ needN n ≤ 2 ^ 63 := Nat.pow_le_pow_right (by omega) hk; omega)
    have hsb := fun A B c d W h1 h2 => sub_n (x := 2 ^ needN n) (y := n.toNat) h8 h6 hk2 A B c d W h1 h2
    rw [show 2 ^ needN n - n.toNat = oddR n from rfl] at hsb
    have htw := fun W => two_n (k := needN n) (by omega) W
    have hof := fun W => r10of_c n n0 n1 W
    have hPq : ∀ q, 2 ^ (needN n * q) = oddP n ^ q := fun q => Nat.pow_mul 2 _ _
    have htq := fun q (hq : q < M) W => two_n (k := needN n * q) (by have := exp_in hk (show q ≤ 64 by omega); omega) W
    have htm := fun j q (hj : j + q + 1 = M) A B c d W h1 h2 => times_n (x := oddR n ^ j) (y := oddP n ^ q) (Nat.le_trans (hpa j (by omega)) (by omega)) (Nat.le_trans (hpb j (by omega) q (by omega)) (by omega)) A B c d W h1 h2
    have hts := fun j (hj : j < M) A B c d W h1 h2 => times_n (x := oddR n ^ j) (y := oddR n) (Nat.le_trans (hpa j (by omega)) (by omega)) (by omega) A B c d W h1 h2
    have hsm := fun j q (hj : j + q + 1 = M) A B c d W h1 h2 => sum_n (x := eaS (oddP n) (oddR n) M j) (y := oddR n ^ j * oddP n ^ q) (Nat.le_trans (hea j (by omega)) (by omega)) (Nat.le_trans (hpc j (by omega) q (by omega)) (by omega)) A B c d W h1 h2
    have hnx : ∀ j q, j + q + 1 = M → eaS (oddP n) (oddR n) M j + oddR n ^ j * oddP n ^ q = eaS (oddP n) (oddR n) M (j + 1) := fun j q hj => by rw [eaS, show M - 1 - j = q by omega]
    have hpx : ∀ j, oddR n ^ j * oddR n = oddR n ^ (j + 1) := fun j => (Nat.pow_succ ..).symm
    simp only [hPq] at htq
    have hexp := fun q (hq : q < M) => exp_in hk (show q ≤ 64 by omega)
    obtain ⟨k, hkk⟩ : ∃ k, needN n = k := ⟨_, rfl⟩
    rw [hkk] at hnd htw hsb htq hexp
    obtain ⟨S, hS⟩ : ∃ S : Nat → List Int, ∀ j, natL (eaS (oddP n) (oddR n) M j) = S j := ⟨_, fun _ => rfl⟩
    obtain ⟨B, hB⟩ : ∃ S : Nat → List Int, ∀ j, natL (oddR n ^ j) = S j := ⟨_, fun _ => rfl⟩
    obtain ⟨Pw, hP⟩ : ∃ S : Nat → List Int, ∀ j, natL (oddP n ^ j) = S j := ⟨_, fun _ => rfl⟩
    obtain ⟨Q, hQ⟩ : ∃ S : Nat → Nat → List Int, ∀ j q, natL (oddR n ^ j * oddP n ^ q) = S j q := ⟨_, fun _ _ => rfl⟩
    simp only [hnx, hpx] at hts
    have hsm2 : ∀ j q, j + q + 1 = M → ∀ A B c d W, Rd .u32 W W.heap.size A (S j).length (S j) → Rd .u32 W W.heap.size B (Q j q).length (Q j q) → Calls Try.prog 26 #[.slice A (S j).length c, .slice B (Q j q).length d] W (RetN W (S (j + 1))) := fun j q hj A B c d W h1 h2 => by
      have h3 := hsm j q hj A B c d W (by rw [hS]; exact h1) (by rw [hQ]; exact h2)
      rwa [hnx j q hj, hS, hS, hQ] at h3
    simp only [hB, hQ, hP] at htm hts htq
    rw [hS] at ⊢
    obtain ⟨Y, hY⟩ : ∃ Z, natL (oddR n) = Z := ⟨_, rfl⟩
    obtain ⟨X, hX⟩ : ∃ Z, natL (2 ^ k) = Z := ⟨_, rfl⟩
    obtain ⟨V, hV⟩ : ∃ Z, natL n.toNat = Z := ⟨_, rfl⟩
    have hS0 : S 0 = [] := by rw [← hS, eaS, natL_zero]
    have hB0 : B 0 = [1] := by rw [← hB, Nat.pow_zero, natL_one]
    unfold RetNE at hsb htw htq ⊢
    unfold RetN at hof htm hts hsm2
    rw [hY] at hts hsb
    rw [hX] at hsb htw
    rw [hV] at hsb hof
    dsimp only at hsb htw htq ⊢
    have HM := Lib.hid hm
    have HND := Lib.hid hnd
    have HTW := Lib.hid htw
    have HOF := Lib.hid hof
    have HSB := Lib.hid hsb
    have HTQ := Lib.hid htq
    have HTM := Lib.hid htm
    have HTS := Lib.hid hts
    have HSM := Lib.hid hsm2
    have HEX := Lib.hid hexp
    have HS0 := Lib.hid hS0
    have HB0 := Lib.hid hB0
    have G0 := Lib.hid (NFx.start w)
    have hM1 : (M : Int) ≤ 64 := by omega
    have hM0 : (1 : Int) ≤ (M : Int) := by omega
    clear hm hnd htw hof hsb htq htm hts hsm hsm2 hexp hnx hpx hPq hea hpa hpb hpc h h6 h7 h8 hkk hk hk2 p1 p2 p3 p4 m0 m1 hS hB hP hQ hY hX hV hS0 hB0
    go_enter Try.func14, Try.ntmps14
    go_wp2_with (first
      | (go_at_call 36; (with_reducible refine (HM.out _).mono ?_); rintro e _ ⟨rfl, rfl⟩)
      | (go_at_call 37; (with_reducible refine (HND.out _).mono ?_); rintro e _ ⟨rfl, rfl⟩)
      | (go_at_call 30; (with_reducible refine (HTW.out _).mono ?_); rintro e w1 ⟨Ax, cx, rfl, hlw1, hmw1, hrw1, hbw1⟩; have Lx := Lib.hid hlw1; have Mx := Lib.hid hmw1; have G2 := Lib.hid (NFx.add G0.out hbw1 hrw1); clear G0; clear hrw1 hbw1 hlw1 hmw1)
      | (go_at_call 28; (with_reducible refine (HOF.out _).mono ?_); rintro e w3 ⟨Av, cv, rfl, hlw3, hmw3, hrw3, hbw3⟩; have Lv := Lib.hid hlw3; have Mv := Lib.hid hmw3; have G4 := Lib.hid (NFx.add G2.out hbw3 hrw3); clear G2; clear hrw3 hbw3 hlw3 hmw3)
      | (go_at_call 38; (with_reducible refine (HSB.out _ _ _ _ _ (NFx.r1 G4.out) (NFx.r0 G4.out)).mono ?_); rintro e w5 ⟨Ay, cy, rfl, hlw5, hmw5, hrw5, hbw5⟩; have Ly := Lib.hid hlw5; have My := Lib.hid hmw5; have G6 := Lib.hid (NFx.add G4.out hbw5 hrw5); clear G4; clear hrw5 hbw5 hlw5 hmw5))
    have hs0 : NFx w [((none : Option Addr), S 0), (some ⟨w5.heap.size, 0, none⟩, B 0), (Ay, Y)] (w5.alloc (.cells #[.int .u32 1] 46)) := by
      rw [HS0.out, HB0.out]
      exact ⟨Rd.none_, (rd_one _ _ _ _).mono (by simp), NFx.r0 (NFx.alloc G6.out _), NFx.bel (NFx.alloc G6.out _)⟩
    have HS1 := Lib.hid hs0
    clear hs0
    go_loopw [11, 12, 13] (fun ss bb ii wr => ∃ j : Nat, ∃ As cs Ab cb, j ≤ M ∧ ii = .int .i64 ((M : Int) - 1 - (j : Int)) ∧ ss = .slice As (S j).length cs ∧ bb = .slice Ab (B j).length cb ∧ (S j).length ≤ cs ∧ cs ≤ maxLen ∧ NFx w [(As, S j), (Ab, B j), (Ay, Y)] wr) (fun _ _ ii _ => (intOf ii + 1).toNat)
    case atStart => exact ⟨0, none, 0, _, 1, by omega, by go_num, by rw [HS0.out]; rfl, by rw [HB0.out]; rfl, by rw [HS0.out]; exact Nat.le_refl _, by simp [maxLen], HS1.out⟩
    case round =>
      clear HS1
      obtain ⟨j, As, cs, Ab, cb, hj, rfl, rfl, rfl, hcs, hcm, hG⟩ := hrel
      have G9 := Lib.hid hG
      have LS := Lib.hid hcs
      have MS := Lib.hid hcm
      clear hG hcs hcm
      by_cases hlt : j < M
      · obtain ⟨q, hq⟩ : ∃ q : Nat, (M : Int) - 1 - (j : Int) = (q : Int) := ⟨M - 1 - j, by omega⟩
        have hjq : j + q + 1 = M := by omega
        have hex := HEX.out q (by omega)
        obtain ⟨e, he⟩ : ∃ e, k * q = e := ⟨_, rfl⟩
        have hke : (k : Int) * (q : Int) = (e : Int) := by rw [← he]; push_cast; rfl
        have htq := HTQ.out q (by omega)
        rw [he] at hex htq
        have HT2 := Lib.hid htq
        have HT3 := Lib.hid (HTM.out j q hjq)
        have HT4 := Lib.hid (HSM.out j q hjq)
        have HT5 := Lib.hid (HTS.out j hlt)
        have he2 : (e : Int) ≤ 4032 := by omega
        have hq0 : (0 : Int) ≤ (q : Int) := by omega
        have hq64 : (q : Int) ≤ 64 := by omega
        have HQJ : Hid ((q : Int) - 1 = (M : Int) - 1 - ((j + 1 : Nat) : Int)) := Lib.hid (by omega)
        have HJ1 : Hid (j + 1 ≤ M) := Lib.hid hlt
        rw [hq]
        clear htq he hex hjq hq hlt hj
        go_wp2_with (first
          | (go_at_call 30; (with_reducible refine (HT2.out _).mono ?_); rintro e w51 ⟨At, ct, rfl, hlw51, hmw51, hrw51, hbw51⟩; have Lt := Lib.hid hlw51; have Mt := Lib.hid hmw51; have G52 := Lib.hid (NFx.add G9.out hbw51 hrw51); clear G9; clear hrw51 hbw51 hlw51 hmw51)
          | (go_at_call 27; (with_reducible refine (HT3.out _ _ _ _ _ (NFx.r2 G52.out) (NFx.r0 G52.out)).mono ?_); rintro e w53 ⟨Ap, cp, rfl, hlw53, hmw53, hrw53, hbw53⟩; have Lp := Lib.hid hlw53; have Mp := Lib.hid hmw53; have G54 := Lib.hid (NFx.add G52.out hbw53 hrw53); clear G52; clear hrw53 hbw53 hlw53 hmw53)
          | (go_at_call 26; (with_reducible refine (HT4.out _ _ _ _ _ (NFx.r2 G54.out) (NFx.r0 G54.out)).mono ?_); rintro e w55 ⟨Au, cu, rfl, hlw55, hmw55, hrw55, hbw55⟩; have Lu := Lib.hid hlw55; have Mu := Lib.hid hmw55; have G56 := Lib.hid (NFx.add G54.out hbw55 hrw55); clear G54; clear hrw55 hbw55 hlw55 hmw55)
          | (go_at_call 27; (with_reducible refine (HT5.out _ _ _ _ _ (NFx.r4 G56.out) (NFx.r5 G56.out)).mono ?_); rintro e w57 ⟨Az, cz, rfl, hlw57, hmw57, hrw57, hbw57⟩; have Lz := Lib.hid hlw57; have Mz := Lib.hid hmw57; have G58 := Lib.hid (NFx.add G56.out hbw57 hrw57); clear G56; clear hrw57 hbw57 hlw57 hmw57))
        go_roundw
        case rel => exact ⟨j + 1, Au, cu, Az, cz, HJ1.out, by rw [← HQJ.out], rfl, rfl, Lu.out, Mu.out, (NFx.r1 G58.out), (NFx.r0 G58.out), (NFx.r6 G58.out), (NFx.bel G58.out)⟩
        case measure => simp [intOf] <;> omega
      · obtain rfl : j = M := by omega
        have hq : (j : Int) - 1 - (j : Int) = -1 := by omega
        rw [hq]
        clear hq hlt hj
        go_wp2
        go_ret2
        exact ⟨As, cs, rfl, LS.out, MS.out, NFx.r0 G9.out, NFx.bel G9.out⟩
theorem r16share_c (p : Int) (q0 : 0 ≤ p) (q1 : p < 18446744073709551616) (n m : Int) (n0 : 0 ≤ n) (n1 : n < 18446744073709551616) (m0 : -9223372036854775808 ≤ m) (m1 : m < 9223372036854775808) (w : World) : Calls Try.prog 16 #[.int .u64 p, .int .u64 n, .int .i64 m] w (RetNE w (shareR p n m)) := by
  have he := fun W => r16each_c n m n0 n1 m0 m1 W
  have G0 := Lib.hid (NFx.start w)
  cases h : mayB n m with
  | false =>
    rw [show shareR p n m = (1, []) from if_neg (by rw [h]; exact fun h => absurd h.1 (by decide))]
    rw [show eachR n m = (1, []) from if_neg (by rw [h]; decide)] at he
    unfold RetNE at he
    obtain ⟨Z, hZ⟩ : ∃ Z : List Int, [] = Z := ⟨_, rfl⟩
    rw [hZ] at he
    dsimp only at he
    have HE := Lib.hid he
    clear he h hZ
    go_enter Try.func16, Try.ntmps16
    go_wp2_with (first
      | (go_at_call 14; (with_reducible refine (HE.out _).mono ?_); rintro e w1 ⟨Az, cz, rfl, hlw1, hmw1, hrw1, hbw1⟩; have Lz := Lib.hid hlw1; have Mz := Lib.hid hmw1; have G2 := Lib.hid (NFx.add G0.out hbw1 hrw1); clear G0; clear hrw1 hbw1 hlw1 hmw1))
    go_ret2
    exact RetNE.nil _ (NFx.bel G2.out)
  | true =>
    rw [show eachR n m = (0, natL (eachV n m)) from if_pos h] at he
    by_cases hp : p ≤ n
    · rw [shareR_ok h hp]
      have hof := fun W => r10of_c p q0 q1 W
      have hl1 : (natL p.toNat).length ≤ 1000 := Nat.le_trans (small_len (n := p.toNat) (by omega)) (by omega)
      have htm := fun A B c d W h1 h2 => times_n (x := p.toNat) (y := eachV n m) hl1 (Nat.le_trans (odd_len h (eachV_le h)) (by omega)) A B c d W h1 h2
      obtain ⟨Z, hZ⟩ : ∃ Z, natL (eachV n m) = Z := ⟨_, rfl⟩
      obtain ⟨V, hV⟩ : ∃ Z, natL p.toNat = Z := ⟨_, rfl⟩
      obtain ⟨X, hX⟩ : ∃ Z, natL (p.toNat * eachV n m) = Z := ⟨_, rfl⟩
      rw [hZ] at he htm
      rw [hV] at hof htm
      rw [hX] at htm ⊢
      unfold RetNE at he ⊢
      unfold RetN at hof htm
      dsimp only at he ⊢
      have HE := Lib.hid he
      have HOF := Lib.hid hof
      have HTM := Lib.hid htm
      clear he hof htm hZ hV hX h hl1
      go_enter Try.func16, Try.ntmps16
      go_wp2_with (first
        | (go_at_call 14; (with_reducible refine (HE.out _).mono ?_); rintro e w1 ⟨Az, cz, rfl, hlw1, hmw1, hrw1, hbw1⟩; have Lz := Lib.hid hlw1; have Mz := Lib.hid hmw1; have G2 := Lib.hid (NFx.add G0.out hbw1 hrw1); clear G0; clear hrw1 hbw1 hlw1 hmw1)
        | (go_at_call 28; (with_reducible refine (HOF.out _).mono ?_); rintro e w3 ⟨Av, cv, rfl, hlw3, hmw3, hrw3, hbw3⟩; have Lv := Lib.hid hlw3; have Mv := Lib.hid hmw3; have G4 := Lib.hid (NFx.add G2.out hbw3 hrw3); clear G2; clear hrw3 hbw3 hlw3 hmw3)
        | (go_at_call 27; (with_reducible refine (HTM.out _ _ _ _ _ (NFx.r0 G4.out) (NFx.r1 G4.out)).mono ?_); rintro e w5 ⟨Ax, cx, rfl, hlw5, hmw5, hrw5, hbw5⟩; have Lx := Lib.hid hlw5; have Mx := Lib.hid hmw5; have G6 := Lib.hid (NFx.add G4.out hbw5 hrw5); clear G4; clear hrw5 hbw5 hlw5 hmw5))
      go_ret2
      exact ⟨Ax, cx, rfl, Lx.out, Mx.out, (NFx.r0 G6.out), (NFx.bel G6.out)⟩
    · rw [show shareR p n m = (1, []) from if_neg (fun h => hp h.2)]
      have hp2 : n < p := by omega
      obtain ⟨Z, hZ⟩ : ∃ Z, natL (eachV n m) = Z := ⟨_, rfl⟩
      rw [hZ] at he
      unfold RetNE at he
      dsimp only at he
      have HE := Lib.hid he
      clear he h hZ
      go_enter Try.func16, Try.ntmps16
      go_wp2_with (first
        | (go_at_call 14; (with_reducible refine (HE.out _).mono ?_); rintro e w1 ⟨Az, cz, rfl, hlw1, hmw1, hrw1, hbw1⟩; have Lz := Lib.hid hlw1; have Mz := Lib.hid hmw1; have G2 := Lib.hid (NFx.add G0.out hbw1 hrw1); clear G0; clear hrw1 hbw1 hlw1 hmw1))
      go_ret2
      exact RetNE.nil _ (NFx.bel G2.out)
theorem r16lead_c (i : Int) (i0 : -9223372036854775808 ≤ i) (i1 : i < 9223372036854775808) (m : Int) (m0 : -9223372036854775808 ≤ m) (m1 : m < 9223372036854775808) (l : List Int) (hz : ∀ z ∈ l, 0 ≤ z ∧ z < 18446744073709551616) (A : Option Addr) (n c : Nat) (hn : n ≤ maxLen) (w : World) (hrd : Rd .u64 w w.heap.size A n l) : Calls Try.prog 21 #[.int .i64 i, .int .i64 m, .slice A n c] w (RetNE w (leadR' i m l)) := by
  have hto := fun W h => r9total_c l hz A n c hn W h
  have HR := Lib.hid hrd
  have hlen := hrd.len
  have hnI : (n : Int) ≤ 9223372036854775807 := by unfold maxLen at hn; omega
  have hs0 := sumL_nn (fun z h => (hz z h).1)
  by_cases hm : 1 ≤ m ∧ m ≤ 64
  · by_cases hs : sumL l < 9223372036854775808
    · rw [(sumV_ok hs).1, (sumV_ok hs).2] at hto
      obtain ⟨t, ht⟩ : ∃ t, sumL l = t := ⟨_, rfl⟩
      by_cases ht0 : t = 0
      · rw [show leadR' i m l = (10, []) by unfold leadR'; rw [if_pos hm, if_pos hs, if_pos (ht.trans ht0)]]
        rw [ht, ht0] at hto
        obtain ⟨m2, m3⟩ := hm
        have HTO := Lib.hid hto
        clear hto hs ht ht0 hs0 hrd hlen hz
        go_enter Try.func21, Try.ntmps21
        go_wp2_with (first
          | (go_at_call 25; (with_reducible refine (HTO.out _ HR.out).mono ?_); rintro e _ ⟨rfl, rfl⟩))
        go_ret2
        exact RetNE.nil _ (Below.refl _ _)
      · have t1 : (t == 0) = false := by rw [beq_eq_false_iff_ne]; exact ht0
        by_cases hi : 0 ≤ i ∧ i < l.length
        · rw [show leadR' i m l = shareR (l.getD i.toNat 0) t m by unfold leadR'; rw [if_pos hm, if_pos hs, if_neg (by rw [ht]; exact ht0), if_pos hi, ht]]
          rw [ht] at hto hs hs0
          obtain ⟨j, rfl⟩ := Int.eq_ofNat_of_zero_le hi.1
          rw [Int.toNat_natCast]
          have hj : j < n := by omega
          obtain ⟨g, off, hA, -, hcl⟩ := hrd.at_ (by omega)
          have hck := hcl j hj
          subst hA
          have hzj := hz _ (getD_in (l := l) (k := j) (by omega))
          obtain ⟨z, hzz⟩ : ∃ z, l.getD j 0 = z := ⟨_, rfl⟩
          rw [hzz] at hck hzj ⊢
          have hsh := fun W => r16share_c z hzj.1 hzj.2 t m hs0 (by omega) m0 m1 W
          obtain ⟨R, hR⟩ : ∃ R, shareR z t m = R := ⟨_, rfl⟩
          rw [hR] at hsh ⊢
          have HTO := Lib.hid hto
          have HSH := Lib.hid hsh
          have j1 : (j : Int) < (n : Int) := by omega
          have j0 : (0 : Int) ≤ (j : Int) := by omega
          obtain ⟨m2, m3⟩ := hm
          obtain ⟨re, rz⟩ := R
          unfold RetNE at hsh ⊢
          clear hto hsh hs ht ht0 hs0 hrd hlen hz hcl hzz hR hi hj hzj i0 i1 m0 m1 hn hnI
          go_enter Try.func21, Try.ntmps21
          go_wp2_with (first
            | (go_at_call 25; (with_reducible refine (HTO.out _ HR.out).mono ?_); rintro e _ ⟨rfl, rfl⟩)
            | (go_at_call 16; (with_reducible refine (HSH.out _).mono ?_); rintro e w9 ⟨A9, c9, rfl, hl9, hm9, hr9, hb9⟩; have H9 := Lib.hid (And.intro hl9 (And.intro hm9 (And.intro hr9 hb9))); clear hl9 hm9 hr9 hb9))
          go_ret2
          exact ⟨A9, c9, rfl, H9.out.1, H9.out.2.1, H9.out.2.2.1, H9.out.2.2.2⟩
        · rw [show leadR' i m l = (3, []) by unfold leadR'; rw [if_pos hm, if_pos hs, if_neg (by rw [ht]; exact ht0), if_neg hi]]
          rw [ht] at hto
          obtain ⟨m2, m3⟩ := hm
          have HTO := Lib.hid hto
          by_cases h0 : i < 0
          · clear hto hs ht ht0 hs0 hrd hz hi
            go_enter Try.func21, Try.ntmps21
            go_wp2_with (first
              | (go_at_call 25; (with_reducible refine (HTO.out _ HR.out).mono ?_); rintro e _ ⟨rfl, rfl⟩))
            go_ret2
            exact RetNE.nil _ (Below.refl _ _)
          · have h2 : (n : Int) ≤ i := by omega
            have h3 : 0 ≤ i := by omega
            clear hto hs ht ht0 hs0 hrd hz hi h0 hlen
            go_enter Try.func21, Try.ntmps21
            go_wp2_with (first
              | (go_at_call 25; (with_reducible refine (HTO.out _ HR.out).mono ?_); rintro e _ ⟨rfl, rfl⟩))
            go_ret2
            exact RetNE.nil _ (Below.refl _ _)
    · rw [show leadR' i m l = (11, []) by unfold leadR'; rw [if_pos hm, if_neg hs]]
      rw [(sumV_no hs).1, (sumV_no hs).2] at hto
      obtain ⟨m2, m3⟩ := hm
      have HTO := Lib.hid hto
      clear hto hs hs0 hrd hlen hz
      go_enter Try.func21, Try.ntmps21
      go_wp2_with (first
        | (go_at_call 25; (with_reducible refine (HTO.out _ HR.out).mono ?_); rintro e _ ⟨rfl, rfl⟩))
      go_ret2
      exact RetNE.nil _ (Below.refl _ _)
  · rw [show leadR' i m l = (1, []) from if_neg hm]
    by_cases h1 : m < 1
    · clear hm hto hs0 hrd hlen hz
      go_enter Try.func21, Try.ntmps21
      go_wp2
      go_ret2
      exact RetNE.nil _ (Below.refl _ _)
    · have h2 : 64 < m := by omega
      have h3 : 1 ≤ m := by omega
      clear hm hto hs0 hrd hlen hz h1
      go_enter Try.func21, Try.ntmps21
      go_wp2
      go_ret2
      exact RetNE.nil _ (Below.refl _ _)
theorem r16pick_c (i : Int) (i0 : -9223372036854775808 ≤ i) (i1 : i < 9223372036854775808) (m : Int) (m0 : -9223372036854775808 ≤ m) (m1 : m < 9223372036854775808) (l : List Int) (hz : ∀ z ∈ l, 0 ≤ z ∧ z < 18446744073709551616) (A : Option Addr) (n c : Nat) (hn : n ≤ maxLen) (w : World) (hrd : Rd .u64 w w.heap.size A n l) : Calls Try.prog 23 #[.int .i64 i, .int .i64 m, .slice A n c] w (RetNE w (pickR' i m l)) := by
  have hto := fun W h => r9total_c l hz A n c hn W h
  have HR := Lib.hid hrd
  have hlen := hrd.len
  have hnI : (n : Int) ≤ 9223372036854775807 := by unfold maxLen at hn; omega
  have hn0 : (0 : Int) ≤ (n : Int) := by omega
  have hs0 := sumL_nn (fun z h => (hz z h).1)
  by_cases hm : 1 ≤ m ∧ m ≤ 64
  · by_cases hs : sumL l < 9223372036854775808
    · rw [(sumV_ok hs).1, (sumV_ok hs).2] at hto
      have hle := fun k => sumL_at (fun z h => (hz z h).1) (k := k)
      obtain ⟨t, ht⟩ : ∃ t, sumL l = t := ⟨_, rfl⟩
      rw [ht] at hto hs0 hle
      have hmu := fun W => r9mul_c (n : Int) t hn0 (by omega) hs0 (by rw [← ht]; omega) W
      by_cases ht0 : t = 0
      · rw [show pickR' i m l = (10, []) by unfold pickR'; rw [if_pos hm, if_pos hs, if_pos (ht.trans ht0)]]
        rw [ht0] at hto hmu
        rw [(mulV_ok (by omega)).1, (mulV_ok (by omega)).2, Int.mul_zero] at hmu
        obtain ⟨m2, m3⟩ := hm
        have HTO := Lib.hid hto
        have HMU := Lib.hid hmu
        clear hto hmu hs ht ht0 hs0 hrd hlen hz hle
        go_enter Try.func23, Try.ntmps23
        go_wp2_with (first
          | (go_at_call 25; (with_reducible refine (HTO.out _ HR.out).mono ?_); rintro e _ ⟨rfl, rfl⟩)
          | (go_at_call 44; (with_reducible refine (HMU.out _).mono ?_); rintro e _ ⟨rfl, rfl⟩))
        go_ret2
        exact RetNE.nil _ (Below.refl _ _)
      · have t1 : (t == 0) = false := by rw [beq_eq_false_iff_ne]; exact ht0
        by_cases hb : (n : Int) * t < 9223372036854775808
        · rw [(mulV_ok hb).1, (mulV_ok hb).2] at hmu
          obtain ⟨a, ha⟩ : ∃ a, (n : Int) * t = a := ⟨_, rfl⟩
          by_cases hi : 0 ≤ i ∧ i < l.length
          · rw [show pickR' i m l = shareR ((n : Int) * l.getD i.toNat 0) a m by unfold pickR'; rw [if_pos hm, if_pos hs, if_neg (by rw [ht]; exact ht0), ht, hlen, if_pos hb, if_pos (by rw [← hlen]; exact hi), ha]]
            obtain ⟨j, rfl⟩ := Int.eq_ofNat_of_zero_le hi.1
            rw [Int.toNat_natCast]
            have hj : j < n := by omega
            obtain ⟨g, off, hA, -, hcl⟩ := hrd.at_ (by omega)
            have hck := hcl j hj
            subst hA
            have hzj := hz _ (getD_in (l := l) (k := j) (by omega))
            have hlj := hle j (by omega)
            obtain ⟨z, hzz⟩ : ∃ z, l.getD j 0 = z := ⟨_, rfl⟩
            rw [hzz] at hck hzj hlj ⊢
            have hy0 : 0 ≤ (n : Int) * z := Int.mul_nonneg hn0 hzj.1
            have hy1 : (n : Int) * z ≤ (n : Int) * t := Int.mul_le_mul_of_nonneg_left hlj hn0
            rw [ha] at hb hmu hy1
            obtain ⟨y, hy⟩ : ∃ y, (n : Int) * z = y := ⟨_, rfl⟩
            rw [hy] at hy0 hy1 ⊢
            have hsh := fun W => r16share_c y hy0 (by omega) a m (by omega) (by omega) m0 m1 W
            obtain ⟨R, hR⟩ : ∃ R, shareR y a m = R := ⟨_, rfl⟩
            rw [hR] at hsh ⊢
            have HTO := Lib.hid hto
            have HMU := Lib.hid hmu
            have HSH := Lib.hid hsh
            have j1 : (j : Int) < (n : Int) := by omega
            have j0 : (0 : Int) ≤ (j : Int) := by omega
            have y2 : y < 18446744073709551616 := by omega
            obtain ⟨m2, m3⟩ := hm
            obtain ⟨re, rz⟩ := R
            unfold RetNE at hsh ⊢
            clear hto hsh hs ht ht0 hs0 hrd hlen hz hcl hzz hR hi hj hzj hlj hle hmu hb ha hy1 i0 i1 m0 m1 hn
            go_enter Try.func23, Try.ntmps23
            go_wp2_with (first
              | (go_at_call 25; (with_reducible refine (HTO.out _ HR.out).mono ?_); rintro e _ ⟨rfl, rfl⟩)
              | (go_at_call 44; (with_reducible refine (HMU.out _).mono ?_); rintro e _ ⟨rfl, rfl⟩)
              | (go_at_call 16; (with_reducible refine (HSH.out _).mono ?_); rintro e w9 ⟨A9, c9, rfl, hl9, hm9, hr9, hb9⟩; have H9 := Lib.hid (And.intro hl9 (And.intro hm9 (And.intro hr9 hb9))); clear hl9 hm9 hr9 hb9))
            go_ret2
            exact ⟨A9, c9, rfl, H9.out.1, H9.out.2.1, H9.out.2.2.1, H9.out.2.2.2⟩
          · rw [show pickR' i m l = (3, []) by unfold pickR'; rw [if_pos hm, if_pos hs, if_neg (by rw [ht]; exact ht0), ht, hlen, if_pos hb, if_neg (by rw [← hlen]; exact hi)]]
            rw [ha] at hmu
            obtain ⟨m2, m3⟩ := hm
            have HTO := Lib.hid hto
            have HMU := Lib.hid hmu
            by_cases h0 : i < 0
            · clear hto hmu hs ht ht0 hs0 hrd hz hi hb ha hle
              go_enter Try.func23, Try.ntmps23
              go_wp2_with (first
                | (go_at_call 25; (with_reducible refine (HTO.out _ HR.out).mono ?_); rintro e _ ⟨rfl, rfl⟩)
                | (go_at_call 44; (with_reducible refine (HMU.out _).mono ?_); rintro e _ ⟨rfl, rfl⟩))
              go_ret2
              exact RetNE.nil _ (Below.refl _ _)
            · have h2 : (n : Int) ≤ i := by omega
              have h3 : 0 ≤ i := by omega
              clear hto hmu hs ht ht0 hs0 hrd hz hi h0 hlen hb ha hle
              go_enter Try.func23, Try.ntmps23
              go_wp2_with (first
                | (go_at_call 25; (with_reducible refine (HTO.out _ HR.out).mono ?_); rintro e _ ⟨rfl, rfl⟩)
                | (go_at_call 44; (with_reducible refine (HMU.out _).mono ?_); rintro e _ ⟨rfl, rfl⟩))
              go_ret2
              exact RetNE.nil _ (Below.refl _ _)
        · rw [show pickR' i m l = (11, []) by unfold pickR'; rw [if_pos hm, if_pos hs, if_neg (by rw [ht]; exact ht0), ht, hlen, if_neg hb]]
          rw [(mulV_no hb).1, (mulV_no hb).2] at hmu
          obtain ⟨m2, m3⟩ := hm
          have HTO := Lib.hid hto
          have HMU := Lib.hid hmu
          clear hto hmu hs ht ht0 hs0 hrd hlen hz hb hle
          go_enter Try.func23, Try.ntmps23
          go_wp2_with (first
            | (go_at_call 25; (with_reducible refine (HTO.out _ HR.out).mono ?_); rintro e _ ⟨rfl, rfl⟩)
            | (go_at_call 44; (with_reducible refine (HMU.out _).mono ?_); rintro e _ ⟨rfl, rfl⟩))
          go_ret2
          exact RetNE.nil _ (Below.refl _ _)
    · rw [show pickR' i m l = (11, []) by unfold pickR'; rw [if_pos hm, if_neg hs]]
      rw [(sumV_no hs).1, (sumV_no hs).2] at hto
      have hmu := fun W => r9mul_c (n : Int) 0 hn0 (by omega) (by omega) (by omega) W
      rw [(mulV_ok (by omega)).1, (mulV_ok (by omega)).2, Int.mul_zero] at hmu
      obtain ⟨m2, m3⟩ := hm
      have HTO := Lib.hid hto
      have HMU := Lib.hid hmu
      clear hto hmu hs hs0 hrd hlen hz
      go_enter Try.func23, Try.ntmps23
      go_wp2_with (first
        | (go_at_call 25; (with_reducible refine (HTO.out _ HR.out).mono ?_); rintro e _ ⟨rfl, rfl⟩)
        | (go_at_call 44; (with_reducible refine (HMU.out _).mono ?_); rintro e _ ⟨rfl, rfl⟩))
      go_ret2
      exact RetNE.nil _ (Below.refl _ _)
  · rw [show pickR' i m l = (1, []) from if_neg hm]
    by_cases h1 : m < 1
    · clear hm hto hs0 hrd hlen hz
      go_enter Try.func23, Try.ntmps23
      go_wp2
      go_ret2
      exact RetNE.nil _ (Below.refl _ _)
    · have h2 : 64 < m := by omega
      have h3 : 1 ≤ m := by omega
      clear hm hto hs0 hrd hlen hz h1
      go_enter Try.func23, Try.ntmps23
      go_wp2
      go_ret2
      exact RetNE.nil _ (Below.refl _ _)
end Go.Proofs.Ytaaahgkpicjnoaa
/-
  Rows of slices of bytes, read.
  Conditions: none.
-/
set_option maxRecDepth 100000
set_option linter.unusedVariables false
set_option linter.unusedSimpArgs false
namespace Go.Proofs.Ytaaahgkpicjnoaa
open Go.ChangeShapes Go.WideShapes Go.ChangeAt Go.RowKit
/-- The slice reads as rows of bytes. -/
structure Row where
  A : Option Addr
  n : Nat
  c : Nat
  zs : List Int
def RdRows (w : World) (B : Nat) (A : Option Addr) (n : Nat) (rs : List Row) : Prop :=
  rs.length = n ∧ (0 < n → ∃ b off, A = some ⟨b, off, none⟩ ∧ b < B ∧ ∀ (j : Nat) (r : Row), rs[j]? = some r → w.cell? ⟨b, off + j, none⟩ = some (.slice r.A r.n r.c)) ∧ ∀ r ∈ rs, Rd .u8 w B r.A r.n r.zs ∧ r.n ≤ r.c
theorem RdRows.below {w w' : World} {B n : Nat} {A : Option Addr} {rs : List Row} (h : RdRows w B A n rs) (hb : Below B w w') : RdRows w' B A n rs :=
  ⟨h.1, fun hn => by
    obtain ⟨b, off, e, hlt, hc⟩ := h.2.1 hn
    exact ⟨b, off, e, hlt, fun j r hj => (hb.cell (p := ⟨b, off + j, none⟩) hlt).trans (hc j r hj)⟩, fun r hr => ⟨(h.2.2 r hr).1.below hb, (h.2.2 r hr).2⟩⟩
end Go.Proofs.Ytaaahgkpicjnoaa
/-
  What is known of memory, as a list: blocks known whole, slices that read as lists, rows of slices; it stays while calls leave old memory as it was. Steps by hand inside a region that draws its order.
  Conditions: those that each theorem names.
-/
set_option maxRecDepth 100000
set_option linter.unusedVariables false
set_option linter.unusedSimpArgs false
namespace Go.Proofs.Ytaaahgkpicjnoaa
open Go.ChangeShapes Go.WideShapes Go.ChangeAt Go.RowKit
inductive Fact where
  | blk (g : Nat) (t : TypeId) (cs : Array Value)
  | rd (k : IntKind) (A : Option Addr) (n : Nat) (zs : List Int)
  | rows (A : Option Addr) (n : Nat) (rs : List Row)
  | bel (w : World)
  | rdb (k : IntKind) (B : Nat) (A : Option Addr) (n : Nat) (zs : List Int)
  | kept (B : Nat) (R : World → Prop)
def Fact.on : Fact → World → Prop
  | .blk g t cs, w => Blk w g t cs
  | .rd k A n zs, w => Rd k w w.heap.size A n zs
  | .rows A n rs, w => RdRows w w.heap.size A n rs
  | .bel w0, w => Below w0.heap.size w0 w
  | .rdb k B A n zs, w => Rd k w B A n zs ∧ B ≤ w.heap.size
  | .kept B R, w => (∀ w', Below B w w' → R w') ∧ B ≤ w.heap.size
def Fx : List Fact → World → Prop
  | [], _ => True
  | f :: l, w => f.on w ∧ Fx l w
theorem RdRows.monoB {w : World} {B B' n : Nat} {A : Option Addr} {rs : List Row} (h : RdRows w B A n rs) (hB : B ≤ B') : RdRows w B' A n rs :=
  ⟨h.1, fun hn => by
    obtain ⟨b, off, e, hlt, hc⟩ := h.2.1 hn
    exact ⟨b, off, e, by omega, hc⟩, fun r hr => ⟨(h.2.2 r hr).1.mono hB, (h.2.2 r hr).2⟩⟩
theorem Fact.below {f : Fact} {w w' : World} (h : f.on w) (hb : Below w.heap.size w w') : f.on w' := by
  cases f with
  | blk g t cs => exact Blk.below h hb (Blk.lt h)
  | rd k A n zs => exact (Rd.below h hb).fit
  | rows A n rs => exact (RdRows.below h hb).monoB hb.size
  | bel w0 => exact Below.trans h (hb.mono (Below.size h))
  | rdb k B A n zs => exact ⟨Rd.below h.1 (hb.mono h.2), Nat.le_trans h.2 hb.size⟩
  | kept B R => exact ⟨fun w2 h2 => h.1 w2 ((hb.mono h.2).trans h2), Nat.le_trans h.2 hb.size⟩
theorem Fx.below {l : List Fact} {w w' : World} (h : Fx l w) (hb : Below w.heap.size w w') : Fx l w' := by
  induction l with
  | nil => exact trivial
  | cons f l ih => exact ⟨Fact.below h.1 hb, ih h.2⟩
theorem Fx.drew {l : List Fact} {w : World} (h : Fx l w) : Fx l w.drew := h.below (Below.refl _ _).drew
theorem Fx.alloc {l : List Fact} {w : World} (h : Fx l w) (o : Obj) : Fx l (w.alloc o) := h.below ((Below.refl _ _).alloc (Nat.le_refl _) o)
theorem Fx.app {l l' : List Fact} {w : World} (h : Fx l w) (h' : Fx l' w) : Fx (l ++ l') w := by
  induction l with
  | nil => exact h'
  | cons f l ih => exact ⟨h.1, ih h.2⟩
/-- No integer of this kind among the cells. -/
def NoInt (k : IntKind) (cs : Array Value) : Prop := ∀ (j : Nat) (z : Int), cs[j]? ≠ some (.int k z)
/-- A slice of integers lies apart from a block that holds none of their kind. -/
theorem Rd.apartB {k : IntKind} {w w' : World} {A : Option Addr} {n g : Nat} {t : TypeId} {cs : Array Value} {zs : List Int} (h : Rd k w w.heap.size A n zs) (hb : Blk w g t cs) (hno : NoInt k cs) (hs : w.heap.size ≤ w'.heap.size) (ho : ∀ j, j ≠ g → w'.heap[j]? = w.heap[j]?) : Rd k w' w'.heap.size A n zs := by
  refine ⟨h.1, fun hn => ?_⟩
  obtain ⟨b, off, e, hlt, hc⟩ := h.2 hn
  have hne : b ≠ g := by
    rintro rfl
    have h0 := hc 0 hn
    rw [hb.cell] at h0
    exact hno _ _ h0
  refine ⟨b, off, e, by omega, fun j hj => ?_⟩
  rw [World.cell?_of_block (w := w) (w' := w') (a := ⟨b, off + j, none⟩) (ho b hne)]
  exact hc j hj
/-- What is known lies apart from the block g, whose cells are cs. -/
def Fact.off (g : Nat) (cs : Array Value) : Fact → Prop
  | .blk g' _ _ => g' ≠ g
  | .rd k _ _ _ => NoInt k cs
  | .rows _ n _ => n = 0
  | .bel w0 => w0.heap.size ≤ g
  | .rdb _ B _ _ _ => B ≤ g
  | .kept B _ => B ≤ g
def Fx.off (g : Nat) (cs : Array Value) : List Fact → Prop
  | [] => True
  | f :: l => f.off g cs ∧ Fx.off g cs l
theorem Fx.store {l : List Fact} {w w' : World} {g : Nat} {t : TypeId} {cs : Array Value} (h : Fx l w) (hk : Blk w g t cs) (ha : Fx.off g cs l) (hs : w'.heap.size = w.heap.size) (hb : ∀ B, B ≤ g → Below B w w') (ho : ∀ j, j ≠ g → w'.heap[j]? = w.heap[j]?) : Fx l w' := by
  induction l with
  | nil => exact trivial
  | cons f l ih =>
    refine ⟨?_, ih h.2 ha.2⟩
    have h1 := h.1
    have h2 := ha.1
    cases f with
    | blk g' t' cs' => exact Blk.other h1 ho h2
    | rd k A n zs => exact Rd.apartB h1 hk h2 (by omega) ho
    | rows A n rs =>
      have h3 : n = 0 := h2
      subst h3
      have h4 : rs.length = 0 := h1.1
      exact ⟨h4, fun hn => absurd hn (by omega), fun r hr => by rw [List.eq_nil_of_length_eq_zero h4] at hr; cases hr⟩
    | bel w0 => exact Below.trans h1 (hb _ h2)
    | rdb k B A n zs => exact ⟨Rd.below h1.1 (hb _ h2), by rw [hs]; exact h1.2⟩
    | kept B R => exact ⟨fun w2 h3 => h1.1 w2 ((hb _ h2).trans h3), by rw [hs]; exact h1.2⟩
end Go.Proofs.Ytaaahgkpicjnoaa
/-
  Facts of memory as one list: a new block ahead, a store, what lies apart; rows that grow.
  Conditions: those that each theorem names.
-/
set_option maxRecDepth 100000
set_option linter.unusedVariables false
set_option linter.unusedSimpArgs false
namespace Go.Proofs.Ytaaahgkpicjnoaa
open Go.ChangeShapes Go.WideShapes Go.ChangeAt Go.RowKit
/-- Kept where a row of elements e grows that lies at base or above. -/
def Fact.free (e : TypeId) (base : Nat) : Fact → Prop
  | .blk _ t _ => e ≠ t
  | .bel w0 => w0.heap.size = base
  | .rdb _ B _ _ _ => B ≤ base
  | .kept B _ => B ≤ base
  | _ => False
def Fx.free (e : TypeId) (base : Nat) : List Fact → Prop
  | [] => True
  | f :: l => f.free e base ∧ Fx.free e base l
theorem Fx.grown {l : List Fact} {w w' : World} {base : Nat} {e : TypeId} {k : IntKind} {v : Value} {zs : List Int} (h : Fx l w) (ho : OwnI w base e k v zs) (hf : Fx.free e base l) (hbase : base ≤ w.heap.size) (hg : w.grownBy w' v.ownBlock) : Fx l w' := by
  induction l with
  | nil => exact trivial
  | cons f l ih =>
    refine ⟨?_, ih h.2 hf.2⟩
    have h1 := h.1
    have h2 := hf.1
    cases f with
    | blk g t cs => exact Blk.grown h1 ho h2 hg
    | rd k A n zs => exact h2.elim
    | rows A n rs => exact h2.elim
    | bel w0 =>
      have h3 : w0.heap.size = base := h2
      subst h3
      exact ho.below_ h1 hbase hg
    | rdb k B A n zs =>
      have hb : Below base w w' := ho.below_ (Below.refl _ _) hbase hg
      exact ⟨Rd.below h1.1 (hb.mono h2), Nat.le_trans h1.2 hb.size⟩
    | kept B R =>
      have hb : Below base w w' := ho.below_ (Below.refl _ _) hbase hg
      exact ⟨fun w2 h3 => h1.1 w2 ((hb.mono h2).trans h3), Nat.le_trans h1.2 hb.size⟩
/-! ### lists of blocks, the newest first -/
def Fact.plain : Fact → Bool
  | .blk _ _ _ => true
  | .bel _ => true
  | .rdb _ _ _ _ _ => true
  | .kept _ _ => true
  | _ => false
def Fact.under (g : Nat) : Fact → Prop
  | .blk g' _ _ => g' < g
  | .bel w0 => w0.heap.size ≤ g
  | .rdb _ B _ _ _ => B ≤ g
  | .kept B _ => B ≤ g
  | _ => False
def Fx.under (g : Nat) : List Fact → Prop
  | [] => True
  | f :: l => f.under g ∧ Fx.under g l
section
variable {l : List Fact} {f : Fact} {w w' w0 : World} {g g' : Nat} {t : TypeId} {k : IntKind} {zs ys : List Int} {cs : Array Value}
theorem Fx.box (h : BlkI w' w.heap.size t k zs) (hb : Below w.heap.size w w') : Fx [.blk w.heap.size t (intsA k zs), .bel w] w' := ⟨h, hb, trivial⟩
theorem Fx.new (h : Fx l w) (hk : BlkI w' w.heap.size t k zs) (hb : Below w.heap.size w w') : Fx (.blk w.heap.size t (intsA k zs) :: l) w' := ⟨hk, h.below hb⟩
theorem Fx.bel0 (w : World) : Fx [.bel w] w := ⟨Below.refl _ _, trivial⟩
theorem Fx.fst (h : Fx (.blk g t (intsA k zs) :: l) w) : BlkI w g t k zs := h.1
theorem Fx.fstB (h : Fx (.blk g t cs :: l) w) : Blk w g t cs := h.1
theorem Fx.tl (h : Fx (f :: l) w) : Fx l w := h.2
theorem Fx.snd (h : Fx (f :: .blk g t (intsA k zs) :: l) w) : BlkI w g t k zs := h.2.1
theorem Fx.bel1 (h : Fx [.bel w0] w) : Below w0.heap.size w0 w := h.1
theorem Fx.bel2 (h : Fx [f, .bel w0] w) : Below w0.heap.size w0 w := h.2.1
theorem Fx.bel3 {f2 : Fact} (h : Fx [f, f2, .bel w0] w) : Below w0.heap.size w0 w := h.2.2.1
theorem Fx.bel4 {f2 f3 : Fact} (h : Fx [f, f2, f3, .bel w0] w) : Below w0.heap.size w0 w := h.2.2.2.1
theorem Fx.under_new (h : Fx l w) (hp : l.all Fact.plain = true) : Fx.under w.heap.size l := by
  induction l with
  | nil => exact trivial
  | cons f l ih =>
    rw [List.all_cons, Bool.and_eq_true] at hp
    refine ⟨?_, ih h.2 hp.2⟩
    have h1 := h.1
    cases f with
    | blk g t cs => exact Blk.lt h1
    | bel w0 => exact Below.size h1
    | rdb k B A n zs => exact h1.2
    | kept B R => exact h1.2
    | rd k A n zs => cases hp.1
    | rows A n rs => cases hp.1
theorem Fx.off_under (h : Fx.under g l) (cs : Array Value) : Fx.off g cs l := by
  induction l with
  | nil => exact trivial
  | cons f l ih =>
    refine ⟨?_, ih h.2⟩
    have h1 := h.1
    cases f with
    | blk g' t cs => exact Nat.ne_of_lt h1
    | bel w0 => exact h1
    | rdb k B A n zs => exact h1
    | kept B R => exact h1
    | rd k A n zs => exact h1.elim
    | rows A n rs => exact h1.elim
/-- The newest block is written. -/
theorem Fx.put1 (h : Fx (.blk g t cs :: l) w) (hu : Fx.under g l) (hk : BlkI w' g t k ys) (hs : w'.heap.size = w.heap.size) (hb : ∀ B, B ≤ g → Below B w w') (ho : ∀ j, j ≠ g → w'.heap[j]? = w.heap[j]?) : Fx (.blk g t (intsA k ys) :: l) w' :=
  ⟨hk, h.2.store h.1 (Fx.off_under hu _) hs hb ho⟩
/-- The one below it is written. -/
theorem Fx.put2 {t' : TypeId} {cs' : Array Value} (h : Fx (.blk g' t' cs' :: .blk g t cs :: l) w) (hu : Fx.under g' (.blk g t cs :: l)) (hu2 : Fx.under g l) (hk : BlkI w' g t k ys) (hs : w'.heap.size = w.heap.size) (hb : ∀ B, B ≤ g → Below B w w') (ho : ∀ j, j ≠ g → w'.heap[j]? = w.heap[j]?) : Fx (.blk g' t' cs' :: .blk g t (intsA k ys) :: l) w' :=
  ⟨Blk.other h.1 ho (Nat.ne_of_gt hu.1), Fx.put1 h.2 hu2 hk hs hb ho⟩
theorem Fx.under_put (h : Fx.under g' (.blk g t cs :: l)) (cs' : Array Value) : Fx.under g' (.blk g t cs' :: l) := h
end
theorem Fx.free2 {e t : TypeId} {g : Nat} {cs : Array Value} {w : World} (h : e ≠ t) : Fx.free e w.heap.size [.blk g t cs, .bel w] := ⟨h, rfl, trivial⟩
theorem Fx.free3 {e t t2 : TypeId} {g g2 : Nat} {cs cs2 : Array Value} {w : World} (h : e ≠ t) (h2 : e ≠ t2) : Fx.free e w.heap.size [.blk g t cs, .blk g2 t2 cs2, .bel w] := ⟨h, h2, rfl, trivial⟩
section
variable {P : Program} {ops : Array Oper} {Q : Exit → Act → World → Prop} {a : Act} {w w1 : World}
/-- An operation whose value and world are known, where it comes up. -/
theorem step_run {o : Oper} {K : Act → World → Prop} {E : Prop} (d : Option Tmp) (hd : o.dst = d) (hw : Region.wanted o (yielded ops a.tmps) = true) (v : Value) (he : (execOp a.eval o).run P w = .ok (.value v) w1) (h : K (a.put d v) w1) :
    if Region.wanted o (yielded ops a.tmps) = true then Oper.wp P o a w K Q else E := by
  subst hd
  rw [if_pos hw]
  unfold Oper.wp
  rw [he]
  exact h
end
end Go.Proofs.Ytaaahgkpicjnoaa
/-
  Lists of facts of memory: each one by its place, what is added in front, what is written in front.
  Conditions: those that each theorem names.
-/
set_option maxRecDepth 100000
set_option linter.unusedVariables false
set_option linter.unusedSimpArgs false
namespace Go.Proofs.Ytaaahgkpicjnoaa
open Go.ChangeShapes Go.WideShapes Go.ChangeAt Go.RowKit
section
variable {l : List Fact} {w w' w0 : World} {g B n : Nat} {t : TypeId} {k : IntKind} {zs : List Int} {A : Option Addr} {cs ys : Array Value} {f0 : Fact} {f1 : Fact} {f2 : Fact} {f3 : Fact} {f4 : Fact} {f5 : Fact} {f6 : Fact} {f7 : Fact} {f8 : Fact} {f9 : Fact} {f10 : Fact} {f11 : Fact} {f12 : Fact} {f13 : Fact} {f14 : Fact} {f15 : Fact} {f16 : Fact} {f17 : Fact} {f18 : Fact} {f19 : Fact} {f20 : Fact} {f21 : Fact} {f22 : Fact} {f23 : Fact} {f24 : Fact} {f25 : Fact} {f26 : Fact} {f27 : Fact} {f28 : Fact} {f29 : Fact} {f30 : Fact} {f31 : Fact}
theorem Fx.newB (h : Fx l w) (hk : Blk w' w.heap.size t cs) (hb : Below w.heap.size w w') : Fx (.blk w.heap.size t cs :: l) w' := ⟨hk, h.below hb⟩
theorem Fx.addR (h : Fx l w) (hb : Below w.heap.size w w') (hr : Rd k w' w'.heap.size A n zs) : Fx (.rdb k w'.heap.size A n zs :: l) w' := ⟨⟨hr, Nat.le_refl _⟩, h.below hb⟩
theorem Fx.addK {R : World → Prop} (h : Fx l w) (hb : Below w.heap.size w w') (hr : ∀ w2, Below w'.heap.size w' w2 → R w2) : Fx (.kept w'.heap.size R :: l) w' := ⟨⟨hr, Nat.le_refl _⟩, h.below hb⟩
theorem Fx.put1B (h : Fx (.blk g t cs :: l) w) (hu : Fx.under g l) (hk : Blk w' g t ys) (hs : w'.heap.size = w.heap.size) (hb : ∀ B, B ≤ g → Below B w w') (ho : ∀ j, j ≠ g → w'.heap[j]? = w.heap[j]?) : Fx (.blk g t ys :: l) w' :=
  ⟨hk, h.2.store h.1 (Fx.off_under hu _) hs hb ho⟩
theorem Fx.b0 (h : Fx (.blk g t cs :: l) w) : Blk w g t cs := h.1
theorem Fx.i0 (h : Fx (.blk g t (intsA k zs) :: l) w) : BlkI w g t k zs := h.1
theorem Fx.r0 (h : Fx (.rdb k B A n zs :: l) w) : Rd k w w.heap.size A n zs := h.1.1.mono h.1.2
theorem Fx.q0 (h : Fx (.rdb k B A n zs :: l) w) : Rd k w B A n zs := h.1.1
theorem Fx.k0 {R : World → Prop} (h : Fx (.kept B R :: l) w) : R w := h.1.1 _ (Below.refl _ _)
theorem Fx.s0 (h : Fx (.rd k A n zs :: l) w) : Rd k w w.heap.size A n zs := h.1
theorem Fx.e0 (h : Fx (.bel w0 :: l) w) : Below w0.heap.size w0 w := h.1
theorem Fx.b1 (h : Fx (f0 :: .blk g t cs :: l) w) : Blk w g t cs := h.2.1
theorem Fx.i1 (h : Fx (f0 :: .blk g t (intsA k zs) :: l) w) : BlkI w g t k zs := h.2.1
theorem Fx.r1 (h : Fx (f0 :: .rdb k B A n zs :: l) w) : Rd k w w.heap.size A n zs := h.2.1.1.mono h.2.1.2
theorem Fx.q1 (h : Fx (f0 :: .rdb k B A n zs :: l) w) : Rd k w B A n zs := h.2.1.1
theorem Fx.k1 {R : World → Prop} (h : Fx (f0 :: .kept B R :: l) w) : R w := h.2.1.1 _ (Below.refl _ _)
theorem Fx.s1 (h : Fx (f0 :: .rd k A n zs :: l) w) : Rd k w w.heap.size A n zs := h.2.1
theorem Fx.e1 (h : Fx (f0 :: .bel w0 :: l) w) : Below w0.heap.size w0 w := h.2.1
theorem Fx.b2 (h : Fx (f0 :: f1 :: .blk g t cs :: l) w) : Blk w g t cs := h.2.2.1
theorem Fx.i2 (h : Fx (f0 :: f1 :: .blk g t (intsA k zs) :: l) w) : BlkI w g t k zs := h.2.2.1
theorem Fx.r2 (h : Fx (f0 :: f1 :: .rdb k B A n zs :: l) w) : Rd k w w.heap.size A n zs := h.2.2.1.1.mono h.2.2.1.2
theorem Fx.q2 (h : Fx (f0 :: f1 :: .rdb k B A n zs :: l) w) : Rd k w B A n zs := h.2.2.1.1
theorem Fx.k2 {R : World → Prop} (h : Fx (f0 :: f1 :: .kept B R :: l) w) : R w := h.2.2.1.1 _ (Below.refl _ _)
theorem Fx.s2 (h : Fx (f0 :: f1 :: .rd k A n zs :: l) w) : Rd k w w.heap.size A n zs := h.2.2.1
theorem Fx.e2 (h : Fx (f0 :: f1 :: .bel w0 :: l) w) : Below w0.heap.size w0 w := h.2.2.1
theorem Fx.b3 (h : Fx (f0 :: f1 :: f2 :: .blk g t cs :: l) w) : Blk w g t cs := h.2.2.2.1
theorem Fx.i3 (h : Fx (f0 :: f1 :: f2 :: .blk g t (intsA k zs) :: l) w) : BlkI w g t k zs := h.2.2.2.1
theorem Fx.r3 (h : Fx (f0 :: f1 :: f2 :: .rdb k B A n zs :: l) w) : Rd k w w.heap.size A n zs := h.2.2.2.1.1.mono h.2.2.2.1.2
theorem Fx.q3 (h : Fx (f0 :: f1 :: f2 :: .rdb k B A n zs :: l) w) : Rd k w B A n zs := h.2.2.2.1.1
theorem Fx.k3 {R : World → Prop} (h : Fx (f0 :: f1 :: f2 :: .kept B R :: l) w) : R w := h.2.2.2.1.1 _ (Below.refl _ _)
theorem Fx.s3 (h : Fx (f0 :: f1 :: f2 :: .rd k A n zs :: l) w) : Rd k w w.heap.size A n zs := h.2.2.2.1
theorem Fx.e3 (h : Fx (f0 :: f1 :: f2 :: .bel w0 :: l) w) : Below w0.heap.size w0 w := h.2.2.2.1
theorem Fx.b4 (h : Fx (f0 :: f1 :: f2 :: f3 :: .blk g t cs :: l) w) : Blk w g t cs := h.2.2.2.2.1
theorem Fx.i4 (h : Fx (f0 :: f1 :: f2 :: f3 :: .blk g t (intsA k zs) :: l) w) : BlkI w g t k zs := h.2.2.2.2.1
theorem Fx.r4 (h : Fx (f0 :: f1 :: f2 :: f3 :: .rdb k B A n zs :: l) w) : Rd k w w.heap.size A n zs := h.2.2.2.2.1.1.mono h.2.2.2.2.1.2
theorem Fx.q4 (h : Fx (f0 :: f1 :: f2 :: f3 :: .rdb k B A n zs :: l) w) : Rd k w B A n zs := h.2.2.2.2.1.1
theorem Fx.k4 {R : World → Prop} (h : Fx (f0 :: f1 :: f2 :: f3 :: .kept B R :: l) w) : R w := h.2.2.2.2.1.1 _ (Below.refl _ _)
theorem Fx.s4 (h : Fx (f0 :: f1 :: f2 :: f3 :: .rd k A n zs :: l) w) : Rd k w w.heap.size A n zs := h.2.2.2.2.1
theorem Fx.e4 (h : Fx (f0 :: f1 :: f2 :: f3 :: .bel w0 :: l) w) : Below w0.heap.size w0 w := h.2.2.2.2.1
theorem Fx.b5 (h : Fx (f0 :: f1 :: f2 :: f3 :: f4 :: .blk g t cs :: l) w) : Blk w g t cs := h.2.2.2.2.2.1
theorem Fx.i5 (h : Fx (f0 :: f1 :: f2 :: f3 :: f4 :: .blk g t (intsA k zs) :: l) w) : BlkI w g t k zs := h.2.2.2.2.2.1
theorem Fx.r5 (h : Fx (f0 :: f1 :: f2 :: f3 :: f4 :: .rdb k B A n zs :: l) w) : Rd k w w.heap.size A n zs := h.2.2.2.2.2.1.1.mono h.2.2.2.2.2.1.2
theorem Fx.q5 (h : Fx (f0 :: f1 :: f2 :: f3 :: f4 :: .rdb k B A n zs :: l) w) : Rd k w B A n zs := h.2.2.2.2.2.1.1
theorem Fx.k5 {R : World → Prop} (h : Fx (f0 :: f1 :: f2 :: f3 :: f4 :: .kept B R :: l) w) : R w := h.2.2.2.2.2.1.1 _ (Below.refl _ _)
theorem Fx.s5 (h : Fx (f0 :: f1 :: f2 :: f3 :: f4 :: .rd k A n zs :: l) w) : Rd k w w.heap.size A n zs := h.2.2.2.2.2.1
theorem Fx.e5 (h : Fx (f0 :: f1 :: f2 :: f3 :: f4 :: .bel w0 :: l) w) : Below w0.heap.size w0 w := h.2.2.2.2.2.1
theorem Fx.b6 (h : Fx (f0 :: f1 :: f2 :: f3 :: f4 :: f5 :: .blk g t cs :: l) w) : Blk w g t cs := h.2.2.2.2.2.2.1
theorem Fx.i6 (h : Fx (f0 :: f1 :: f2 :: f3 :: f4 :: f5 :: .blk g t (intsA k zs) :: l) w) : BlkI w g t k zs := h.2.2.2.2.2.2.1
theorem Fx.r6 (h : Fx (f0 :: f1 :: f2 :: f3 :: f4 :: f5 :: .rdb k B A n zs :: l) w) : Rd k w w.heap.size A n zs := h.2.2.2.2.2.2.1.1.mono h.2.2.2.2.2.2.1.2
theorem Fx.q6 (h : Fx (f0 :: f1 :: f2 :: f3 :: f4 :: f5 :: .rdb k B A n zs :: l) w) : Rd k w B A n zs := h.2.2.2.2.2.2.1.1
theorem Fx.k6 {R : World → Prop} (h : Fx (f0 :: f1 :: f2 :: f3 :: f4 :: f5 :: .kept B R :: l) w) : R w := h.2.2.2.2.2.2.1.1 _ (Below.refl _ _)
theorem Fx.s6 (h : Fx (f0 :: f1 :: f2 :: f3 :: f4 :: f5 :: .rd k A n zs :: l) w) : Rd k w w.heap.size A n zs := h.2.2.2.2.2.2.1
theorem Fx.e6 (h : Fx (f0 :: f1 :: f2 :: f3 :: f4 :: f5 :: .bel w0 :: l) w) : Below w0.heap.size w0 w := h.2.2.2.2.2.2.1
theorem Fx.b7 (h : Fx (f0 :: f1 :: f2 :: f3 :: f4 :: f5 :: f6 :: .blk g t cs :: l) w) : Blk w g t cs := h.2.2.2.2.2.2.2.1
theorem Fx.i7 (h : Fx (f0 :: f1 :: f2 :: f3 :: f4 :: f5 :: f6 :: .blk g t (intsA k zs) :: l) w) : BlkI w g t k zs := h.2.2.2.2.2.2.2.1
theorem Fx.r7 (h : Fx (f0 :: f1 :: f2 :: f3 :: f4 :: f5 :: f6 :: .rdb k B A n zs :: l) w) : Rd k w w.heap.size A n zs := h.2.2.2.2.2.2.2.1.1.mono h.2.2.2.2.2.2.2.1.2
theorem Fx.q7 (h : Fx (f0 :: f1 :: f2 :: f3 :: f4 :: f5 :: f6 :: .rdb k B A n zs :: l) w) : Rd k w B A n zs := h.2.2.2.2.2.2.2.1.1
theorem Fx.k7 {R : World → Prop} (h : Fx (f0 :: f1 :: f2 :: f3 :: f4 :: f5 :: f6 :: .kept B R :: l) w) : R w := h.2.2.2.2.2.2.2.1.1 _ (Below.refl _ _)
theorem Fx.s7 (h : Fx (f0 :: f1 :: f2 :: f3 :: f4 :: f5 :: f6 :: .rd k A n zs :: l) w) : Rd k w w.heap.size A n zs := h.2.2.2.2.2.2.2.1
theorem Fx.e7 (h : Fx (f0 :: f1 :: f2 :: f3 :: f4 :: f5 :: f6 :: .bel w0 :: l) w) : Below w0.heap.size w0 w := h.2.2.2.2.2.2.2.1
theorem Fx.b8 (h : Fx (f0 :: f1 :: f2 :: f3 :: f4 :: f5 :: f6 :: f7 :: .blk g t cs :: l) w) : Blk w g t cs := h.2.2.2.2.2.2.2.2.1
theorem Fx.i8 (h : Fx (f0 :: f1 :: f2 :: f3 :: f4 :: f5 :: f6 :: f7 :: .blk g t (intsA k zs) :: l) w) : BlkI w g t k zs := h.2.2.2.2.2.2.2.2.1
theorem Fx.r8 (h : Fx (f0 :: f1 :: f2 :: f3 :: f4 :: f5 :: f6 :: f7 :: .rdb k B A n zs :: l) w) : Rd k w w.heap.size A n zs := h.2.2.2.2.2.2.2.2.1.1.mono h.2.2.2.2.2.2.2.2.1.2
theorem Fx.q8 (h : Fx (f0 :: f1 :: f2 :: f3 :: f4 :: f5 :: f6 :: f7 :: .rdb k B A n zs :: l) w) : Rd k w B A n zs := h.2.2.2.2.2.2.2.2.1.1
theorem Fx.k8 {R : World → Prop} (h : Fx (f0 :: f1 :: f2 :: f3 :: f4 :: f5 :: f6 :: f7 :: .kept B R :: l) w) : R w := h.2.2.2.2.2.2.2.2.1.1 _ (Below.refl _ _)
theorem Fx.s8 (h : Fx (f0 :: f1 :: f2 :: f3 :: f4 :: f5 :: f6 :: f7 :: .rd k A n zs :: l) w) : Rd k w w.heap.size A n zs := h.2.2.2.2.2.2.2.2.1
theorem Fx.e8 (h : Fx (f0 :: f1 :: f2 :: f3 :: f4 :: f5 :: f6 :: f7 :: .bel w0 :: l) w) : Below w0.heap.size w0 w := h.2.2.2.2.2.2.2.2.1
theorem Fx.b9 (h : Fx (f0 :: f1 :: f2 :: f3 :: f4 :: f5 :: f6 :: f7 :: f8 :: .blk g t cs :: l) w) : Blk w g t cs := h.2.2.2.2.2.2.2.2.2.1
theorem Fx.i9 (h : Fx (f0 :: f1 :: f2 :: f3 :: f4 :: f5 :: f6 :: f7 :: f8 :: .blk g t (intsA k zs) :: l) w) : BlkI w g t k zs := h.2.2.2.2.2.2.2.2.2.1
theorem Fx.r9 (h : Fx (f0 :: f1 :: f2 :: f3 :: f4 :: f5 :: f6 :: f7 :: f8 :: .rdb k B A n zs :: l) w) : Rd k w w.heap.size A n zs := h.2.2.2.2.2.2.2.2.2.1.1.mono h.2.2.2.2.2.2.2.2.2.1.2
theorem Fx.q9 (h : Fx (f0 :: f1 :: f2 :: f3 :: f4 :: f5 :: f6 :: f7 :: f8 :: .rdb k B A n zs :: l) w) : Rd k w B A n zs := h.2.2.2.2.2.2.2.2.2.1.1
theorem Fx.k9 {R : World → Prop} (h : Fx (f0 :: f1 :: f2 :: f3 :: f4 :: f5 :: f6 :: f7 :: f8 :: .kept B R :: l) w) : R w := h.2.2.2.2.2.2.2.2.2.1.1 _ (Below.refl _ _)
theorem Fx.s9 (h : Fx (f0 :: f1 :: f2 :: f3 :: f4 :: f5 :: f6 :: f7 :: f8 :: .rd k A n zs :: l) w) : Rd k w w.heap.size A n zs := h.2.2.2.2.2.2.2.2.2.1
theorem Fx.e9 (h : Fx (f0 :: f1 :: f2 :: f3 :: f4 :: f5 :: f6 :: f7 :: f8 :: .bel w0 :: l) w) : Below w0.heap.size w0 w := h.2.2.2.2.2.2.2.2.2.1
theorem Fx.b10 (h : Fx (f0 :: f1 :: f2 :: f3 :: f4 :: f5 :: f6 :: f7 :: f8 :: f9 :: .blk g t cs :: l) w) : Blk w g t cs := h.2.2.2.2.2.2.2.2.2.2.1
theorem Fx.i10 (h : Fx (f0 :: f1 :: f2 :: f3 :: f4 :: f5 :: f6 :: f7 :: f8 :: f9 :: .blk g t (intsA k zs) :: l) w) : BlkI w g t k zs := h.2.2.2.2.2.2.2.2.2.2.1
theorem Fx.r10 (h : Fx (f0 :: f1 :: f2 :: f3 :: f4 :: f5 :: f6 :: f7 :: f8 :: f9 :: .rdb k B A n zs :: l) w) : Rd k w w.heap.size A n zs := h.2.2.2.2.2.2.2.2.2.2.1.1.mono h.2.2.2.2.2.2.2.2.2.2.1.2
theorem Fx.q10 (h : Fx (f0 :: f1 :: f2 :: f3 :: f4 :: f5 :: f6 :: f7 :: f8 :: f9 :: .rdb k B A n zs :: l) w) : Rd k w B A n zs := h.2.2.2.2.2.2.2.2.2.2.1.1
theorem Fx.k10 {R : World → Prop} (h : Fx (f0 :: f1 :: f2 :: f3 :: f4 :: f5 :: f6 :: f7 :: f8 :: f9 :: .kept B R :: l) w) : R w := h.2.2.2.2.2.2.2.2.2.2.1.1 _ (Below.refl _ _)
theorem Fx.s10 (h : Fx (f0 :: f1 :: f2 :: f3 :: f4 :: f5 :: f6 :: f7 :: f8 :: f9 :: .rd k A n zs :: l) w) : Rd k w w.heap.size A n zs := h.2.2.2.2.2.2.2.2.2.2.1
theorem Fx.e10 (h : Fx (f0 :: f1 :: f2 :: f3 :: f4 :: f5 :: f6 :: f7 :: f8 :: f9 :: .bel w0 :: l) w) : Below w0.heap.size w0 w := h.2.2.2.2.2.2.2.2.2.2.1
theorem Fx.b11 (h : Fx (f0 :: f1 :: f2 :: f3 :: f4 :: f5 :: f6 :: f7 :: f8 :: f9 :: f10 :: .blk g t cs :: l) w) : Blk w g t cs := h.2.2.2.2.2.2.2.2.2.2.2.1
theorem Fx.i11 (h : Fx (f0 :: f1 :: f2 :: f3 :: f4 :: f5 :: f6 :: f7 :: f8 :: f9 :: f10 :: .blk g t (intsA k zs) :: l) w) : BlkI w g t k zs := h.2.2.2.2.2.2.2.2.2.2.2.1
theorem Fx.r11 (h : Fx (f0 :: f1 :: f2 :: f3 :: f4 :: f5 :: f6 :: f7 :: f8 :: f9 :: f10 :: .rdb k B A n zs :: l) w) : Rd k w w.heap.size A n zs := h.2.2.2.2.2.2.2.2.2.2.2.1.1.mono h.2.2.2.2.2.2.2.2.2.2.2.1.2
theorem Fx.q11 (h : Fx (f0 :: f1 :: f2 :: f3 :: f4 :: f5 :: f6 :: f7 :: f8 :: f9 :: f10 :: .rdb k B A n zs :: l) w) : Rd k w B A n zs := h.2.2.2.2.2.2.2.2.2.2.2.1.1
theorem Fx.k11 {R : World → Prop} (h : Fx (f0 :: f1 :: f2 :: f3 :: f4 :: f5 :: f6 :: f7 :: f8 :: f9 :: f10 :: .kept B R :: l) w) : R w := h.2.2.2.2.2.2.2.2.2.2.2.1.1 _ (Below.refl _ _)
theorem Fx.s11 (h : Fx (f0 :: f1 :: f2 :: f3 :: f4 :: f5 :: f6 :: f7 :: f8 :: f9 :: f10 :: .rd k A n zs :: l) w) : Rd k w w.heap.size A n zs := h.2.2.2.2.2.2.2.2.2.2.2.1
theorem Fx.e11 (h : Fx (f0 :: f1 :: f2 :: f3 :: f4 :: f5 :: f6 :: f7 :: f8 :: f9 :: f10 :: .bel w0 :: l) w) : Below w0.heap.size w0 w := h.2.2.2.2.2.2.2.2.2.2.2.1
theorem Fx.b12 (h : Fx (f0 :: f1 :: f2 :: f3 :: f4 :: f5 :: f6 :: f7 :: f8 :: f9 :: f10 :: f11 :: .blk g t cs :: l) w) : Blk w g t cs := h.2.2.2.2.2.2.2.2.2.2.2.2.1
theorem Fx.i12 (h : Fx (f0 :: f1 :: f2 :: f3 :: f4 :: f5 :: f6 :: f7 :: f8 :: f9 :: f10 :: f11 :: .blk g t (intsA k zs) :: l) w) : BlkI w g t k zs := h.2.2.2.2.2.2.2.2.2.2.2.2.1
theorem Fx.r12 (h : Fx (f0 :: f1 :: f2 :: f3 :: f4 :: f5 :: f6 :: f7 :: f8 :: f9 :: f10 :: f11 :: .rdb k B A n zs :: l) w) : Rd k w w.heap.size A n zs := h.2.2.2.2.2.2.2.2.2.2.2.2.1.1.mono h.2.2.2.2.2.2.2.2.2.2.2.2.1.2
theorem Fx.q12 (h : Fx (f0 :: f1 :: f2 :: f3 :: f4 :: f5 :: f6 :: f7 :: f8 :: f9 :: f10 :: f11 :: .rdb k B A n zs :: l) w) : Rd k w B A n zs := h.2.2.2.2.2.2.2.2.2.2.2.2.1.1
theorem Fx.k12 {R : World → Prop} (h : Fx (f0 :: f1 :: f2 :: f3 :: f4 :: f5 :: f6 :: f7 :: f8 :: f9 :: f10 :: f11 :: .kept B R :: l) w) : R w := h.2.2.2.2.2.2.2.2.2.2.2.2.1.1 _ (Below.refl _ _)
theorem Fx.s12 (h : Fx (f0 :: f1 :: f2 :: f3 :: f4 :: f5 :: f6 :: f7 :: f8 :: f9 :: f10 :: f11 :: .rd k A n zs :: l) w) : Rd k w w.heap.size A n zs := h.2.2.2.2.2.2.2.2.2.2.2.2.1
theorem Fx.e12 (h : Fx (f0 :: f1 :: f2 :: f3 :: f4 :: f5 :: f6 :: f7 :: f8 :: f9 :: f10 :: f11 :: .bel w0 :: l) w) : Below w0.heap.size w0 w := h.2.2.2.2.2.2.2.2.2.2.2.2.1
theorem Fx.b13 (h : Fx (f0 :: f1 :: f2 :: f3 :: f4 :: f5 :: f6 :: f7 :: f8 :: f9 :: f10 :: f11 :: f12 :: .blk g t cs :: l) w) : Blk w g t cs := h.2.2.2.2.2.2.2.2.2.2.2.2.2.1
theorem Fx.i13 (h : Fx (f0 :: f1 :: f2 :: f3 :: f4 :: f5 :: f6 :: f7 :: f8 :: f9 :: f10 :: f11 :: f12 :: .blk g t (intsA k zs) :: l) w) : BlkI w g t k zs := h.2.2.2.2.2.2.2.2.2.2.2.2.2.1
theorem Fx.r13 (h : Fx (f0 :: f1 :: f2 :: f3 :: f4 :: f5 :: f6 :: f7 :: f8 :: f9 :: f10 :: f11 :: f12 :: .rdb k B A n zs :: l) w) : Rd k w w.heap.size A n zs := h.2.2.2.2.2.2.2.2.2.2.2.2.2.1.1.mono h.2.2.2.2.2.2.2.2.2.2.2.2.2.1.2
theorem Fx.q13 (h : Fx (f0 :: f1 :: f2 :: f3 :: f4 :: f5 :: f6 :: f7 :: f8 :: f9 :: f10 :: f11 :: f12 :: .rdb k B A n zs :: l) w) : Rd k w B A n zs := h.2.2.2.2.2.2.2.2.2.2.2.2.2.1.1
theorem Fx.k13 {R : World → Prop} (h : Fx (f0 :: f1 :: f2 :: f3 :: f4 :: f5 :: f6 :: f7 :: f8 :: f9 :: f10 :: f11 :: f12 :: .kept B R :: l) w) : R w := h.2.2.2.2.2.2.2.2.2.2.2.2.2.1.1 _ (Below.refl _ _)
theorem Fx.s13 (h : Fx (f0 :: f1 :: f2 :: f3 :: f4 :: f5 :: f6 :: f7 :: f8 :: f9 :: f10 :: f11 :: f12 :: .rd k A n zs :: l) w) : Rd k w w.heap.size A n zs := h.2.2.2.2.2.2.2.2.2.2.2.2.2.1
theorem Fx.e13 (h : Fx (f0 :: f1 :: f2 :: f3 :: f4 :: f5 :: f6 :: f7 :: f8 :: f9 :: f10 :: f11 :: f12 :: .bel w0 :: l) w) : Below w0.heap.size w0 w := h.2.2.2.2.2.2.2.2.2.2.2.2.2.1
theorem Fx.b14 (h : Fx (f0 :: f1 :: f2 :: f3 :: f4 :: f5 :: f6 :: f7 :: f8 :: f9 :: f10 :: f11 :: f12 :: f13 :: .blk g t cs :: l) w) : Blk w g t cs := h.2.2.2.2.2.2.2.2.2.2.2.2.2.2.1
theorem Fx.i14 (h : Fx (f0 :: f1 :: f2 :: f3 :: f4 :: f5 :: f6 :: f7 :: f8 :: f9 :: f10 :: f11 :: f12 :: f13 :: .blk g t (intsA k zs) :: l) w) : BlkI w g t k zs := h.2.2.2.2.2.2.2.2.2.2.2.2.2.2.1
theorem Fx.r14 (h : Fx (f0 :: f1 :: f2 :: f3 :: f4 :: f5 :: f6 :: f7 :: f8 :: f9 :: f10 :: f11 :: f12 :: f13 :: .rdb k B A n zs :: l) w) : Rd k w w.heap.size A n zs := h.2.2.2.2.2.2.2.2.2.2.2.2.2.2.1.1.mono h.2.2.2.2.2.2.2.2.2.2.2.2.2.2.1.2
theorem Fx.q14 (h : Fx (f0 :: f1 :: f2 :: f3 :: f4 :: f5 :: f6 :: f7 :: f8 :: f9 :: f10 :: f11 :: f12 :: f13 :: .rdb k B A n zs :: l) w) : Rd k w B A n zs := h.2.2.2.2.2.2.2.2.2.2.2.2.2.2.1.1
theorem Fx.k14 {R : World → Prop} (h : Fx (f0 :: f1 :: f2 :: f3 :: f4 :: f5 :: f6 :: f7 :: f8 :: f9 :: f10 :: f11 :: f12 :: f13 :: .kept B R :: l) w) : R w := h.2.2.2.2.2.2.2.2.2.2.2.2.2.2.1.1 _ (Below.refl _ _)
theorem Fx.s14 (h : Fx (f0 :: f1 :: f2 :: f3 :: f4 :: f5 :: f6 :: f7 :: f8 :: f9 :: f10 :: f11 :: f12 :: f13 :: .rd k A n zs :: l) w) : Rd k w w.heap.size A n zs := h.2.2.2.2.2.2.2.2.2.2.2.2.2.2.1
theorem Fx.e14 (h : Fx (f0 :: f1 :: f2 :: f3 :: f4 :: f5 :: f6 :: f7 :: f8 :: f9 :: f10 :: f11 :: f12 :: f13 :: .bel w0 :: l) w) : Below w0.heap.size w0 w := h.2.2.2.2.2.2.2.2.2.2.2.2.2.2.1
theorem Fx.b15 (h : Fx (f0 :: f1 :: f2 :: f3 :: f4 :: f5 :: f6 :: f7 :: f8 :: f9 :: f10 :: f11 :: f12 :: f13 :: f14 :: .blk g t cs :: l) w) : Blk w g t cs := h.2.2.2.2.2.2.2.2.2.2.2.2.2.2.2.1
theorem Fx.i15 (h : Fx (f0 :: f1 :: f2 :: f3 :: f4 :: f5 :: f6 :: f7 :: f8 :: f9 :: f10 :: f11 :: f12 :: f13 :: f14 :: .blk g t (intsA k zs) :: l) w) : BlkI w g t k zs := h.2.2.2.2.2.2.2.2.2.2.2.2.2.2.2.1
theorem Fx.r15 (h : Fx (f0 :: f1 :: f2 :: f3 :: f4 :: f5 :: f6 :: f7 :: f8 :: f9 :: f10 :: f11 :: f12 :: f13 :: f14 :: .rdb k B A n zs :: l) w) : Rd k w w.heap.size A n zs := h.2.2.2.2.2.2.2.2.2.2.2.2.2.2.2.1.1.mono h.2.2.2.2.2.2.2.2.2.2.2.2.2.2.2.1.2
theorem Fx.q15 (h : Fx (f0 :: f1 :: f2 :: f3 :: f4 :: f5 :: f6 :: f7 :: f8 :: f9 :: f10 :: f11 :: f12 :: f13 :: f14 :: .rdb k B A n zs :: l) w) : Rd k w B A n zs := h.2.2.2.2.2.2.2.2.2.2.2.2.2.2.2.1.1
theorem Fx.k15 {R : World → Prop} (h : Fx (f0 :: f1 :: f2 :: f3 :: f4 :: f5 :: f6 :: f7 :: f8 :: f9 :: f10 :: f11 :: f12 :: f13 :: f14 :: .kept B R :: l) w) : R w := h.2.2.2.2.2.2.2.2.2.2.2.2.2.2.2.1.1 _ (Below.refl _ _)
theorem Fx.s15 (h : Fx (f0 :: f1 :: f2 :: f3 :: f4 :: f5 :: f6 :: f7 :: f8 :: f9 :: f10 :: f11 :: f12 :: f13 :: f14 :: .rd k A n zs :: l) w) : Rd k w w.heap.size A n zs := h.2.2.2.2.2.2.2.2.2.2.2.2.2.2.2.1
theorem Fx.e15 (h : Fx (f0 :: f1 :: f2 :: f3 :: f4 :: f5 :: f6 :: f7 :: f8 :: f9 :: f10 :: f11 :: f12 :: f13 :: f14 :: .bel w0 :: l) w) : Below w0.heap.size w0 w := h.2.2.2.2.2.2.2.2.2.2.2.2.2.2.2.1
theorem Fx.b16 (h : Fx (f0 :: f1 :: f2 :: f3 :: f4 :: f5 :: f6 :: f7 :: f8 :: f9 :: f10 :: f11 :: f12 :: f13 :: f14 :: f15 :: .blk g t cs :: l) w) : Blk w g t cs := h.2.2.2.2.2.2.2.2.2.2.2.2.2.2.2.2.1
theorem Fx.i16 (h : Fx (f0 :: f1 :: f2 :: f3 :: f4 :: f5 :: f6 :: f7 :: f8 :: f9 :: f10 :: f11 :: f12 :: f13 :: f14 :: f15 :: .blk g t (intsA k zs) :: l) w) : BlkI w g t k zs := h.2.2.2.2.2.2.2.2.2.2.2.2.2.2.2.2.1
theorem Fx.r16 (h : Fx (f0 :: f1 :: f2 :: f3 :: f4 :: f5 :: f6 :: f7 :: f8 :: f9 :: f10 :: f11 :: f12 :: f13 :: f14 :: f15 :: .rdb k B A n zs :: l) w) : Rd k w w.heap.size A n zs := h.2.2.2.2.2.2.2.2.2.2.2.2.2.2.2.2.1.1.mono h.2.2.2.2.2.2.2.2.2.2.2.2.2.2.2.2.1.2
theorem Fx.q16 (h : Fx (f0 :: f1 :: f2 :: f3 :: f4 :: f5 :: f6 :: f7 :: f8 :: f9 :: f10 :: f11 :: f12 :: f13 :: f14 :: f15 :: .rdb k B A n zs :: l) w) : Rd k w B A n zs := h.2.2.2.2.2.2.2.2.2.2.2.2.2.2.2.2.1.1
theorem Fx.k16 {R : World → Prop} (h : Fx (f0 :: f1 :: f2 :: f3 :: f4 :: f5 :: f6 :: f7 :: f8 :: f9 :: f10 :: f11 :: f12 :: f13 :: f14 :: f15 :: .kept B R :: l) w) : R w := h.2.2.2.2.2.2.2.2.2.2.2.2.2.2.2.2.1.1 _ (Below.refl _ _)
theorem Fx.e16 (h : Fx (f0 :: f1 :: f2 :: f3 :: f4 :: f5 :: f6 :: f7 :: f8 :: f9 :: f10 :: f11 :: f12 :: f13 :: f14 :: f15 :: .bel w0 :: l) w) : Below w0.heap.size w0 w := h.2.2.2.2.2.2.2.2.2.2.2.2.2.2.2.2.1
theorem Fx.b17 (h : Fx (f0 :: f1 :: f2 :: f3 :: f4 :: f5 :: f6 :: f7 :: f8 :: f9 :: f10 :: f11 :: f12 :: f13 :: f14 :: f15 :: f16 :: .blk g t cs :: l) w) : Blk w g t cs := h.2.2.2.2.2.2.2.2.2.2.2.2.2.2.2.2.2.1
theorem Fx.i17 (h : Fx (f0 :: f1 :: f2 :: f3 :: f4 :: f5 :: f6 :: f7 :: f8 :: f9 :: f10 :: f11 :: f12 :: f13 :: f14 :: f15 :: f16 :: .blk g t (intsA k zs) :: l) w) : BlkI w g t k zs := h.2.2.2.2.2.2.2.2.2.2.2.2.2.2.2.2.2.1
theorem Fx.r17 (h : Fx (f0 :: f1 :: f2 :: f3 :: f4 :: f5 :: f6 :: f7 :: f8 :: f9 :: f10 :: f11 :: f12 :: f13 :: f14 :: f15 :: f16 :: .rdb k B A n zs :: l) w) : Rd k w w.heap.size A n zs := h.2.2.2.2.2.2.2.2.2.2.2.2.2.2.2.2.2.1.1.mono h.2.2.2.2.2.2.2.2.2.2.2.2.2.2.2.2.2.1.2
theorem Fx.q17 (h : Fx (f0 :: f1 :: f2 :: f3 :: f4 :: f5 :: f6 :: f7 :: f8 :: f9 :: f10 :: f11 :: f12 :: f13 :: f14 :: f15 :: f16 :: .rdb k B A n zs :: l) w) : Rd k w B A n zs := h.2.2.2.2.2.2.2.2.2.2.2.2.2.2.2.2.2.1.1
theorem Fx.k17 {R : World → Prop} (h : Fx (f0 :: f1 :: f2 :: f3 :: f4 :: f5 :: f6 :: f7 :: f8 :: f9 :: f10 :: f11 :: f12 :: f13 :: f14 :: f15 :: f16 :: .kept B R :: l) w) : R w := h.2.2.2.2.2.2.2.2.2.2.2.2.2.2.2.2.2.1.1 _ (Below.refl _ _)
theorem Fx.e17 (h : Fx (f0 :: f1 :: f2 :: f3 :: f4 :: f5 :: f6 :: f7 :: f8 :: f9 :: f10 :: f11 :: f12 :: f13 :: f14 :: f15 :: f16 :: .bel w0 :: l) w) : Below w0.heap.size w0 w := h.2.2.2.2.2.2.2.2.2.2.2.2.2.2.2.2.2.1
theorem Fx.b18 (h : Fx (f0 :: f1 :: f2 :: f3 :: f4 :: f5 :: f6 :: f7 :: f8 :: f9 :: f10 :: f11 :: f12 :: f13 :: f14 :: f15 :: f16 :: f17 :: .blk g t cs :: l) w) : Blk w g t cs := h.2.2.2.2.2.2.2.2.2.2.2.2.2.2.2.2.2.2.1
theorem Fx.i18 (h : Fx (f0 :: f1 :: f2 :: f3 :: f4 :: f5 :: f6 :: f7 :: f8 :: f9 :: f10 :: f11 :: f12 :: f13 :: f14 :: f15 :: f16 :: f17 :: .blk g t (intsA k zs) :: l) w) : BlkI w g t k zs := h.2.2.2.2.2.2.2.2.2.2.2.2.2.2.2.2.2.2.1
theorem Fx.r18 (h : Fx (f0 :: f1 :: f2 :: f3 :: f4 :: f5 :: f6 :: f7 :: f8 :: f9 :: f10 :: f11 :: f12 :: f13 :: f14 :: f15 :: f16 :: f17 :: .rdb k B A n zs :: l) w) : Rd k w w.heap.size A n zs := h.2.2.2.2.2.2.2.2.2.2.2.2.2.2.2.2.2.2.1.1.mono h.2.2.2.2.2.2.2.2.2.2.2.2.2.2.2.2.2.2.1.2
theorem Fx.q18 (h : Fx (f0 :: f1 :: f2 :: f3 :: f4 :: f5 :: f6 :: f7 :: f8 :: f9 :: f10 :: f11 :: f12 :: f13 :: f14 :: f15 :: f16 :: f17 :: .rdb k B A n zs :: l) w) : Rd k w B A n zs := h.2.2.2.2.2.2.2.2.2.2.2.2.2.2.2.2.2.2.1.1
theorem Fx.k18 {R : World → Prop} (h : Fx (f0 :: f1 :: f2 :: f3 :: f4 :: f5 :: f6 :: f7 :: f8 :: f9 :: f10 :: f11 :: f12 :: f13 :: f14 :: f15 :: f16 :: f17 :: .kept B R :: l) w) : R w := h.2.2.2.2.2.2.2.2.2.2.2.2.2.2.2.2.2.2.1.1 _ (Below.refl _ _)
theorem Fx.e18 (h : Fx (f0 :: f1 :: f2 :: f3 :: f4 :: f5 :: f6 :: f7 :: f8 :: f9 :: f10 :: f11 :: f12 :: f13 :: f14 :: f15 :: f16 :: f17 :: .bel w0 :: l) w) : Below w0.heap.size w0 w := h.2.2.2.2.2.2.2.2.2.2.2.2.2.2.2.2.2.2.1
theorem Fx.b19 (h : Fx (f0 :: f1 :: f2 :: f3 :: f4 :: f5 :: f6 :: f7 :: f8 :: f9 :: f10 :: f11 :: f12 :: f13 :: f14 :: f15 :: f16 :: f17 :: f18 :: .blk g t cs :: l) w) : Blk w g t cs := h.2.2.2.2.2.2.2.2.2.2.2.2.2.2.2.2.2.2.2.1
theorem Fx.i19 (h : Fx (f0 :: f1 :: f2 :: f3 :: f4 :: f5 :: f6 :: f7 :: f8 :: f9 :: f10 :: f11 :: f12 :: f13 :: f14 :: f15 :: f16 :: f17 :: f18 :: .blk g t (intsA k zs) :: l) w) : BlkI w g t k zs := h.2.2.2.2.2.2.2.2.2.2.2.2.2.2.2.2.2.2.2.1
theorem Fx.r19 (h : Fx (f0 :: f1 :: f2 :: f3 :: f4 :: f5 :: f6 :: f7 :: f8 :: f9 :: f10 :: f11 :: f12 :: f13 :: f14 :: f15 :: f16 :: f17 :: f18 :: .rdb k B A n zs :: l) w) : Rd k w w.heap.size A n zs := h.2.2.2.2.2.2.2.2.2.2.2.2.2.2.2.2.2.2.2.1.1.mono h.2.2.2.2.2.2.2.2.2.2.2.2.2.2.2.2.2.2.2.1.2
theorem Fx.q19 (h : Fx (f0 :: f1 :: f2 :: f3 :: f4 :: f5 :: f6 :: f7 :: f8 :: f9 :: f10 :: f11 :: f12 :: f13 :: f14 :: f15 :: f16 :: f17 :: f18 :: .rdb k B A n zs :: l) w) : Rd k w B A n zs := h.2.2.2.2.2.2.2.2.2.2.2.2.2.2.2.2.2.2.2.1.1
theorem Fx.k19 {R : World → Prop} (h : Fx (f0 :: f1 :: f2 :: f3 :: f4 :: f5 :: f6 :: f7 :: f8 :: f9 :: f10 :: f11 :: f12 :: f13 :: f14 :: f15 :: f16 :: f17 :: f18 :: .kept B R :: l) w) : R w := h.2.2.2.2.2.2.2.2.2.2.2.2.2.2.2.2.2.2.2.1.1 _ (Below.refl _ _)
theorem Fx.e19 (h : Fx (f0 :: f1 :: f2 :: f3 :: f4 :: f5 :: f6 :: f7 :: f8 :: f9 :: f10 :: f11 :: f12 :: f13 :: f14 :: f15 :: f16 :: f17 :: f18 :: .bel w0 :: l) w) : Below w0.heap.size w0 w := h.2.2.2.2.2.2.2.2.2.2.2.2.2.2.2.2.2.2.2.1
theorem Fx.b20 (h : Fx (f0 :: f1 :: f2 :: f3 :: f4 :: f5 :: f6 :: f7 :: f8 :: f9 :: f10 :: f11 :: f12 :: f13 :: f14 :: f15 :: f16 :: f17 :: f18 :: f19 :: .blk g t cs :: l) w) : Blk w g t cs := h.2.2.2.2.2.2.2.2.2.2.2.2.2.2.2.2.2.2.2.2.1
theorem Fx.i20 (h : Fx (f0 :: f1 :: f2 :: f3 :: f4 :: f5 :: f6 :: f7 :: f8 :: f9 :: f10 :: f11 :: f12 :: f13 :: f14 :: f15 :: f16 :: f17 :: f18 :: f19 :: .blk g t (intsA k zs) :: l) w) : BlkI w g t k zs := h.2.2.2.2.2.2.2.2.2.2.2.2.2.2.2.2.2.2.2.2.1
theorem Fx.r20 (h : Fx (f0 :: f1 :: f2 :: f3 :: f4 :: f5 :: f6 :: f7 :: f8 :: f9 :: f10 :: f11 :: f12 :: f13 :: f14 :: f15 :: f16 :: f17 :: f18 :: f19 :: .rdb k B A n zs :: l) w) : Rd k w w.heap.size A n zs := h.2.2.2.2.2.2.2.2.2.2.2.2.2.2.2.2.2.2.2.2.1.1.mono h.2.2.2.2.2.2.2.2.2.2.2.2.2.2.2.2.2.2.2.2.1.2
theorem Fx.q20 (h : Fx (f0 :: f1 :: f2 :: f3 :: f4 :: f5 :: f6 :: f7 :: f8 :: f9 :: f10 :: f11 :: f12 :: f13 :: f14 :: f15 :: f16 :: f17 :: f18 :: f19 :: .rdb k B A n zs :: l) w) : Rd k w B A n zs := h.2.2.2.2.2.2.2.2.2.2.2.2.2.2.2.2.2.2.2.2.1.1
theorem Fx.k20 {R : World → Prop} (h : Fx (f0 :: f1 :: f2 :: f3 :: f4 :: f5 :: f6 :: f7 :: f8 :: f9 :: f10 :: f11 :: f12 :: f13 :: f14 :: f15 :: f16 :: f17 :: f18 :: f19 :: .kept B R :: l) w) : R w := h.2.2.2.2.2.2.2.2.2.2.2.2.2.2.2.2.2.2.2.2.1.1 _ (Below.refl _ _)
theorem Fx.e20 (h : Fx (f0 :: f1 :: f2 :: f3 :: f4 :: f5 :: f6 :: f7 :: f8 :: f9 :: f10 :: f11 :: f12 :: f13 :: f14 :: f15 :: f16 :: f17 :: f18 :: f19 :: .bel w0 :: l) w) : Below w0.heap.size w0 w := h.2.2.2.2.2.2.2.2.2.2.2.2.2.2.2.2.2.2.2.2.1
theorem Fx.b21 (h : Fx (f0 :: f1 :: f2 :: f3 :: f4 :: f5 :: f6 :: f7 :: f8 :: f9 :: f10 :: f11 :: f12 :: f13 :: f14 :: f15 :: f16 :: f17 :: f18 :: f19 :: f20 :: .blk g t cs :: l) w) : Blk w g t cs := h.2.2.2.2.2.2.2.2.2.2.2.2.2.2.2.2.2.2.2.2.2.1
theorem Fx.i21 (h : Fx (f0 :: f1 :: f2 :: f3 :: f4 :: f5 :: f6 :: f7 :: f8 :: f9 :: f10 :: f11 :: f12 :: f13 :: f14 :: f15 :: f16 :: f17 :: f18 :: f19 :: f20 :: .blk g t (intsA k zs) :: l) w) : BlkI w g t k zs := h.2.2.2.2.2.2.2.2.2.2.2.2.2.2.2.2.2.2.2.2.2.1
theorem Fx.r21 (h : Fx (f0 :: f1 :: f2 :: f3 :: f4 :: f5 :: f6 :: f7 :: f8 :: f9 :: f10 :: f11 :: f12 :: f13 :: f14 :: f15 :: f16 :: f17 :: f18 :: f19 :: f20 :: .rdb k B A n zs :: l) w) : Rd k w w.heap.size A n zs := h.2.2.2.2.2.2.2.2.2.2.2.2.2.2.2.2.2.2.2.2.2.1.1.mono h.2.2.2.2.2.2.2.2.2.2.2.2.2.2.2.2.2.2.2.2.2.1.2
theorem Fx.q21 (h : Fx (f0 :: f1 :: f2 :: f3 :: f4 :: f5 :: f6 :: f7 :: f8 :: f9 :: f10 :: f11 :: f12 :: f13 :: f14 :: f15 :: f16 :: f17 :: f18 :: f19 :: f20 :: .rdb k B A n zs :: l) w) : Rd k w B A n zs := h.2.2.2.2.2.2.2.2.2.2.2.2.2.2.2.2.2.2.2.2.2.1.1
theorem Fx.k21 {R : World → Prop} (h : Fx (f0 :: f1 :: f2 :: f3 :: f4 :: f5 :: f6 :: f7 :: f8 :: f9 :: f10 :: f11 :: f12 :: f13 :: f14 :: f15 :: f16 :: f17 :: f18 :: f19 :: f20 :: .kept B R :: l) w) : R w := h.2.2.2.2.2.2.2.2.2.2.2.2.2.2.2.2.2.2.2.2.2.1.1 _ (Below.refl _ _)
theorem Fx.e21 (h : Fx (f0 :: f1 :: f2 :: f3 :: f4 :: f5 :: f6 :: f7 :: f8 :: f9 :: f10 :: f11 :: f12 :: f13 :: f14 :: f15 :: f16 :: f17 :: f18 :: f19 :: f20 :: .bel w0 :: l) w) : Below w0.heap.size w0 w := h.2.2.2.2.2.2.2.2.2.2.2.2.2.2.2.2.2.2.2.2.2.1
theorem Fx.b22 (h : Fx (f0 :: f1 :: f2 :: f3 :: f4 :: f5 :: f6 :: f7 :: f8 :: f9 :: f10 :: f11 :: f12 :: f13 :: f14 :: f15 :: f16 :: f17 :: f18 :: f19 :: f20 :: f21 :: .blk g t cs :: l) w) : Blk w g t cs := h.2.2.2.2.2.2.2.2.2.2.2.2.2.2.2.2.2.2.2.2.2.2.1
theorem Fx.i22 (h : Fx (f0 :: f1 :: f2 :: f3 :: f4 :: f5 :: f6 :: f7 :: f8 :: f9 :: f10 :: f11 :: f12 :: f13 :: f14 :: f15 :: f16 :: f17 :: f18 :: f19 :: f20 :: f21 :: .blk g t (intsA k zs) :: l) w) : BlkI w g t k zs := h.2.2.2.2.2.2.2.2.2.2.2.2.2.2.2.2.2.2.2.2.2.2.1
theorem Fx.r22 (h : Fx (f0 :: f1 :: f2 :: f3 :: f4 :: f5 :: f6 :: f7 :: f8 :: f9 :: f10 :: f11 :: f12 :: f13 :: f14 :: f15 :: f16 :: f17 :: f18 :: f19 :: f20 :: f21 :: .rdb k B A n zs :: l) w) : Rd k w w.heap.size A n zs := h.2.2.2.2.2.2.2.2.2.2.2.2.2.2.2.2.2.2.2.2.2.2.1.1.mono h.2.2.2.2.2.2.2.2.2.2.2.2.2.2.2.2.2.2.2.2.2.2.1.2
theorem Fx.q22 (h : Fx (f0 :: f1 :: f2 :: f3 :: f4 :: f5 :: f6 :: f7 :: f8 :: f9 :: f10 :: f11 :: f12 :: f13 :: f14 :: f15 :: f16 :: f17 :: f18 :: f19 :: f20 :: f21 :: .rdb k B A n zs :: l) w) : Rd k w B A n zs := h.2.2.2.2.2.2.2.2.2.2.2.2.2.2.2.2.2.2.2.2.2.2.1.1
theorem Fx.k22 {R : World → Prop} (h : Fx (f0 :: f1 :: f2 :: f3 :: f4 :: f5 :: f6 :: f7 :: f8 :: f9 :: f10 :: f11 :: f12 :: f13 :: f14 :: f15 :: f16 :: f17 :: f18 :: f19 :: f20 :: f21 :: .kept B R :: l) w) : R w := h.2.2.2.2.2.2.2.2.2.2.2.2.2.2.2.2.2.2.2.2.2.2.1.1 _ (Below.refl _ _)
theorem Fx.e22 (h : Fx (f0 :: f1 :: f2 :: f3 :: f4 :: f5 :: f6 :: f7 :: f8 :: f9 :: f10 :: f11 :: f12 :: f13 :: f14 :: f15 :: f16 :: f17 :: f18 :: f19 :: f20 :: f21 :: .bel w0 :: l) w) : Below w0.heap.size w0 w := h.2.2.2.2.2.2.2.2.2.2.2.2.2.2.2.2.2.2.2.2.2.2.1
theorem Fx.b23 (h : Fx (f0 :: f1 :: f2 :: f3 :: f4 :: f5 :: f6 :: f7 :: f8 :: f9 :: f10 :: f11 :: f12 :: f13 :: f14 :: f15 :: f16 :: f17 :: f18 :: f19 :: f20 :: f21 :: f22 :: .blk g t cs :: l) w) : Blk w g t cs := h.2.2.2.2.2.2.2.2.2.2.2.2.2.2.2.2.2.2.2.2.2.2.2.1
theorem Fx.i23 (h : Fx (f0 :: f1 :: f2 :: f3 :: f4 :: f5 :: f6 :: f7 :: f8 :: f9 :: f10 :: f11 :: f12 :: f13 :: f14 :: f15 :: f16 :: f17 :: f18 :: f19 :: f20 :: f21 :: f22 :: .blk g t (intsA k zs) :: l) w) : BlkI w g t k zs := h.2.2.2.2.2.2.2.2.2.2.2.2.2.2.2.2.2.2.2.2.2.2.2.1
theorem Fx.r23 (h : Fx (f0 :: f1 :: f2 :: f3 :: f4 :: f5 :: f6 :: f7 :: f8 :: f9 :: f10 :: f11 :: f12 :: f13 :: f14 :: f15 :: f16 :: f17 :: f18 :: f19 :: f20 :: f21 :: f22 :: .rdb k B A n zs :: l) w) : Rd k w w.heap.size A n zs := h.2.2.2.2.2.2.2.2.2.2.2.2.2.2.2.2.2.2.2.2.2.2.2.1.1.mono h.2.2.2.2.2.2.2.2.2.2.2.2.2.2.2.2.2.2.2.2.2.2.2.1.2
theorem Fx.q23 (h : Fx (f0 :: f1 :: f2 :: f3 :: f4 :: f5 :: f6 :: f7 :: f8 :: f9 :: f10 :: f11 :: f12 :: f13 :: f14 :: f15 :: f16 :: f17 :: f18 :: f19 :: f20 :: f21 :: f22 :: .rdb k B A n zs :: l) w) : Rd k w B A n zs := h.2.2.2.2.2.2.2.2.2.2.2.2.2.2.2.2.2.2.2.2.2.2.2.1.1
theorem Fx.k23 {R : World → Prop} (h : Fx (f0 :: f1 :: f2 :: f3 :: f4 :: f5 :: f6 :: f7 :: f8 :: f9 :: f10 :: f11 :: f12 :: f13 :: f14 :: f15 :: f16 :: f17 :: f18 :: f19 :: f20 :: f21 :: f22 :: .kept B R :: l) w) : R w := h.2.2.2.2.2.2.2.2.2.2.2.2.2.2.2.2.2.2.2.2.2.2.2.1.1 _ (Below.refl _ _)
theorem Fx.e23 (h : Fx (f0 :: f1 :: f2 :: f3 :: f4 :: f5 :: f6 :: f7 :: f8 :: f9 :: f10 :: f11 :: f12 :: f13 :: f14 :: f15 :: f16 :: f17 :: f18 :: f19 :: f20 :: f21 :: f22 :: .bel w0 :: l) w) : Below w0.heap.size w0 w := h.2.2.2.2.2.2.2.2.2.2.2.2.2.2.2.2.2.2.2.2.2.2.2.1
theorem Fx.b24 (h : Fx (f0 :: f1 :: f2 :: f3 :: f4 :: f5 :: f6 :: f7 :: f8 :: f9 :: f10 :: f11 :: f12 :: f13 :: f14 :: f15 :: f16 :: f17 :: f18 :: f19 :: f20 :: f21 :: f22 :: f23 :: .blk g t cs :: l) w) : Blk w g t cs := h.2.2.2.2.2.2.2.2.2.2.2.2.2.2.2.2.2.2.2.2.2.2.2.2.1
theorem Fx.i24 (h : Fx (f0 :: f1 :: f2 :: f3 :: f4 :: f5 :: f6 :: f7 :: f8 :: f9 :: f10 :: f11 :: f12 :: f13 :: f14 :: f15 :: f16 :: f17 :: f18 :: f19 :: f20 :: f21 :: f22 :: f23 :: .blk g t (intsA k zs) :: l) w) : BlkI w g t k zs := h.2.2.2.2.2.2.2.2.2.2.2.2.2.2.2.2.2.2.2.2.2.2.2.2.1
theorem Fx.r24 (h : Fx (f0 :: f1 :: f2 :: f3 :: f4 :: f5 :: f6 :: f7 :: f8 :: f9 :: f10 :: f11 :: f12 :: f13 :: f14 :: f15 :: f16 :: f17 :: f18 :: f19 :: f20 :: f21 :: f22 :: f23 :: .rdb k B A n zs :: l) w) : Rd k w w.heap.size A n zs := h.2.2.2.2.2.2.2.2.2.2.2.2.2.2.2.2.2.2.2.2.2.2.2.2.1.1.mono h.2.2.2.2.2.2.2.2.2.2.2.2.2.2.2.2.2.2.2.2.2.2.2.2.1.2
theorem Fx.q24 (h : Fx (f0 :: f1 :: f2 :: f3 :: f4 :: f5 :: f6 :: f7 :: f8 :: f9 :: f10 :: f11 :: f12 :: f13 :: f14 :: f15 :: f16 :: f17 :: f18 :: f19 :: f20 :: f21 :: f22 :: f23 :: .rdb k B A n zs :: l) w) : Rd k w B A n zs := h.2.2.2.2.2.2.2.2.2.2.2.2.2.2.2.2.2.2.2.2.2.2.2.2.1.1
theorem Fx.k24 {R : World → Prop} (h : Fx (f0 :: f1 :: f2 :: f3 :: f4 :: f5 :: f6 :: f7 :: f8 :: f9 :: f10 :: f11 :: f12 :: f13 :: f14 :: f15 :: f16 :: f17 :: f18 :: f19 :: f20 :: f21 :: f22 :: f23 :: .kept B R :: l) w) : R w := h.2.2.2.2.2.2.2.2.2.2.2.2.2.2.2.2.2.2.2.2.2.2.2.2.1.1 _ (Below.refl _ _)
theorem Fx.e24 (h : Fx (f0 :: f1 :: f2 :: f3 :: f4 :: f5 :: f6 :: f7 :: f8 :: f9 :: f10 :: f11 :: f12 :: f13 :: f14 :: f15 :: f16 :: f17 :: f18 :: f19 :: f20 :: f21 :: f22 :: f23 :: .bel w0 :: l) w) : Below w0.heap.size w0 w := h.2.2.2.2.2.2.2.2.2.2.2.2.2.2.2.2.2.2.2.2.2.2.2.2.1
theorem Fx.b25 (h : Fx (f0 :: f1 :: f2 :: f3 :: f4 :: f5 :: f6 :: f7 :: f8 :: f9 :: f10 :: f11 :: f12 :: f13 :: f14 :: f15 :: f16 :: f17 :: f18 :: f19 :: f20 :: f21 :: f22 :: f23 :: f24 :: .blk g t cs :: l) w) : Blk w g t cs := h.2.2.2.2.2.2.2.2.2.2.2.2.2.2.2.2.2.2.2.2.2.2.2.2.2.1
theorem Fx.i25 (h : Fx (f0 :: f1 :: f2 :: f3 :: f4 :: f5 :: f6 :: f7 :: f8 :: f9 :: f10 :: f11 :: f12 :: f13 :: f14 :: f15 :: f16 :: f17 :: f18 :: f19 :: f20 :: f21 :: f22 :: f23 :: f24 :: .blk g t (intsA k zs) :: l) w) : BlkI w g t k zs := h.2.2.2.2.2.2.2.2.2.2.2.2.2.2.2.2.2.2.2.2.2.2.2.2.2.1
theorem Fx.r25 (h : Fx (f0 :: f1 :: f2 :: f3 :: f4 :: f5 :: f6 :: f7 :: f8 :: f9 :: f10 :: f11 :: f12 :: f13 :: f14 :: f15 :: f16 :: f17 :: f18 :: f19 :: f20 :: f21 :: f22 :: f23 :: f24 :: .rdb k B A n zs :: l) w) : Rd k w w.heap.size A n zs := h.2.2.2.2.2.2.2.2.2.2.2.2.2.2.2.2.2.2.2.2.2.2.2.2.2.1.1.mono h.2.2.2.2.2.2.2.2.2.2.2.2.2.2.2.2.2.2.2.2.2.2.2.2.2.1.2
theorem Fx.q25 (h : Fx (f0 :: f1 :: f2 :: f3 :: f4 :: f5 :: f6 :: f7 :: f8 :: f9 :: f10 :: f11 :: f12 :: f13 :: f14 :: f15 :: f16 :: f17 :: f18 :: f19 :: f20 :: f21 :: f22 :: f23 :: f24 :: .rdb k B A n zs :: l) w) : Rd k w B A n zs := h.2.2.2.2.2.2.2.2.2.2.2.2.2.2.2.2.2.2.2.2.2.2.2.2.2.1.1
theorem Fx.k25 {R : World → Prop} (h : Fx (f0 :: f1 :: f2 :: f3 :: f4 :: f5 :: f6 :: f7 :: f8 :: f9 :: f10 :: f11 :: f12 :: f13 :: f14 :: f15 :: f16 :: f17 :: f18 :: f19 :: f20 :: f21 :: f22 :: f23 :: f24 :: .kept B R :: l) w) : R w := h.2.2.2.2.2.2.2.2.2.2.2.2.2.2.2.2.2.2.2.2.2.2.2.2.2.1.1 _ (Below.refl _ _)
theorem Fx.e25 (h : Fx (f0 :: f1 :: f2 :: f3 :: f4 :: f5 :: f6 :: f7 :: f8 :: f9 :: f10 :: f11 :: f12 :: f13 :: f14 :: f15 :: f16 :: f17 :: f18 :: f19 :: f20 :: f21 :: f22 :: f23 :: f24 :: .bel w0 :: l) w) : Below w0.heap.size w0 w := h.2.2.2.2.2.2.2.2.2.2.2.2.2.2.2.2.2.2.2.2.2.2.2.2.2.1
theorem Fx.b26 (h : Fx (f0 :: f1 :: f2 :: f3 :: f4 :: f5 :: f6 :: f7 :: f8 :: f9 :: f10 :: f11 :: f12 :: f13 :: f14 :: f15 :: f16 :: f17 :: f18 :: f19 :: f20 :: f21 :: f22 :: f23 :: f24 :: f25 :: .blk g t cs :: l) w) : Blk w g t cs := h.2.2.2.2.2.2.2.2.2.2.2.2.2.2.2.2.2.2.2.2.2.2.2.2.2.2.1
theorem Fx.i26 (h : Fx (f0 :: f1 :: f2 :: f3 :: f4 :: f5 :: f6 :: f7 :: f8 :: f9 :: f10 :: f11 :: f12 :: f13 :: f14 :: f15 :: f16 :: f17 :: f18 :: f19 :: f20 :: f21 :: f22 :: f23 :: f24 :: f25 :: .blk g t (intsA k zs) :: l) w) : BlkI w g t k zs := h.2.2.2.2.2.2.2.2.2.2.2.2.2.2.2.2.2.2.2.2.2.2.2.2.2.2.1
theorem Fx.r26 (h : Fx (f0 :: f1 :: f2 :: f3 :: f4 :: f5 :: f6 :: f7 :: f8 :: f9 :: f10 :: f11 :: f12 :: f13 :: f14 :: f15 :: f16 :: f17 :: f18 :: f19 :: f20 :: f21 :: f22 :: f23 :: f24 :: f25 :: .rdb k B A n zs :: l) w) : Rd k w w.heap.size A n zs := h.2.2.2.2.2.2.2.2.2.2.2.2.2.2.2.2.2.2.2.2.2.2.2.2.2.2.1.1.mono h.2.2.2.2.2.2.2.2.2.2.2.2.2.2.2.2.2.2.2.2.2.2.2.2.2.2.1.2
theorem Fx.q26 (h : Fx (f0 :: f1 :: f2 :: f3 :: f4 :: f5 :: f6 :: f7 :: f8 :: f9 :: f10 :: f11 :: f12 :: f13 :: f14 :: f15 :: f16 :: f17 :: f18 :: f19 :: f20 :: f21 :: f22 :: f23 :: f24 :: f25 :: .rdb k B A n zs :: l) w) : Rd k w B A n zs := h.2.2.2.2.2.2.2.2.2.2.2.2.2.2.2.2.2.2.2.2.2.2.2.2.2.2.1.1
theorem Fx.k26 {R : World → Prop} (h : Fx (f0 :: f1 :: f2 :: f3 :: f4 :: f5 :: f6 :: f7 :: f8 :: f9 :: f10 :: f11 :: f12 :: f13 :: f14 :: f15 :: f16 :: f17 :: f18 :: f19 :: f20 :: f21 :: f22 :: f23 :: f24 :: f25 :: .kept B R :: l) w) : R w := h.2.2.2.2.2.2.2.2.2.2.2.2.2.2.2.2.2.2.2.2.2.2.2.2.2.2.1.1 _ (Below.refl _ _)
theorem Fx.e26 (h : Fx (f0 :: f1 :: f2 :: f3 :: f4 :: f5 :: f6 :: f7 :: f8 :: f9 :: f10 :: f11 :: f12 :: f13 :: f14 :: f15 :: f16 :: f17 :: f18 :: f19 :: f20 :: f21 :: f22 :: f23 :: f24 :: f25 :: .bel w0 :: l) w) : Below w0.heap.size w0 w := h.2.2.2.2.2.2.2.2.2.2.2.2.2.2.2.2.2.2.2.2.2.2.2.2.2.2.1
theorem Fx.b27 (h : Fx (f0 :: f1 :: f2 :: f3 :: f4 :: f5 :: f6 :: f7 :: f8 :: f9 :: f10 :: f11 :: f12 :: f13 :: f14 :: f15 :: f16 :: f17 :: f18 :: f19 :: f20 :: f21 :: f22 :: f23 :: f24 :: f25 :: f26 :: .blk g t cs :: l) w) : Blk w g t cs := h.2.2.2.2.2.2.2.2.2.2.2.2.2.2.2.2.2.2.2.2.2.2.2.2.2.2.2.1
theorem Fx.i27 (h : Fx (f0 :: f1 :: f2 :: f3 :: f4 :: f5 :: f6 :: f7 :: f8 :: f9 :: f10 :: f11 :: f12 :: f13 :: f14 :: f15 :: f16 :: f17 :: f18 :: f19 :: f20 :: f21 :: f22 :: f23 :: f24 :: f25 :: f26 :: .blk g t (intsA k zs) :: l) w) : BlkI w g t k zs := h.2.2.2.2.2.2.2.2.2.2.2.2.2.2.2.2.2.2.2.2.2.2.2.2.2.2.2.1
theorem Fx.r27 (h : Fx (f0 :: f1 :: f2 :: f3 :: f4 :: f5 :: f6 :: f7 :: f8 :: f9 :: f10 :: f11 :: f12 :: f13 :: f14 :: f15 :: f16 :: f17 :: f18 :: f19 :: f20 :: f21 :: f22 :: f23 :: f24 :: f25 :: f26 :: .rdb k B A n zs :: l) w) : Rd k w w.heap.size A n zs := h.2.2.2.2.2.2.2.2.2.2.2.2.2.2.2.2.2.2.2.2.2.2.2.2.2.2.2.1.1.mono h.2.2.2.2.2.2.2.2.2.2.2.2.2.2.2.2.2.2.2.2.2.2.2.2.2.2.2.1.2
theorem Fx.q27 (h : Fx (f0 :: f1 :: f2 :: f3 :: f4 :: f5 :: f6 :: f7 :: f8 :: f9 :: f10 :: f11 :: f12 :: f13 :: f14 :: f15 :: f16 :: f17 :: f18 :: f19 :: f20 :: f21 :: f22 :: f23 :: f24 :: f25 :: f26 :: .rdb k B A n zs :: l) w) : Rd k w B A n zs := h.2.2.2.2.2.2.2.2.2.2.2.2.2.2.2.2.2.2.2.2.2.2.2.2.2.2.2.1.1
theorem Fx.k27 {R : World → Prop} (h : Fx (f0 :: f1 :: f2 :: f3 :: f4 :: f5 :: f6 :: f7 :: f8 :: f9 :: f10 :: f11 :: f12 :: f13 :: f14 :: f15 :: f16 :: f17 :: f18 :: f19 :: f20 :: f21 :: f22 :: f23 :: f24 :: f25 :: f26 :: .kept B R :: l) w) : R w := h.2.2.2.2.2.2.2.2.2.2.2.2.2.2.2.2.2.2.2.2.2.2.2.2.2.2.2.1.1 _ (Below.refl _ _)
theorem Fx.e27 (h : Fx (f0 :: f1 :: f2 :: f3 :: f4 :: f5 :: f6 :: f7 :: f8 :: f9 :: f10 :: f11 :: f12 :: f13 :: f14 :: f15 :: f16 :: f17 :: f18 :: f19 :: f20 :: f21 :: f22 :: f23 :: f24 :: f25 :: f26 :: .bel w0 :: l) w) : Below w0.heap.size w0 w := h.2.2.2.2.2.2.2.2.2.2.2.2.2.2.2.2.2.2.2.2.2.2.2.2.2.2.2.1
theorem Fx.b28 (h : Fx (f0 :: f1 :: f2 :: f3 :: f4 :: f5 :: f6 :: f7 :: f8 :: f9 :: f10 :: f11 :: f12 :: f13 :: f14 :: f15 :: f16 :: f17 :: f18 :: f19 :: f20 :: f21 :: f22 :: f23 :: f24 :: f25 :: f26 :: f27 :: .blk g t cs :: l) w) : Blk w g t cs := h.2.2.2.2.2.2.2.2.2.2.2.2.2.2.2.2.2.2.2.2.2.2.2.2.2.2.2.2.1
theorem Fx.i28 (h : Fx (f0 :: f1 :: f2 :: f3 :: f4 :: f5 :: f6 :: f7 :: f8 :: f9 :: f10 :: f11 :: f12 :: f13 :: f14 :: f15 :: f16 :: f17 :: f18 :: f19 :: f20 :: f21 :: f22 :: f23 :: f24 :: f25 :: f26 :: f27 :: .blk g t (intsA k zs) :: l) w) : BlkI w g t k zs := h.2.2.2.2.2.2.2.2.2.2.2.2.2.2.2.2.2.2.2.2.2.2.2.2.2.2.2.2.1
theorem Fx.r28 (h : Fx (f0 :: f1 :: f2 :: f3 :: f4 :: f5 :: f6 :: f7 :: f8 :: f9 :: f10 :: f11 :: f12 :: f13 :: f14 :: f15 :: f16 :: f17 :: f18 :: f19 :: f20 :: f21 :: f22 :: f23 :: f24 :: f25 :: f26 :: f27 :: .rdb k B A n zs :: l) w) : Rd k w w.heap.size A n zs := h.2.2.2.2.2.2.2.2.2.2.2.2.2.2.2.2.2.2.2.2.2.2.2.2.2.2.2.2.1.1.mono h.2.2.2.2.2.2.2.2.2.2.2.2.2.2.2.2.2.2.2.2.2.2.2.2.2.2.2.2.1.2
theorem Fx.q28 (h : Fx (f0 :: f1 :: f2 :: f3 :: f4 :: f5 :: f6 :: f7 :: f8 :: f9 :: f10 :: f11 :: f12 :: f13 :: f14 :: f15 :: f16 :: f17 :: f18 :: f19 :: f20 :: f21 :: f22 :: f23 :: f24 :: f25 :: f26 :: f27 :: .rdb k B A n zs :: l) w) : Rd k w B A n zs := h.2.2.2.2.2.2.2.2.2.2.2.2.2.2.2.2.2.2.2.2.2.2.2.2.2.2.2.2.1.1
theorem Fx.k28 {R : World → Prop} (h : Fx (f0 :: f1 :: f2 :: f3 :: f4 :: f5 :: f6 :: f7 :: f8 :: f9 :: f10 :: f11 :: f12 :: f13 :: f14 :: f15 :: f16 :: f17 :: f18 :: f19 :: f20 :: f21 :: f22 :: f23 :: f24 :: f25 :: f26 :: f27 :: .kept B R :: l) w) : R w := h.2.2.2.2.2.2.2.2.2.2.2.2.2.2.2.2.2.2.2.2.2.2.2.2.2.2.2.2.1.1 _ (Below.refl _ _)
theorem Fx.e28 (h : Fx (f0 :: f1 :: f2 :: f3 :: f4 :: f5 :: f6 :: f7 :: f8 :: f9 :: f10 :: f11 :: f12 :: f13 :: f14 :: f15 :: f16 :: f17 :: f18 :: f19 :: f20 :: f21 :: f22 :: f23 :: f24 :: f25 :: f26 :: f27 :: .bel w0 :: l) w) : Below w0.heap.size w0 w := h.2.2.2.2.2.2.2.2.2.2.2.2.2.2.2.2.2.2.2.2.2.2.2.2.2.2.2.2.1
theorem Fx.b29 (h : Fx (f0 :: f1 :: f2 :: f3 :: f4 :: f5 :: f6 :: f7 :: f8 :: f9 :: f10 :: f11 :: f12 :: f13 :: f14 :: f15 :: f16 :: f17 :: f18 :: f19 :: f20 :: f21 :: f22 :: f23 :: f24 :: f25 :: f26 :: f27 :: f28 :: .blk g t cs :: l) w) : Blk w g t cs := h.2.2.2.2.2.2.2.2.2.2.2.2.2.2.2.2.2.2.2.2.2.2.2.2.2.2.2.2.2.1
theorem Fx.i29 (h : Fx (f0 :: f1 :: f2 :: f3 :: f4 :: f5 :: f6 :: f7 :: f8 :: f9 :: f10 :: f11 :: f12 :: f13 :: f14 :: f15 :: f16 :: f17 :: f18 :: f19 :: f20 :: f21 :: f22 :: f23 :: f24 :: f25 :: f26 :: f27 :: f28 :: .blk g t (intsA k zs) :: l) w) : BlkI w g t k zs := h.2.2.2.2.2.2.2.2.2.2.2.2.2.2.2.2.2.2.2.2.2.2.2.2.2.2.2.2.2.1
theorem Fx.r29 (h : Fx (f0 :: f1 :: f2 :: f3 :: f4 :: f5 :: f6 :: f7 :: f8 :: f9 :: f10 :: f11 :: f12 :: f13 :: f14 :: f15 :: f16 :: f17 :: f18 :: f19 :: f20 :: f21 :: f22 :: f23 :: f24 :: f25 :: f26 :: f27 :: f28 :: .rdb k B A n zs :: l) w) : Rd k w w.heap.size A n zs := h.2.2.2.2.2.2.2.2.2.2.2.2.2.2.2.2.2.2.2.2.2.2.2.2.2.2.2.2.2.1.1.mono h.2.2.2.2.2.2.2.2.2.2.2.2.2.2.2.2.2.2.2.2.2.2.2.2.2.2.2.2.2.1.2
theorem Fx.q29 (h : Fx (f0 :: f1 :: f2 :: f3 :: f4 :: f5 :: f6 :: f7 :: f8 :: f9 :: f10 :: f11 :: f12 :: f13 :: f14 :: f15 :: f16 :: f17 :: f18 :: f19 :: f20 :: f21 :: f22 :: f23 :: f24 :: f25 :: f26 :: f27 :: f28 :: .rdb k B A n zs :: l) w) : Rd k w B A n zs := h.2.2.2.2.2.2.2.2.2.2.2.2.2.2.2.2.2.2.2.2.2.2.2.2.2.2.2.2.2.1.1
theorem Fx.k29 {R : World → Prop} (h : Fx (f0 :: f1 :: f2 :: f3 :: f4 :: f5 :: f6 :: f7 :: f8 :: f9 :: f10 :: f11 :: f12 :: f13 :: f14 :: f15 :: f16 :: f17 :: f18 :: f19 :: f20 :: f21 :: f22 :: f23 :: f24 :: f25 :: f26 :: f27 :: f28 :: .kept B R :: l) w) : R w := h.2.2.2.2.2.2.2.2.2.2.2.2.2.2.2.2.2.2.2.2.2.2.2.2.2.2.2.2.2.1.1 _ (Below.refl _ _)
theorem Fx.e29 (h : Fx (f0 :: f1 :: f2 :: f3 :: f4 :: f5 :: f6 :: f7 :: f8 :: f9 :: f10 :: f11 :: f12 :: f13 :: f14 :: f15 :: f16 :: f17 :: f18 :: f19 :: f20 :: f21 :: f22 :: f23 :: f24 :: f25 :: f26 :: f27 :: f28 :: .bel w0 :: l) w) : Below w0.heap.size w0 w := h.2.2.2.2.2.2.2.2.2.2.2.2.2.2.2.2.2.2.2.2.2.2.2.2.2.2.2.2.2.1
theorem Fx.b30 (h : Fx (f0 :: f1 :: f2 :: f3 :: f4 :: f5 :: f6 :: f7 :: f8 :: f9 :: f10 :: f11 :: f12 :: f13 :: f14 :: f15 :: f16 :: f17 :: f18 :: f19 :: f20 :: f21 :: f22 :: f23 :: f24 :: f25 :: f26 :: f27 :: f28 :: f29 :: .blk g t cs :: l) w) : Blk w g t cs := h.2.2.2.2.2.2.2.2.2.2.2.2.2.2.2.2.2.2.2.2.2.2.2.2.2.2.2.2.2.2.1
theorem Fx.i30 (h : Fx (f0 :: f1 :: f2 :: f3 :: f4 :: f5 :: f6 :: f7 :: f8 :: f9 :: f10 :: f11 :: f12 :: f13 :: f14 :: f15 :: f16 :: f17 :: f18 :: f19 :: f20 :: f21 :: f22 :: f23 :: f24 :: f25 :: f26 :: f27 :: f28 :: f29 :: .blk g t (intsA k zs) :: l) w) : BlkI w g t k zs := h.2.2.2.2.2.2.2.2.2.2.2.2.2.2.2.2.2.2.2.2.2.2.2.2.2.2.2.2.2.2.1
theorem Fx.r30 (h : Fx (f0 :: f1 :: f2 :: f3 :: f4 :: f5 :: f6 :: f7 :: f8 :: f9 :: f10 :: f11 :: f12 :: f13 :: f14 :: f15 :: f16 :: f17 :: f18 :: f19 :: f20 :: f21 :: f22 :: f23 :: f24 :: f25 :: f26 :: f27 :: f28 :: f29 :: .rdb k B A n zs :: l) w) : Rd k w w.heap.size A n zs := h.2.2.2.2.2.2.2.2.2.2.2.2.2.2.2.2.2.2.2.2.2.2.2.2.2.2.2.2.2.2.1.1.mono h.2.2.2.2.2.2.2.2.2.2.2.2.2.2.2.2.2.2.2.2.2.2.2.2.2.2.2.2.2.2.1.2
theorem Fx.q30 (h : Fx (f0 :: f1 :: f2 :: f3 :: f4 :: f5 :: f6 :: f7 :: f8 :: f9 :: f10 :: f11 :: f12 :: f13 :: f14 :: f15 :: f16 :: f17 :: f18 :: f19 :: f20 :: f21 :: f22 :: f23 :: f24 :: f25 :: f26 :: f27 :: f28 :: f29 :: .rdb k B A n zs :: l) w) : Rd k w B A n zs := h.2.2.2.2.2.2.2.2.2.2.2.2.2.2.2.2.2.2.2.2.2.2.2.2.2.2.2.2.2.2.1.1
theorem Fx.k30 {R : World → Prop} (h : Fx (f0 :: f1 :: f2 :: f3 :: f4 :: f5 :: f6 :: f7 :: f8 :: f9 :: f10 :: f11 :: f12 :: f13 :: f14 :: f15 :: f16 :: f17 :: f18 :: f19 :: f20 :: f21 :: f22 :: f23 :: f24 :: f25 :: f26 :: f27 :: f28 :: f29 :: .kept B R :: l) w) : R w := h.2.2.2.2.2.2.2.2.2.2.2.2.2.2.2.2.2.2.2.2.2.2.2.2.2.2.2.2.2.2.1.1 _ (Below.refl _ _)
theorem Fx.e30 (h : Fx (f0 :: f1 :: f2 :: f3 :: f4 :: f5 :: f6 :: f7 :: f8 :: f9 :: f10 :: f11 :: f12 :: f13 :: f14 :: f15 :: f16 :: f17 :: f18 :: f19 :: f20 :: f21 :: f22 :: f23 :: f24 :: f25 :: f26 :: f27 :: f28 :: f29 :: .bel w0 :: l) w) : Below w0.heap.size w0 w := h.2.2.2.2.2.2.2.2.2.2.2.2.2.2.2.2.2.2.2.2.2.2.2.2.2.2.2.2.2.2.1
theorem Fx.b31 (h : Fx (f0 :: f1 :: f2 :: f3 :: f4 :: f5 :: f6 :: f7 :: f8 :: f9 :: f10 :: f11 :: f12 :: f13 :: f14 :: f15 :: f16 :: f17 :: f18 :: f19 :: f20 :: f21 :: f22 :: f23 :: f24 :: f25 :: f26 :: f27 :: f28 :: f29 :: f30 :: .blk g t cs :: l) w) : Blk w g t cs := h.2.2.2.2.2.2.2.2.2.2.2.2.2.2.2.2.2.2.2.2.2.2.2.2.2.2.2.2.2.2.2.1
theorem Fx.i31 (h : Fx (f0 :: f1 :: f2 :: f3 :: f4 :: f5 :: f6 :: f7 :: f8 :: f9 :: f10 :: f11 :: f12 :: f13 :: f14 :: f15 :: f16 :: f17 :: f18 :: f19 :: f20 :: f21 :: f22 :: f23 :: f24 :: f25 :: f26 :: f27 :: f28 :: f29 :: f30 :: .blk g t (intsA k zs) :: l) w) : BlkI w g t k zs := h.2.2.2.2.2.2.2.2.2.2.2.2.2.2.2.2.2.2.2.2.2.2.2.2.2.2.2.2.2.2.2.1
theorem Fx.r31 (h : Fx (f0 :: f1 :: f2 :: f3 :: f4 :: f5 :: f6 :: f7 :: f8 :: f9 :: f10 :: f11 :: f12 :: f13 :: f14 :: f15 :: f16 :: f17 :: f18 :: f19 :: f20 :: f21 :: f22 :: f23 :: f24 :: f25 :: f26 :: f27 :: f28 :: f29 :: f30 :: .rdb k B A n zs :: l) w) : Rd k w w.heap.size A n zs := h.2.2.2.2.2.2.2.2.2.2.2.2.2.2.2.2.2.2.2.2.2.2.2.2.2.2.2.2.2.2.2.1.1.mono h.2.2.2.2.2.2.2.2.2.2.2.2.2.2.2.2.2.2.2.2.2.2.2.2.2.2.2.2.2.2.2.1.2
theorem Fx.q31 (h : Fx (f0 :: f1 :: f2 :: f3 :: f4 :: f5 :: f6 :: f7 :: f8 :: f9 :: f10 :: f11 :: f12 :: f13 :: f14 :: f15 :: f16 :: f17 :: f18 :: f19 :: f20 :: f21 :: f22 :: f23 :: f24 :: f25 :: f26 :: f27 :: f28 :: f29 :: f30 :: .rdb k B A n zs :: l) w) : Rd k w B A n zs := h.2.2.2.2.2.2.2.2.2.2.2.2.2.2.2.2.2.2.2.2.2.2.2.2.2.2.2.2.2.2.2.1.1
theorem Fx.k31 {R : World → Prop} (h : Fx (f0 :: f1 :: f2 :: f3 :: f4 :: f5 :: f6 :: f7 :: f8 :: f9 :: f10 :: f11 :: f12 :: f13 :: f14 :: f15 :: f16 :: f17 :: f18 :: f19 :: f20 :: f21 :: f22 :: f23 :: f24 :: f25 :: f26 :: f27 :: f28 :: f29 :: f30 :: .kept B R :: l) w) : R w := h.2.2.2.2.2.2.2.2.2.2.2.2.2.2.2.2.2.2.2.2.2.2.2.2.2.2.2.2.2.2.2.1.1 _ (Below.refl _ _)
theorem Fx.e31 (h : Fx (f0 :: f1 :: f2 :: f3 :: f4 :: f5 :: f6 :: f7 :: f8 :: f9 :: f10 :: f11 :: f12 :: f13 :: f14 :: f15 :: f16 :: f17 :: f18 :: f19 :: f20 :: f21 :: f22 :: f23 :: f24 :: f25 :: f26 :: f27 :: f28 :: f29 :: f30 :: .bel w0 :: l) w) : Below w0.heap.size w0 w := h.2.2.2.2.2.2.2.2.2.2.2.2.2.2.2.2.2.2.2.2.2.2.2.2.2.2.2.2.2.2.2.1
end
end Go.Proofs.Ytaaahgkpicjnoaa
/-
  append([]uint64{}, l...): a copy of its own of a slice of 64-bit numbers, behind a plain region's step.
  Conditions: the slice has at most 100,000,000 numbers.
-/
set_option maxRecDepth 100000
set_option linter.unusedVariables false
set_option linter.unusedSimpArgs false
namespace Go.Proofs.Ytaaahgkpicjnoaa
open Go.ChangeShapes Go.WideShapes Go.ChangeAt Go.RowKit
theorem info_u64d : (Try.prog.info? 22).map (fun i => (i.zero, i.size, i.bytes)) = some (some (.int .u64 0), 1, 8) := by kernel_rfl
theorem wpList_own_copy8 {ops : Array Oper} {rest : List Oper} {o : Oper} {a : Act} {Q : Exit → Act → World → Prop} (W0 : World) (hgd : o.guard = none) (s x : Operand)
    (ho : o.op = .call { callee := .builtin .append, args := #[s, x], argTypes := #[34, 34] })
    (hs : a.eval s = .slice (some ⟨W0.heap.size, 0, none⟩) 0 0) (A : Option Addr) (m c : Nat) (ys : List Int) (hx : a.eval x = .slice A m c) (hr : Rd .u64 W0 W0.heap.size A m ys) (hm : m ≤ 100000000)
    (h : ∀ A7 c7 w', Below W0.heap.size W0 w' → Rd .u64 w' w'.heap.size A7 ys.length ys → Hid (ys.length ≤ c7) → Hid (c7 ≤ maxLen) → wpList Try.prog ops Q rest (a.put o.dst (.slice A7 ys.length c7)) w') : wpList Try.prog ops Q (o :: rest) a (W0.alloc (.cells #[] 22)) := by
  obtain ⟨ti, hti, hz0, hz1, hzb⟩ := info_parts info_u64d
  have hw : W0.heap.size ≤ (W0.alloc (.cells #[] 22)).heap.size := ((Below.refl _ _).alloc (Nat.le_refl _) (.cells #[] 22)).size
  refine wpList_append_ints _ hgd s x 34 ho W0.heap.size 22 ti _ 8 .u64 Try.underlying34 hti hz0 hz1 hzb rfl _ [] hs (own_empty W0 22 .u64 (Nat.le_refl _)) W0.heap.size A m c ys hx (hr.alloc (Nat.le_refl _) _) (by simp [maxLen]; omega) (by simp; omega) hw ?_
  intro v w' hown hg hat
  have hb : Below W0.heap.size W0 w' := (own_empty W0 22 .u64 (Nat.le_refl _)).below_ ((Below.refl _ _).alloc (Nat.le_refl _) _) hw hg
  rw [List.nil_append] at hown
  obtain ⟨A7, c7, rfl, hc7, hm7⟩ := hown.form
  exact h A7 c7 w' hb (OwnI.rd hown rfl) hc7 hm7
end Go.Proofs.Ytaaahgkpicjnoaa
/-
  What laws need of memory: slices of literal numbers, a cell of a block stored, answers said by what they are.
  Conditions: those that each theorem names.
-/
set_option maxRecDepth 100000
set_option linter.unusedVariables false
set_option linter.unusedSimpArgs false
namespace Go.Proofs.Ytaaahgkpicjnoaa
open Go.ChangeShapes Go.WideShapes Go.ChangeAt Go.RowKit
section
variable {ops : Array Oper} {rest : List Oper} {o : Oper} {a : Act} {w : World} {Q : Exit → Act → World → Prop}
theorem wpList_run_gd {P : Program} (hw : Region.wanted o (yielded ops a.tmps) = true) (v : Value) (w' : World) (hv : (execOp a.eval o).run P w = .ok (.value v) w')
    (h : wpList P ops Q rest (a.put o.dst v) w') : wpList P ops Q (o :: rest) a w :=
  wpList_step fun K hK => by
    rw [if_pos hw]
    unfold Oper.wp
    simp only [hv]
    exact hK _ _ h
theorem run_build_u64_4 (x y z v : Int) (w : World) : (Instr.buildSlice 34 4 #[(0, .int .u64 x), (1, .int .u64 y), (2, .int .u64 z), (3, .int .u64 v)]).run Try.prog w = .ok (.slice (some ⟨w.heap.size, 0, none⟩) 4 4) (w.alloc (.cells #[.int .u64 x, .int .u64 y, .int .u64 z, .int .u64 v] 22)) := by
  go_simp
theorem run_build_u64_2 (x y : Int) (w : World) : (Instr.buildSlice 34 2 #[(0, .int .u64 x), (1, .int .u64 y)]).run Try.prog w = .ok (.slice (some ⟨w.heap.size, 0, none⟩) 2 2) (w.alloc (.cells #[.int .u64 x, .int .u64 y] 22)) := by
  go_simp
theorem rd_alloc (w : World) (e : TypeId) (k : IntKind) (zs : List Int) : Rd k (w.alloc (.cells (intsA k zs) e)) (w.alloc (.cells (intsA k zs) e)).heap.size (some ⟨w.heap.size, 0, none⟩) zs.length zs := by
  refine ⟨rfl, fun _ => ⟨w.heap.size, 0, rfl, (Blk.new w e (intsA k zs)).lt, fun j hj => ?_⟩⟩
  rw [(Blk.new w e (intsA k zs)).cell, Nat.zero_add]
  simp [intsA, hj]
theorem wpList_build4 (hw : Region.wanted o (yielded ops a.tmps) = true) (p q r s : Operand) (ho : o.op = .buildSlice 34 4 #[(0, p), (1, q), (2, r), (3, s)]) (x y z v : Int) (hp : a.eval p = .int .u64 x) (hq : a.eval q = .int .u64 y) (hr : a.eval r = .int .u64 z) (hs : a.eval s = .int .u64 v)
    (h : ∀ g w', Rd .u64 w' w'.heap.size (some ⟨g, 0, none⟩) 4 [x, y, z, v] → Below w.heap.size w w' → wpList Try.prog ops Q rest (a.put o.dst (.slice (some ⟨g, 0, none⟩) 4 4)) w') : wpList Try.prog ops Q (o :: rest) a w := by
  refine wpList_run_gd hw (.slice (some ⟨w.heap.size, 0, none⟩) 4 4) (w.alloc (.cells #[.int .u64 x, .int .u64 y, .int .u64 z, .int .u64 v] 22)) ?_ (h _ _ (rd_alloc w _ .u64 [x, y, z, v]) ((Below.refl _ _).alloc (Nat.le_refl _) _))
  have hr1 := run_build_u64_4 x y z v w
  unfold execOp
  simp only [ho, List.map_toArray, List.map_cons, List.map_nil, hp, hq, hr, hs]
  change ((Instr.buildSlice 34 4 #[(0, .int .u64 x), (1, .int .u64 y), (2, .int .u64 z), (3, .int .u64 v)]) >>= fun v => pure (Next.value v)).run Try.prog w = _
  simp only [Sem.run_bind, hr1, Result.andThen_ok, Sem.run_pure]
theorem wpList_build2 (hw : Region.wanted o (yielded ops a.tmps) = true) (p q : Operand) (ho : o.op = .buildSlice 34 2 #[(0, p), (1, q)]) (x y : Int) (hp : a.eval p = .int .u64 x) (hq : a.eval q = .int .u64 y)
    (h : ∀ g w', Rd .u64 w' w'.heap.size (some ⟨g, 0, none⟩) 2 [x, y] → Below w.heap.size w w' → wpList Try.prog ops Q rest (a.put o.dst (.slice (some ⟨g, 0, none⟩) 2 2)) w') : wpList Try.prog ops Q (o :: rest) a w := by
  refine wpList_run_gd hw (.slice (some ⟨w.heap.size, 0, none⟩) 2 2) (w.alloc (.cells #[.int .u64 x, .int .u64 y] 22)) ?_ (h _ _ (rd_alloc w _ .u64 [x, y]) ((Below.refl _ _).alloc (Nat.le_refl _) _))
  have hr1 := run_build_u64_2 x y w
  unfold execOp
  simp only [ho, List.map_toArray, List.map_cons, List.map_nil, hp, hq]
  change ((Instr.buildSlice 34 2 #[(0, .int .u64 x), (1, .int .u64 y)]) >>= fun v => pure (Next.value v)).run Try.prog w = _
  simp only [Sem.run_bind, hr1, Result.andThen_ok, Sem.run_pure]
end
theorem Fx.addS {l : List Fact} {w w' : World} {k : IntKind} {A : Option Addr} {n : Nat} {zs : List Int} (h : Fx l w) (hb : Below w.heap.size w w') (hr : Rd k w' w'.heap.size A n zs) : Fx (.rd k A n zs :: l) w' := ⟨hr, h.below hb⟩
theorem Fx.lit4 {l : List Fact} {w : World} (h : Fx l w) (x y z v : Int) : Fx (.rdb .u64 (w.alloc (.cells #[.int .u64 x, .int .u64 y, .int .u64 z, .int .u64 v] 22)).heap.size (some ⟨w.heap.size, 0, none⟩) 4 [x, y, z, v] :: l) (w.alloc (.cells #[.int .u64 x, .int .u64 y, .int .u64 z, .int .u64 v] 22)) :=
  Fx.addR h ((Below.refl _ _).alloc (Nat.le_refl _) _) (rd_alloc w _ .u64 [x, y, z, v])
section
variable {P : Program} {ops : Array Oper} {rest : List Oper} {o : Oper} {a : Act} {w : World} {Q : Exit → Act → World → Prop}
/-- A cell of a block is stored; what else stays, said as of a whole row. -/
theorem wpList_store_cell_any (hgd : o.guard = none) (ty : TypeId) (x y : Operand) (ho : o.op = .store ty x y) (g off : Nat) (hx : a.eval x = .pointer (some ⟨g, off, none⟩)) (t : TypeId) (cs : Array Value) (hb : Blk w g t cs)
    (v : Value) (hy : a.eval y = v) (hl : off < cs.size) (hz : (P.info? ty).map (·.size) = some 1) (h1 : v.cells = #[v]) (h2 : v.oneCell' = true)
    (h : ∀ w', Hid (Blk w' g t (cs.setIfInBounds off v)) → Hid (w'.heap.size = w.heap.size) → (∀ B, B ≤ g → Below B w w') → (∀ j, j ≠ g → w'.heap[j]? = w.heap[j]?) → wpList P ops Q rest (a.put o.dst undef) w') : wpList P ops Q (o :: rest) a w := by
  refine wpList_plain hgd fun K hK => ?_
  have hrun := run_storeVar_cell (P := P) (w := w) g off ty v (hb.there off 1 (by omega)) hz h1 h2
  unfold Oper.wp execOp
  simp only [ho, hx, hy, Instr.storeAt, Instr.sureAddr, Sem.run_bind, Sem.run_pure, Result.andThen_ok, hrun]
  exact hK _ _ (h _ (hb.set_ off v) (show _ = _ by simp [World.setCell]) (fun B hB => (Only.setCell g off w v).below hB (Nat.le_of_lt (Nat.lt_of_le_of_lt hB hb.lt))) (fun j hj => Below.heap_setCell w ⟨g, off, none⟩ v j hj))
end
theorem intsA_put (k : IntKind) (l : List Int) (j : Nat) (z : Int) : (intsA k l).setIfInBounds j (.int k z) = intsA k (l.set j z) := by
  apply Array.ext'
  simp [intsA, List.map_set]
theorem Fx.own {l : List Fact} {w : World} {k : IntKind} {g n : Nat} {t : TypeId} {zs : List Int} (h : Fx (.blk g t (intsA k zs) :: l) w) (hn : zs.length = n) : Rd k w w.heap.size (some ⟨g, 0, none⟩) n zs := by
  subst hn
  have hb : Blk w g t (intsA k zs) := h.1
  exact ⟨rfl, fun _ => ⟨g, 0, rfl, hb.lt, fun j hj => by rw [hb.cell, Nat.zero_add]; simp [intsA, hj]⟩⟩
theorem Fx.at0 {l : List Fact} {w : World} {k : IntKind} {g : Nat} {t : TypeId} {zs : List Int} (h : Fx (.blk g t (intsA k zs) :: l) w) (j : Nat) (x : Int) (hj : j < zs.length) (hx : zs.getD j 0 = x) : w.cell? ⟨g, j, none⟩ = some (.int k x) := by
  have hb : Blk w g t (intsA k zs) := h.1
  rw [hb.cell, ← hx]
  simp [intsA, hj]
section
variable {P : Program} {f : FuncId} {args : Array Value} {w : World}
theorem calls_val {v v' : Value} (h : Calls P f args w fun e w' => e = .returned v ∧ Below w.heap.size w w') (hv : v = v') : Calls P f args w fun e w' => e = .returned v' ∧ Below w.heap.size w w' := by
  subst hv
  exact h
theorem calls_pure {v v' : Value} (h : Calls P f args w fun e w' => e = .returned v ∧ w = w') (hv : v = v') : Calls P f args w fun e w' => e = .returned v' ∧ w = w' := by
  subst hv
  exact h
end
theorem tup_ub {a b : Int} {p q : Bool} (h : a = b) (h2 : p = q) : Value.tuple #[.int .u64 a, .bool p] = .tuple #[.int .u64 b, .bool q] := by rw [h, h2]
theorem tup_ui {a b c d : Int} (h : a = b) (h2 : c = d) : Value.tuple #[.int .u64 a, .int .i64 c] = .tuple #[.int .u64 b, .int .i64 d] := by rw [h, h2]
theorem tup_ii {a b c d : Int} (h : a = b) (h2 : c = d) : Value.tuple #[.int .i64 a, .int .i64 c] = .tuple #[.int .i64 b, .int .i64 d] := by rw [h, h2]
end Go.Proofs.Ytaaahgkpicjnoaa
/-
  A law's argument that is a slice of integers, opened.
  Conditions: the element's type is an integer type of one cell.
-/
set_option maxRecDepth 100000
namespace Go.Proofs.Ytaaahgkpicjnoaa
open Go.ChangeShapes Go.WideShapes Go.ChangeAt Go.RowKit
theorem open_rd {H : Type} {enc : TypeId × Value → H} {P : Program} {w : World} {base : Nat} {spare : Nat → Bool} {held : Bool} {t e : TypeId} {k : IntKind} {a : Option Addr} {len cap : Nat} {d : DataW H} {p : List MemPlace}
    (ht : P.underlying t = some (.slice e)) (he : P.underlying e = some (.int k)) (hc : P.cellsOf e = 1) (h : DataW.Trod enc P w base spare held t (.slice a len cap) d p) :
    ∃ zs : List Int, Rd k w w.heap.size a len zs ∧ len ≤ cap ∧ cap ≤ maxLen ∧ ∀ z ∈ zs, (Lit.int k z).wf = true := by
  obtain ⟨fuel, hf⟩ := h
  rcases open_ints ht he hc hf with ⟨hcs, _⟩ | ⟨x, l, c, zs, hcs, _, hl, hm, hz, _, hcell, hwz⟩
  · simp [Value.cells] at hcs
    obtain ⟨rfl, rfl, rfl⟩ := hcs
    exact ⟨[], Rd.none_, Nat.le_refl _, by simp [maxLen], fun _ h => by cases h⟩
  · simp [Value.cells] at hcs
    obtain ⟨rfl, rfl, rfl⟩ := hcs
    refine ⟨zs.take len, ⟨?_, fun hn => ?_⟩, hl, hm, fun z hz' => hwz z (List.mem_of_mem_take hz')⟩
    · have : len ≤ zs.length := by rw [hz]; split <;> omega
      rw [List.length_take]; omega
    · have hlen : len ≤ zs.length := by rw [hz]; split <;> omega
      obtain ⟨b, off, spot⟩ := x
      have h0 := hcell 0 (by omega)
      have hspot : spot = none := by simpa [Addr.add] using World.cell?_spot h0
      subst hspot
      have h1 : w.cell? ⟨b, off, none⟩ = some (.int k (zs.getD 0 0)) := by simpa [Addr.add] using h0
      refine ⟨b, off, rfl, World.block_lt_of_cell? w _ h1, fun j hj => ?_⟩
      have h2 := hcell j (by omega)
      rw [add_flat] at h2
      rw [h2]
      congr 2
      simp only [List.getD_eq_getElem?_getD, List.getElem?_take]
      rw [if_pos hj]
end Go.Proofs.Ytaaahgkpicjnoaa
/-
  What the laws of stage 16 share: answers of calls over numbers' limbs.
  Conditions: those that each theorem names.
-/
set_option maxRecDepth 100000
set_option linter.unusedVariables false
set_option linter.unusedSimpArgs false
namespace Go.Proofs.Ytaaahgkpicjnoaa
open Go.ChangeShapes Go.WideShapes Go.ChangeAt Go.RowKit
/-- What hands back limbs, said by the error and the limbs. -/
theorem ret_e {P : Program} {f : FuncId} {args : Array Value} {w : World} {r : Int × List Int} {er : Int} {Z : List Int} (h : Calls P f args w (RetNE w r)) (h2 : r = (er, Z)) : Calls P f args w fun e w' => ∃ A c, e = .returned (.tuple #[.slice A Z.length c, .int .i64 er]) ∧ Z.length ≤ c ∧ c ≤ maxLen ∧ Rd .u32 w' w'.heap.size A Z.length Z ∧ Below w.heap.size w w' := by
  subst h2
  exact h
theorem same_n {Z : List Int} (hl : Z.length ≤ 1000) (A B : Option Addr) (c d : Nat) (W : World) (h1 : Rd .u32 W W.heap.size A Z.length Z) (h2 : Rd .u32 W W.heap.size B Z.length Z) : Calls Try.prog 19 #[.slice A Z.length c, .slice B Z.length d] W fun e w' => e = .returned (.bool true) ∧ Below W.heap.size W w' := by
  have h := r10same_c Z Z A B Z.length Z.length c d (by unfold maxLen; omega) (by unfold maxLen; omega) W h1 h2
  rwa [decide_eq_true (Eq.refl Z)] at h
end Go.Proofs.Ytaaahgkpicjnoaa

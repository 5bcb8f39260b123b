/-
  What drawlotref10's Cmp and Sub return.
  Conditions: limbs lie in their type's range; the numbers have at most 100,000 limbs.
-/
import Derived.Test.YtoimepmignlmkaaDoorRefT
import Derived.Test.YtoimepmignlmkaaDoorNatD
set_option maxRecDepth 100000
set_option linter.unusedSimpArgs false
namespace Go.Proofs.YtoimepmignlmkaaDoor
open Go.ChangeShapes Go.WideShapes Go.ChangeAt Go.RowKit
set_option linter.unusedVariables false
set_option maxHeartbeats 4000000 in
theorem r10cmp_c (xs ys : List Int) (hx : Lim xs) (hy : Lim ys) (A B : Option Addr) (n m c d : Nat) (hn : n ≤ maxLen) (hm : m ≤ maxLen) (w : World) (hra : Rd .u32 w w.heap.size A n xs) (hrb : Rd .u32 w w.heap.size B m ys) : Calls Tryd.prog 20 #[.slice A n c, .slice B m d] w fun e w' => e = .returned (.int .i64 (cmpR xs ys)) ∧ Below w.heap.size w w' := by
  have hr1 := fun W h => r10right_c xs A n c hn W h
  have hr2 := fun W h => r10right_c ys B m d hm W h
  have HRA := Lib.hid hra
  have HRB := Lib.hid hrb
  have hla := hra.len
  have hlb := hrb.len
  have hnI : (n : Int) ≤ 9223372036854775807 := by unfold maxLen at hn; omega
  have hmI : (m : Int) ≤ 9223372036854775807 := by unfold maxLen at hm; omega
  cases h1 : rightN xs with
  | false =>
    have e1 : cmpR xs ys = 0 := by unfold cmpR; rw [h1]; rfl
    rw [h1] at hr1
    rw [e1]
    have HR1 := Lib.hid hr1
    clear hr1 hr2 h1 e1 hra hrb hn hm
    go_enter Tryd.func20, Tryd.ntmps20
    go_wp2_with (first
      | (go_at_call 23; (with_reducible refine (HR1.out _ HRA.out).mono ?_); rintro e _ ⟨rfl, rfl⟩))
    go_ret
    exact ⟨rfl, Below.refl _ _⟩
  | true =>
    rw [h1] at hr1
    have HR1 := Lib.hid hr1
    cases h2 : rightN ys with
    | false =>
      have e1 : cmpR xs ys = 0 := by unfold cmpR; rw [h1, h2]; rfl
      rw [h2] at hr2
      rw [e1]
      have HR2 := Lib.hid hr2
      clear hr1 hr2 h1 h2 e1 hra hrb hn hm
      go_enter Tryd.func20, Tryd.ntmps20
      go_wp2_with (first
        | (go_at_call 23; (with_reducible refine (HR1.out _ HRA.out).mono ?_); rintro e _ ⟨rfl, rfl⟩)
        | (go_at_call 23; (with_reducible refine (HR2.out _ HRB.out).mono ?_); rintro e _ ⟨rfl, rfl⟩))
      go_ret
      exact ⟨rfl, Below.refl _ _⟩
    | true =>
      have e1 : cmpR xs ys = if valL xs < valL ys then -1 else if valL ys < valL xs then 1 else 0 := by unfold cmpR; rw [h1, h2]; rfl
      rw [h2] at hr2
      have HR2 := Lib.hid hr2
      have HE1 := Lib.hid e1
      by_cases hl : n < m
      · have hv := len_less hx hy h2 (by omega)
        have HE2 : Hid (cmpR xs ys = -1) := Lib.hid (by rw [e1, if_pos hv])
        have t1 : ((n : Int) != (m : Int)) = true := by rw [bne_iff_ne]; omega
        have t2 : (n : Int) < (m : Int) := by omega
        clear hr1 hr2 h1 h2 e1 hra hrb hn hm hv hl HE1
        go_enter Tryd.func20, Tryd.ntmps20
        go_wp2_with (first
          | (go_at_call 23; (with_reducible refine (HR1.out _ HRA.out).mono ?_); rintro e _ ⟨rfl, rfl⟩)
          | (go_at_call 23; (with_reducible refine (HR2.out _ HRB.out).mono ?_); rintro e _ ⟨rfl, rfl⟩))
        go_ret
        rw [HE2.out]
        exact ⟨rfl, Below.refl _ _⟩
      · by_cases hl2 : m < n
        · have hv := len_less hy hx h1 (by omega)
          have HE2 : Hid (cmpR xs ys = 1) := Lib.hid (by rw [e1, if_neg (by omega), if_pos hv])
          have t1 : ((n : Int) != (m : Int)) = true := by rw [bne_iff_ne]; omega
          have t2 : ¬ (n : Int) < (m : Int) := by omega
          clear hr1 hr2 h1 h2 e1 hra hrb hn hm hv hl hl2 HE1
          go_enter Tryd.func20, Tryd.ntmps20
          go_wp2_with (first
            | (go_at_call 23; (with_reducible refine (HR1.out _ HRA.out).mono ?_); rintro e _ ⟨rfl, rfl⟩)
            | (go_at_call 23; (with_reducible refine (HR2.out _ HRB.out).mono ?_); rintro e _ ⟨rfl, rfl⟩))
          go_ret
          rw [HE2.out]
          exact ⟨rfl, Below.refl _ _⟩
        · obtain rfl : n = m := by omega
          have t1 : ((n : Int) != (n : Int)) = false := by simp
          have HL := Lib.hid (fun i (h : i < n) hd hlt => cmp_less hx hy (i := i) (by omega) (by omega) hd hlt)
          have HG := Lib.hid (fun i (h : i < n) hd hlt => cmp_less hy hx (i := i) (by omega) (by omega) hd hlt)
          have HDX := Lib.hid (fun i (h : i < n) => show xs.drop i = xs.getD i 0 :: xs.drop (i + 1) by rw [List.drop_eq_getElem_cons (by omega), List.getD_eq_getElem?_getD, List.getElem?_eq_getElem (by omega)]; rfl)
          have HDY := Lib.hid (fun i (h : i < n) => show ys.drop i = ys.getD i 0 :: ys.drop (i + 1) by rw [List.drop_eq_getElem_cons (by omega), List.getD_eq_getElem?_getD, List.getElem?_eq_getElem (by omega)]; rfl)
          have hend : xs.drop n = ys.drop n := by rw [List.drop_eq_nil_of_le (by omega), List.drop_eq_nil_of_le (by omega)]
          have HEND := Lib.hid hend
          clear hr1 hr2 h1 h2 e1 hra hrb hn hm hl hl2 hx hy hend
          go_enter Tryd.func20, Tryd.ntmps20
          go_wp2_with (first
            | (go_at_call 23; (with_reducible refine (HR1.out _ HRA.out).mono ?_); rintro e _ ⟨rfl, rfl⟩)
            | (go_at_call 23; (with_reducible refine (HR2.out _ HRB.out).mono ?_); rintro e _ ⟨rfl, rfl⟩))
          go_loopw [5] (fun ii wr => ∃ j : Nat, j ≤ n ∧ ii = .int .i64 ((j : Int) - 1) ∧ xs.drop j = ys.drop j ∧ Below w.heap.size w wr) (fun ii _ => (intOf ii + 1).toNat)
          case atStart => exact ⟨n, Nat.le_refl _, by go_num, HEND.out, Below.refl _ _⟩
          case round =>
            obtain ⟨j, hj, rfl, hd, hbl⟩ := hrel
            rcases j with _ | i
            · have hxy : xs = ys := by rw [List.drop_zero, List.drop_zero] at hd; exact hd
              have HE2 : Hid (cmpR xs ys = 0) := Lib.hid (by rw [HE1.out, hxy, if_neg (by omega), if_neg (by omega)])
              have HBL := Lib.hid hbl
              clear hd hbl hxy
              rw [show ((0 : Nat) : Int) - 1 = -1 from rfl]
              go_wp2
              go_ret
              rw [HE2.out]
              exact ⟨rfl, HBL.out⟩
            · have hin : i < n := by omega
              rw [show ((i + 1 : Nat) : Int) - 1 = (i : Int) by omega]
              obtain ⟨b1, o1, rfl, _, hc1⟩ := (HRA.out.below hbl).at_ (by omega)
              obtain ⟨b2, o2, rfl, _, hc2⟩ := (HRB.out.below hbl).at_ (by omega)
              have hk1 := hc1 i hin
              have hk2 := hc2 i hin
              have hlt := HL.out i hin hd
              have hgt := HG.out i hin hd.symm
              have hdx := HDX.out i hin
              have hdy := HDY.out i hin
              obtain ⟨x, hx⟩ : ∃ x, xs.getD i 0 = x := ⟨_, rfl⟩
              obtain ⟨y, hy⟩ : ∃ y, ys.getD i 0 = y := ⟨_, rfl⟩
              rw [hx] at hk1 hlt hgt hdx
              rw [hy] at hk2 hlt hgt hdy
              have i0 : (0 : Int) ≤ (i : Int) := by omega
              have i1 : (i : Int) < (n : Int) := by omega
              have HBL := Lib.hid hbl
              by_cases hxy : x < y
              · have HE2 : Hid (cmpR xs ys = -1) := Lib.hid (by rw [HE1.out, if_pos (hlt hxy)])
                clear hc1 hc2 hlt hgt hdx hdy hx hy hd hbl
                go_wp2
                go_quiet (fail)
                go_wp2
                go_ret
                rw [HE2.out]
                exact ⟨rfl, below_drewN HBL.out _⟩
              · by_cases hyx : y < x
                · have HE2 : Hid (cmpR xs ys = 1) := Lib.hid (by
                    have := hgt hyx
                    rw [HE1.out, if_neg (by omega), if_pos this])
                  clear hc1 hc2 hlt hgt hdx hdy hx hy hd hbl
                  go_wp2
                  go_quiet (fail)
                  go_wp2
                  go_quiet (fail)
                  go_wp2
                  go_ret
                  rw [HE2.out]
                  exact ⟨rfl, below_drewN (below_drewN HBL.out _) _⟩
                · obtain rfl : x = y := by omega
                  have HD := Lib.hid (show xs.drop i = ys.drop i by rw [hdx, hdy, hd])
                  clear hc1 hc2 hlt hgt hdx hdy hx hy hd hbl hyx
                  go_wp2
                  go_quiet (fail)
                  go_wp2
                  go_quiet (fail)
                  go_wp2
                  go_roundw
                  case rel => exact ⟨i, by omega, by go_num, HD.out, below_drewN HBL.out _⟩
                  case measure => simp [intOf]
set_option maxHeartbeats 4000000 in
theorem r10sub_c (xs ys : List Int) (hx : Lim xs) (hy : Lim ys) (A B : Option Addr) (n m c d : Nat) (hn : n ≤ maxLen) (hm : m ≤ maxLen) (w : World) (hra : Rd .u32 w w.heap.size A n xs) (hrb : Rd .u32 w w.heap.size B m ys) : Calls Tryd.prog 16 #[.slice A n c, .slice B m d] w (RetNE w (subR xs ys)) := by
  have hr1 := fun W h => r10right_c xs A n c hn W h
  have hr2 := fun W h => r10right_c ys B m d hm W h
  have hcmp := fun W h h' => r10cmp_c xs ys hx hy A B n m c d hn hm W h h'
  have HRA := Lib.hid hra
  have HRB := Lib.hid hrb
  have hla := hra.len
  have hlb := hrb.len
  cases h1 : rightN xs with
  | false =>
    have e1 : subR xs ys = (1, []) := by unfold subR; rw [h1]; rfl
    rw [h1] at hr1
    rw [e1]
    have HR1 := Lib.hid hr1
    clear hr1 hr2 h1 e1 hra hrb hn hm hcmp
    go_enter Tryd.func16, Tryd.ntmps16
    go_wp2_with (first
      | (go_at_call 23; (with_reducible refine (HR1.out _ HRA.out).mono ?_); rintro e _ ⟨rfl, rfl⟩))
    go_ret2
    exact RetNE.nil 1 (Below.refl _ _)
  | true =>
    rw [h1] at hr1
    have HR1 := Lib.hid hr1
    cases h2 : rightN ys with
    | false =>
      have e1 : subR xs ys = (1, []) := by unfold subR; rw [h1, h2]; rfl
      rw [h2] at hr2
      rw [e1]
      have HR2 := Lib.hid hr2
      clear hr1 hr2 h1 h2 e1 hra hrb hn hm hcmp
      go_enter Tryd.func16, Tryd.ntmps16
      go_wp2_with (first
        | (go_at_call 23; (with_reducible refine (HR1.out _ HRA.out).mono ?_); rintro e _ ⟨rfl, rfl⟩)
        | (go_at_call 23; (with_reducible refine (HR2.out _ HRB.out).mono ?_); rintro e _ ⟨rfl, rfl⟩))
      go_ret2
      exact RetNE.nil 1 (Below.refl _ _)
    | true =>
      have e1 : subR xs ys = if valL xs < valL ys then (12, []) else (0, natL (valL xs - valL ys)) := by unfold subR; rw [h1, h2]; rfl
      have c1 : cmpR xs ys = if valL xs < valL ys then -1 else if valL ys < valL xs then 1 else 0 := by unfold cmpR; rw [h1, h2]; rfl
      rw [h2] at hr2
      have HR2 := Lib.hid hr2
      by_cases hv : valL xs < valL ys
      · rw [e1, if_pos hv]
        rw [c1, if_pos hv] at hcmp
        have HC := Lib.hid hcmp
        clear hr1 hr2 h1 h2 e1 c1 hra hrb hn hm hcmp hv
        go_enter Tryd.func16, Tryd.ntmps16
        go_wp2_with (first
          | (go_at_call 23; (with_reducible refine (HR1.out _ HRA.out).mono ?_); rintro e _ ⟨rfl, rfl⟩)
          | (go_at_call 23; (with_reducible refine (HR2.out _ HRB.out).mono ?_); rintro e _ ⟨rfl, rfl⟩)
          | (go_at_call 20; (with_reducible refine (HC.out _ HRA.out HRB.out).mono ?_); rintro e w3 ⟨rfl, hb3⟩; have HB3 := Lib.hid hb3; clear hb3))
        go_ret2
        exact RetNE.nil 12 HB3.out
      · rw [e1, if_neg hv]
        rw [c1, if_neg hv] at hcmp
        have hmn : m ≤ n := by
          rcases Nat.lt_or_ge n m with h | h
          · exact absurd (len_less hx hy h2 (by omega)) hv
          · exact h
        have hn256 : n ≤ 256 := by rw [← hla]; exact rightN_len h1
        obtain ⟨z, hz⟩ : ∃ z : Int, (if valL ys < valL xs then (1 : Int) else 0) = z := ⟨_, rfl⟩
        have hz0 : ¬ z < 0 := by rw [← hz]; split <;> omega
        rw [hz] at hcmp
        have HC := Lib.hid hcmp
        obtain ⟨i0, hi0, hz0', hz1, hzb⟩ := info_parts info_u32d
        have HLA := Lib.hid (fun (i : Nat) W (h : Rd .u32 W W.heap.size A n xs) => r10limb_c xs hx A n c hn i W h)
        have HLB := Lib.hid (fun (i : Nat) W (h : Rd .u32 W W.heap.size B m ys) => r10limb_c ys hy B m d hm i W h)
        have HXG := Lib.hid (fun i => hx.getD i)
        have HYG := Lib.hid (fun i => hy.getD i)
        have HXT := Lib.hid (fun i => valL_take_next xs i)
        have HYT := Lib.hid (fun i => valL_take_next ys i)
        have htx : xs.take n = xs := by rw [← hla, List.take_length]
        have hty : ys.take n = ys := List.take_of_length_le (by omega)
        have HTX := Lib.hid htx
        have HTY := Lib.hid hty
        have HV : Hid (valL ys ≤ valL xs) := Lib.hid (by omega)
        have HST : Hid (valL [] + valL (ys.take 0) = valL (xs.take 0) + 4294967296 ^ 0 * 0) := Lib.hid rfl
        clear hr1 hr2 h1 h2 e1 c1 hra hrb hm hcmp hv hz hx hy htx hty hn
        go_enter Tryd.func16, Tryd.ntmps16
        go_wp2_with (first
          | (go_at_call 23; (with_reducible refine (HR1.out _ HRA.out).mono ?_); rintro e _ ⟨rfl, rfl⟩)
          | (go_at_call 23; (with_reducible refine (HR2.out _ HRB.out).mono ?_); rintro e _ ⟨rfl, rfl⟩)
          | (go_at_call 20; (with_reducible refine (HC.out _ HRA.out HRB.out).mono ?_); rintro e w3 ⟨rfl, hb3⟩; have HB3 := Lib.hid hb3; clear hb3))
        go_loopw [6, 7, 8] (fun v cc ii wr => ∃ (i bo : Nat) (out : List Int), i ≤ n ∧ bo ≤ 1 ∧ cc = .int .u64 (bo : Int) ∧ ii = .int .i64 (i : Int) ∧ out.length = i ∧ Lim out ∧ valL out + valL (ys.take i) = valL (xs.take i) + 4294967296 ^ i * bo ∧ OwnI wr w.heap.size 45 .u32 v out ∧ Below w.heap.size w wr) (fun _ _ ii _ => n - (intOf ii).toNat)
        case atStart => exact ⟨0, 0, [], by omega, by omega, rfl, rfl, rfl, Lim.nil, HST.out, own_nil _ _ _, HB3.out⟩
        case round =>
          clear HST HB3
          obtain ⟨i, bo, out, hi, hbo, rfl, rfl, hol, hlo, hval, hown, hbl⟩ := hrel
          have HOW := Lib.hid hown
          have HBL := Lib.hid hbl
          have hsz := hbl.size
          by_cases hlt : i < n
          · have hxi := HXG.out i
            have hyi := HYG.out i
            have hla1 := fun W (h : Rd .u32 W W.heap.size A n xs) => HLA.out i W h
            have hlb1 := fun W (h : Rd .u32 W W.heap.size B m ys) => HLB.out i W h
            have hxt := HXT.out i
            have hyt := HYT.out i
            obtain ⟨x, hxx⟩ : ∃ x, xs.getD i 0 = x := ⟨_, rfl⟩
            obtain ⟨y, hyy⟩ : ∃ x, ys.getD i 0 = x := ⟨_, rfl⟩
            rw [hxx] at hxi hla1 hxt
            rw [hyy] at hyi hlb1 hyt
            obtain ⟨u, hu⟩ : ∃ u : Int, y + (bo : Int) = u := ⟨_, rfl⟩
            have hu0 : 0 ≤ u := by omega
            have hu1 : u ≤ 4294967296 := by omega
            obtain ⟨x0, x1⟩ := hxi
            have hgen : ∀ (dg : Int) (bn : Nat), 0 ≤ dg → dg < 4294967296 → bn ≤ 1 → dg + u = x + 4294967296 * (bn : Int) → Hid ((out ++ [dg]).length = i + 1 ∧ Lim (out ++ [dg]) ∧ valL (out ++ [dg]) + valL (ys.take (i + 1)) = valL (xs.take (i + 1)) + 4294967296 ^ (i + 1) * bn) := fun dg bn h0 h1 h2 h3 => Lib.hid ⟨by rw [List.length_append, hol]; rfl, hlo.app (Lim.cons ⟨h0, h1⟩ Lim.nil), by
              have hs := sub_step (4294967296 ^ i) dg.toNat y.toNat bo x.toNat bn (valL out) (valL (ys.take i)) (valL (xs.take i)) (by omega) hval
              rw [valL_app, hol, hxt, hyt, Nat.pow_succ]
              show valL out + 4294967296 ^ i * (dg.toNat + 4294967296 * 0) + _ = _
              rw [Nat.mul_zero, Nat.add_zero]
              exact hs⟩
            have HGEN := Lib.hid hgen
            have HPO := Lib.hid hol
            have HLA1 := Lib.hid hla1
            have HLB1 := Lib.hid hlb1
            have hi2 : (i : Int) < (n : Int) := by omega
            have hi3 : (i : Int) ≤ 256 := by omega
            have HSZ := Lib.hid hsz
            have HWS : Hid (w.heap.size ≤ wr.heap.size + 1) := Lib.hid (by omega)
            by_cases hux : x < u
            · have HG := HGEN.out (x + 4294967296 - u) 1 (by omega) (by omega) (by omega) (by omega)
              obtain ⟨dg, hdg⟩ : ∃ z, x + 4294967296 - u = z := ⟨_, rfl⟩
              rw [hdg] at HG
              have hdw : IntKind.u32.wrap dg = dg := by rw [IntKind.wrap_u32]; omega
              clear hgen hol hlo hval hown hbl hxt hyt hxx hyy hla1 hlb1 HGEN hsz hi hbo
              go_wp2_with (first
                | (go_at_call 39; (with_reducible refine (HLA1.out _ ((HRA.out.below HBL.out).mono HSZ.out)).mono ?_); rintro e _ ⟨rfl, rfl⟩)
                | (go_at_call 39; (with_reducible refine (HLB1.out _ ((HRB.out.below HBL.out).mono HSZ.out)).mono ?_); rintro e _ ⟨rfl, rfl⟩)
                | (at_builtin; refine wpList_append_ints _ rfl (.tmp 42) (.tmp 47) 26 rfl w.heap.size 45 i0 _ 4 .u32 Tryd.underlying26 hi0 hz0' hz1 hzb rfl _ out rfl (HOW.out.alloc _) (wr.heap.size + 1) (some ⟨wr.heap.size, 0, none⟩) 1 1 [dg] rfl (rd_one wr 45 .u32 dg) (by have := HPO.out; simp [maxLen]; omega) (by have := HPO.out; omega) (by have := HWS.out; simp; omega) ?_; intro v6 w6 hown6 hg6 hat6; have hb6 : Below w.heap.size w w6 := (HOW.out.alloc _).below_ (HBL.out.alloc HSZ.out _) (by have := HWS.out; simp; omega) hg6; have HO6 := Lib.hid hown6; have HB6 := Lib.hid hb6; clear hown6 hb6 hg6 hat6))
              go_roundw
              case rel => exact ⟨i + 1, 1, _, by omega, by omega, rfl, by go_num, HG.out.1, HG.out.2.1, HG.out.2.2, HO6.out, HB6.out⟩
              case measure => simp [intOf]; omega
            · have HG := HGEN.out (x - u) 0 (by omega) (by omega) (by omega) (by omega)
              obtain ⟨dg, hdg⟩ : ∃ z, x - u = z := ⟨_, rfl⟩
              rw [hdg] at HG
              have hdw : IntKind.u32.wrap dg = dg := by rw [IntKind.wrap_u32]; omega
              clear hgen hol hlo hval hown hbl hxt hyt hxx hyy hla1 hlb1 HGEN hsz hi hbo
              go_wp2_with (first
                | (go_at_call 39; (with_reducible refine (HLA1.out _ ((HRA.out.below HBL.out).mono HSZ.out)).mono ?_); rintro e _ ⟨rfl, rfl⟩)
                | (go_at_call 39; (with_reducible refine (HLB1.out _ ((HRB.out.below HBL.out).mono HSZ.out)).mono ?_); rintro e _ ⟨rfl, rfl⟩)
                | (at_builtin; refine wpList_append_ints _ rfl (.tmp 42) (.tmp 47) 26 rfl w.heap.size 45 i0 _ 4 .u32 Tryd.underlying26 hi0 hz0' hz1 hzb rfl _ out rfl (HOW.out.alloc _) (wr.heap.size + 1) (some ⟨wr.heap.size, 0, none⟩) 1 1 [dg] rfl (rd_one wr 45 .u32 dg) (by have := HPO.out; simp [maxLen]; omega) (by have := HPO.out; omega) (by have := HWS.out; simp; omega) ?_; intro v6 w6 hown6 hg6 hat6; have hb6 : Below w.heap.size w w6 := (HOW.out.alloc _).below_ (HBL.out.alloc HSZ.out _) (by have := HWS.out; simp; omega) hg6; have HO6 := Lib.hid hown6; have HB6 := Lib.hid hb6; clear hown6 hb6 hg6 hat6))
              go_roundw
              case rel => exact ⟨i + 1, 0, _, by omega, by omega, rfl, by go_num, HG.out.1, HG.out.2.1, HG.out.2.2, HO6.out, HB6.out⟩
              case measure => simp [intOf]; omega
          · obtain rfl : i = n := by omega
            rw [HTX.out, HTY.out] at hval
            have hvl := valL_lt hlo
            rw [hol] at hvl
            have hve := sub_end hbo hval hvl HV.out
            obtain ⟨A7, c7, hv7, hc7, hm7⟩ := hown.form
            subst hv7
            have hrd7 := hown.rd rfl
            have htr := r10trim_c out A7 out.length c7 (by unfold maxLen; omega) hc7 wr hrd7
            have hrt := rd_trim hrd7
            have htl := trimL_len out
            rw [trimL_eq hlo, hve] at htr hrt htl
            have HTR := Lib.hid htr
            have HRT := Lib.hid hrt
            have HTL := Lib.hid (Nat.le_trans htl hc7)
            have HM7 := Lib.hid hm7
            clear hown htr hrt htl hrd7 HOW hval hlo hol hbl hc7 hm7 hve hvl hbo
            go_wp2_with (first
              | (go_at_call 40; (with_reducible refine HTR.out.mono ?_); rintro e _ ⟨rfl, rfl⟩))
            go_ret2
            exact ⟨_, _, rfl, HTL.out, HM7.out, HRT.out, HBL.out⟩
end Go.Proofs.YtoimepmignlmkaaDoor

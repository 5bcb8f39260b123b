/-
  What the program's nat returns: less, Cmp, Sub, over the library's cmp.Compare.
  Conditions: limbs lie in their type's range; the numbers have at most 100,000 limbs.
-/
import Derived.Test.YtoimepmignlmkaaDoorNatC
import Derived.Test.YtoimepmignlmkaaDoorNatD
set_option maxRecDepth 100000
set_option linter.unusedSimpArgs false
namespace Go.Proofs.YtoimepmignlmkaaDoor
open Go.ChangeShapes Go.WideShapes Go.ChangeAt Go.RowKit
set_option linter.unusedVariables false
set_option maxHeartbeats 4000000 in
theorem q10less_c (xs ys : List Int) (hx : Lim xs) (hy : Lim ys) (A B : Option Addr) (n m c d : Nat) (hn : n ≤ 100000) (hmn : m ≤ n) (hv : valL ys ≤ valL xs) (w : World) (hra : Rd .u32 w w.heap.size A n xs) (hrb : Rd .u32 w w.heap.size B m ys) : Calls Tryd.prog 38 #[.slice A n c, .slice B m d] w (RetN w (natL (valL xs - valL ys))) := by
  have hla := hra.len
  have hlb := hrb.len
  have HRA := Lib.hid hra
  have HRB := Lib.hid hrb
  obtain ⟨i0, hi0, hz0, hz1, hzb⟩ := info_parts info_u32d
  have HXG := Lib.hid (fun i => hx.getD i)
  have HYG := Lib.hid (fun i => hy.getD i)
  have HXT := Lib.hid (fun i => valL_take_next xs i)
  have HYT := Lib.hid (fun i => valL_take_next ys i)
  have HYE := Lib.hid (fun i (h : m ≤ i) => show ys.getD i 0 = 0 by rw [List.getD_eq_getElem?_getD, List.getElem?_eq_none (by omega)]; rfl)
  have htx : xs.take n = xs := by rw [← hla, List.take_length]
  have hty : ys.take n = ys := List.take_of_length_le (by omega)
  have HTX := Lib.hid htx
  have HTY := Lib.hid hty
  have HV := Lib.hid hv
  have hmk : ∀ W, (Instr.makeSlice 26 (.int .i64 (n : Int)) (.int .i64 (n : Int))).run Tryd.prog W = .ok (.slice (some ⟨W.heap.size, 0, none⟩) n n) (W.alloc (.cells (intsA .u32 (List.replicate n 0)) 45)) := fun W => run_make_ints (P := Tryd.prog) 26 45 i0 .u32 Tryd.underlying26 hi0 hz0 hz1 .i64 .i64 n (by rw [hzb]; omega) (by omega) W
  have HS0 : Hid (NatS w w.heap.size (List.replicate n 0) (w.alloc (.cells (intsA .u32 (List.replicate n 0)) 45))) := Lib.hid ⟨Blk.new _ _ _, Nat.le_refl _, (Below.refl _ _).alloc (Nat.le_refl _) _⟩
  have HST : Hid (valL (List.replicate n 0) + valL (ys.take 0) = valL (xs.take 0) + 4294967296 ^ 0 * 0) := Lib.hid (by rw [valL_rep]; rfl)
  have nI : (n : Int) ≤ 100000 := by omega
  have mI : (m : Int) ≤ (n : Int) := by omega
  clear hra hrb hx hy hi0 hz0 hz1 hzb htx hty hv hla hlb
  go_enter Tryd.func38, Tryd.ntmps38
  go_wp2
  clear hmk
  obtain ⟨g, hg⟩ : ∃ g, w.heap.size = g := ⟨_, rfl⟩
  have HS1 : Hid (NatS w g (List.replicate n 0) (w.alloc (.cells (intsA .u32 (List.replicate n 0)) 45))) := by rw [← hg]; exact HS0
  rw [hg]
  clear hg HS0
  obtain ⟨w1, hw1⟩ : ∃ w1, w.alloc (.cells (intsA .u32 (List.replicate n 0)) 45) = w1 := ⟨_, rfl⟩
  rw [hw1] at HS1
  rw [hw1]
  clear hw1
  go_loopw [6, 15] (fun cc ii wr => ∃ (i bo : Nat) (out : List Int), i ≤ n ∧ bo ≤ 1 ∧ cc = .int .u64 (bo : Int) ∧ ii = .int .i64 (i : Int) ∧ out.length = n ∧ Lim out ∧ (∀ t, i ≤ t → out.getD t 0 = 0) ∧ valL out + valL (ys.take i) = valL (xs.take i) + 4294967296 ^ i * bo ∧ NatS w g out wr) (fun _ ii _ => n - (intOf ii).toNat)
  case atStart => exact ⟨0, 0, _, by omega, by omega, rfl, rfl, List.length_replicate, Lim.rep _, fun t _ => getD_rep0 _ t, HST.out, HS1.out⟩
  case round =>
    clear HST HS1
    obtain ⟨i, bo, out, hi, hbo, rfl, rfl, hol, hlo, hzr, hval, hns⟩ := hrel
    have HNS := Lib.hid hns
    by_cases hin : i < n
    · obtain ⟨b1, o1, rfl, _, hc1⟩ := (HRA.out.below hns.bel).at_ (by omega)
      have hk1 := hc1 i hin
      have hxi := HXG.out i
      have hyi := HYG.out i
      have hxt := HXT.out i
      have hyt := HYT.out i
      have hye := HYE.out i
      obtain ⟨x, hxx⟩ : ∃ x, xs.getD i 0 = x := ⟨_, rfl⟩
      obtain ⟨y, hyy⟩ : ∃ x, ys.getD i 0 = x := ⟨_, rfl⟩
      rw [hxx] at hxi hxt hk1
      rw [hyy] at hyi hyt hye
      obtain ⟨x0, x1⟩ := hxi
      obtain ⟨u, hu⟩ : ∃ u : Int, y + (bo : Int) = u := ⟨_, rfl⟩
      have hgen : ∀ (dg : Int) (bn : Nat), 0 ≤ dg → dg < 4294967296 → bn ≤ 1 → dg + u = x + 4294967296 * (bn : Int) → Hid ((out.set i dg).length = n ∧ Lim (out.set i dg) ∧ (∀ t, i + 1 ≤ t → (out.set i dg).getD t 0 = 0) ∧ valL (out.set i dg) + valL (ys.take (i + 1)) = valL (xs.take (i + 1)) + 4294967296 ^ (i + 1) * bn) := fun dg bn h0 h1 h2 h3 => Lib.hid ⟨by rw [List.length_set]; exact hol, hlo.set i ⟨h0, h1⟩, set_past dg hzr, by
        have hs := sub_step (4294967296 ^ i) dg.toNat y.toNat bo x.toNat bn (valL out) (valL (ys.take i)) (valL (xs.take i)) (by omega) hval
        have hset := valL_set out i dg (by omega)
        rw [hzr i (Nat.le_refl _)] at hset
        have h0 : 4294967296 ^ i * (0 : Int).toNat = 0 := Nat.mul_zero _
        rw [h0, Nat.add_zero] at hset
        rw [hset, hxt, hyt, Nat.pow_succ]
        exact hs⟩
      have HI1 : Hid (i + 1 ≤ n) := Lib.hid (by omega)
      have i1 : (i : Int) < (n : Int) := by omega
      have HJS := Lib.hid (nat_lt (out := out) (j := i) (by omega))
      obtain ⟨R1, hR1⟩ : ∃ z : Int, (x - (bo : Int)) % 18446744073709551616 = z := ⟨_, rfl⟩
      obtain ⟨R2, hR2⟩ : ∃ z : Int, (x - u) % 18446744073709551616 = z := ⟨_, rfl⟩
      have f1 : IntKind.u64.wrap x = x := by rw [IntKind.wrap_u64]; omega
      have f2 : IntKind.u64.wrap (x - (bo : Int)) = R1 := by rw [IntKind.wrap_u64]; exact hR1
      obtain ⟨dg, bn, hd0, hd1, hb1, hdd, hdw, hbw⟩ : ∃ (dg : Int) (bn : Nat), 0 ≤ dg ∧ dg < 4294967296 ∧ bn ≤ 1 ∧ dg + u = x + 4294967296 * (bn : Int) ∧ IntKind.u32.wrap R2 = dg ∧ R2 / 9223372036854775808 = (bn : Int) := by
        by_cases hux : x < u
        · exact ⟨x + 4294967296 - u, 1, by omega, by omega, by omega, by omega, by rw [IntKind.wrap_u32]; omega, by omega⟩
        · exact ⟨x - u, 0, by omega, by omega, by omega, by omega, by rw [IntKind.wrap_u32]; omega, by omega⟩
      have HG := hgen dg bn hd0 hd1 hb1 hdd
      have HB1 := Lib.hid hb1
      have hbn : IntKind.u64.wrap (bn : Int) = (bn : Int) := by rw [IntKind.wrap_u64]; omega
      have R0 : 0 ≤ R2 := by omega
      have R3 : R2 < 18446744073709551616 := by omega
      have bI : (bn : Int) ≤ 1 := by omega
      by_cases him : i < m
      · obtain ⟨b2, o2, rfl, _, hc2⟩ := (HRB.out.below hns.bel).at_ (by omega)
        have hk2 := hc2 i him
        rw [hyy] at hk2
        obtain ⟨y0, y1⟩ := hyi
        have f3 : IntKind.u64.wrap y = y := by rw [IntKind.wrap_u64]; omega
        have f4 : IntKind.u64.wrap (R1 - y) = R2 := by rw [IntKind.wrap_u64]; omega
        have i2 : (i : Int) < (m : Int) := by omega
        clear hns hol hlo hzr hval hc1 hc2 hxx hyy hye hgen hu hR1 hR2 hdd hb1 hxt hyt hi hin him hbo
        go_wp2_with (first
          | (with_reducible refine at_any ?_; refine at_store 41 rfl ?_; refine wpList_store_cell rfl 45 (.tmp 41) (.tmp 38) rfl g i rfl 45 (intsA .u32 out) (NatS.blk HNS.out) (.int .u32 dg) rfl HJS.out size_u32s rfl rfl ?_; intro w90 hk90 ho90; have HF9 := Lib.hid (NatS.set HNS.out hk90.out ho90); clear hk90 ho90))
        go_roundw
        case rel => exact ⟨i + 1, bn, _, HI1.out, HB1.out, rfl, by go_num, HG.out.1, HG.out.2.1, HG.out.2.2.1, HG.out.2.2.2, HF9.out⟩
        case measure => have := HI1.out; simp [intOf]; omega
      · have hy0 : y = 0 := hye (by omega)
        subst hy0
        obtain rfl : R2 = R1 := by omega
        have i2 : ¬ (i : Int) < (m : Int) := by omega
        clear hns hol hlo hzr hval hc1 hxx hyy hye hgen hu hR1 hR2 hdd hb1 hxt hyt hi hin him hbo
        go_wp2_with (first
          | (with_reducible refine at_any ?_; refine at_store 41 rfl ?_; refine wpList_store_cell rfl 45 (.tmp 41) (.tmp 38) rfl g i rfl 45 (intsA .u32 out) (NatS.blk HNS.out) (.int .u32 dg) rfl HJS.out size_u32s rfl rfl ?_; intro w90 hk90 ho90; have HF9 := Lib.hid (NatS.set HNS.out hk90.out ho90); clear hk90 ho90))
        go_roundw
        case rel => exact ⟨i + 1, bn, _, HI1.out, HB1.out, rfl, by go_num, HG.out.1, HG.out.2.1, HG.out.2.2.1, HG.out.2.2.2, HF9.out⟩
        case measure => have := HI1.out; simp [intOf]; omega
    · obtain rfl : i = n := by omega
      rw [HTX.out, HTY.out] at hval
      have hvl := valL_lt hlo
      rw [hol] at hvl
      have hve := sub_end hbo hval hvl HV.out
      have hrd7 := hns.rd
      have htr := q10trim_c out (some ⟨g, 0, none⟩) out.length i (by unfold maxLen; omega) (by omega) wr hrd7
      have hrt := rd_trim hrd7
      have htl := trimL_len out
      rw [trimL_eq hlo, hve] at htr hrt htl
      rw [hol] at htr htl
      have HTR := Lib.hid htr
      have HRT := Lib.hid hrt
      have HTL := Lib.hid htl
      have HBL := Lib.hid hns.bel
      have HML : Hid (i ≤ maxLen) := Lib.hid (by unfold maxLen; omega)
      clear htr hrt htl hrd7 hval hlo hol hns hve hvl hbo hzr
      go_wp2_with (first
        | (go_at_call 42; (with_reducible refine HTR.out.mono ?_); rintro e _ ⟨rfl, rfl⟩))
      go_ret
      exact ⟨_, _, rfl, HTL.out, HML.out, HRT.out, HBL.out⟩
def cmpI (x y : Int) : Int := if x < y then -1 else if y < x then 1 else 0
theorem cmpI_lt {x y : Int} (h : x < y) : cmpI x y = -1 := by unfold cmpI; rw [if_pos h]
theorem cmpI_gt {x y : Int} (h : y < x) : cmpI x y = 1 := by unfold cmpI; rw [if_neg (by omega), if_pos h]
theorem cmpint_c (x y : Int) (hne : x ≠ y) (w : World) : Calls Tryd.prog 43 #[.int .i64 x, .int .i64 y] w fun e w' => e = .returned (.int .i64 (cmpI x y)) ∧ w = w' := by
  have t1 : (x != x) = false := by simp
  have t2 : (y != y) = false := by simp
  by_cases h : x < y
  · rw [cmpI_lt h]
    go_enter Tryd.func43, Tryd.ntmps43
    go_wp2
    go_ret
    exact ⟨rfl, rfl⟩
  · have h2 : y < x := by omega
    rw [cmpI_gt h2]
    go_enter Tryd.func43, Tryd.ntmps43
    go_wp2
    go_ret
    exact ⟨rfl, rfl⟩
theorem cmpu32_c (x y : Int) (hne : x ≠ y) (w : World) : Calls Tryd.prog 44 #[.int .u32 x, .int .u32 y] w fun e w' => e = .returned (.int .i64 (cmpI x y)) ∧ w = w' := by
  have t1 : (x != x) = false := by simp
  have t2 : (y != y) = false := by simp
  by_cases h : x < y
  · rw [cmpI_lt h]
    go_enter Tryd.func44, Tryd.ntmps44
    go_wp2
    go_ret
    exact ⟨rfl, rfl⟩
  · have h2 : y < x := by omega
    rw [cmpI_gt h2]
    go_enter Tryd.func44, Tryd.ntmps44
    go_wp2
    go_ret
    exact ⟨rfl, rfl⟩
end Go.Proofs.YtoimepmignlmkaaDoor

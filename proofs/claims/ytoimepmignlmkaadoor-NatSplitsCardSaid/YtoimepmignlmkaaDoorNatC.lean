/-
  What the program's nat returns: times.
  Conditions: limbs lie in their type's range; the numbers have at most 100,000 limbs.
-/
import Derived.Test.YtoimepmignlmkaaDoorNatB
set_option maxRecDepth 100000
set_option linter.unusedSimpArgs false
namespace Go.Proofs.YtoimepmignlmkaaDoor
open Go.ChangeShapes Go.WideShapes Go.ChangeAt Go.RowKit
set_option linter.unusedVariables false
set_option maxHeartbeats 8000000 in
theorem q10times_c (xs ys : List Int) (hx : Lim xs) (hy : Lim ys) (A B : Option Addr) (n m c d : Nat) (hn : n ≤ 100000) (hm : m ≤ 100000) (w : World) (hra : Rd .u32 w w.heap.size A n xs) (hrb : Rd .u32 w w.heap.size B m ys) : Calls Tryd.prog 36 #[.slice A n c, .slice B m d] w (RetN w (natL (valL xs * valL ys))) := by
  have hlx := hra.len
  have hly := hrb.len
  have HRA := Lib.hid hra
  have HRB := Lib.hid hrb
  obtain ⟨i0, hi0, hz0, hz1, hzb⟩ := info_parts info_u32d
  have HXG := Lib.hid (fun i => hx.getD i)
  have HYG := Lib.hid (fun i => hy.getD i)
  have HYD := Lib.hid (fun i => valL_drop_getD ys i)
  have HXT := Lib.hid (fun i (h : i < n) => valL_take_succ xs i (by omega))
  have HDY := Lib.hid (show valL (ys.drop m) = 0 by rw [List.drop_eq_nil_of_le (by omega)]; rfl)
  have hyl := valL_lt hy
  have hxl := fun i => valL_lt (hx.take i)
  rw [hly] at hyl
  have HYL := Lib.hid hyl
  have HXL := Lib.hid hxl
  obtain ⟨L, hL⟩ : ∃ L, n + m = L := ⟨_, rfl⟩
  have hLI : (n : Int) + (m : Int) = (L : Int) := by omega
  have hL2 : (L : Int) ≤ 200000 := by omega
  have hmk : ∀ W, (Instr.makeSlice 26 (.int .i64 (L : Int)) (.int .i64 (L : Int))).run Tryd.prog W = .ok (.slice (some ⟨W.heap.size, 0, none⟩) L L) (W.alloc (.cells (intsA .u32 (List.replicate L 0)) 45)) := fun W => run_make_ints (P := Tryd.prog) 26 45 i0 .u32 Tryd.underlying26 hi0 hz0 hz1 .i64 .i64 L (by rw [hzb]; omega) (by omega) W
  have HS0 : Hid (NatS w w.heap.size (List.replicate L 0) (w.alloc (.cells (intsA .u32 (List.replicate L 0)) 45))) := Lib.hid ⟨Blk.new _ _ _, Nat.le_refl _, (Below.refl _ _).alloc (Nat.le_refl _) _⟩
  have hst : valL (List.replicate L 0) = valL (xs.take 0) * valL ys := by rw [valL_rep, List.take_zero]; show 0 = 0 * _; omega
  have HST := Lib.hid hst
  have htk : xs.take n = xs := by rw [← hlx, List.take_length]
  have HTK := Lib.hid htk
  obtain ⟨Y, hY⟩ : ∃ Y, valL ys = Y := ⟨_, rfl⟩
  rw [hY] at HYL HST ⊢
  have hY0 : valL (ys.drop 0) = Y := by rw [List.drop_zero]; exact hY
  have HY0 := Lib.hid hY0
  have nI : (n : Int) ≤ 100000 := by omega
  have mI : (m : Int) ≤ 100000 := by omega
  have HNM : Hid (n + m = L) := Lib.hid hL
  clear hra hrb hx hy hst hly hyl hxl hY hY0 hlx hi0 hz0 hz1 hzb htk
  go_enter Tryd.func36, Tryd.ntmps36
  go_wp2
  clear hmk hLI
  obtain ⟨g, hg⟩ : ∃ g, w.heap.size = g := ⟨_, rfl⟩
  have HS1 : Hid (NatS w g (List.replicate L 0) (w.alloc (.cells (intsA .u32 (List.replicate L 0)) 45))) := by rw [← hg]; exact HS0
  rw [hg]
  clear hg HS0
  obtain ⟨w1, hw1⟩ : ∃ w1, w.alloc (.cells (intsA .u32 (List.replicate L 0)) 45) = w1 := ⟨_, rfl⟩
  rw [hw1] at HS1
  rw [hw1]
  clear hw1
  go_loopw [20] (fun ii wr => ∃ (i : Nat) (out : List Int), i ≤ n ∧ ii = .int .i64 (i : Int) ∧ out.length = L ∧ Lim out ∧ valL out = valL (xs.take i) * Y ∧ NatS w g out wr) (fun ii _ => n - (intOf ii).toNat)
  case atStart => exact ⟨0, _, by omega, rfl, List.length_replicate, Lim.rep _, HST.out, HS1.out⟩
  case round =>
    clear HST HS1
    obtain ⟨i, out0, hi, rfl, hol, hlo, hval, hns⟩ := hrel
    by_cases hin : i < n
    · have HNS := Lib.hid hns
      have hxi := HXG.out i
      have hxt := HXT.out i hin
      obtain ⟨b, off, rfl, hblt, hxc⟩ := (HRA.out.below hns.bel).at_ (by omega)
      have hxci := hxc i hin
      obtain ⟨x, hxx⟩ : ∃ x, xs.getD i 0 = x := ⟨_, rfl⟩
      rw [hxx] at hxi hxci hxt
      have hzt : out0.getD (i + m) 0 = 0 := limb_zero hlo (by
        rw [hval, Nat.pow_add]
        have h1 := HXL.out i
        have h2 := HYL.out
        have h3 : (xs.take i).length = i := by rw [List.length_take, HRA.out.len]; omega
        rw [h3] at h1
        exact Nat.mul_lt_mul'' h1 h2)
      obtain ⟨V, hV⟩ : ∃ V, valL out0 + 4294967296 ^ i * (0 + x.toNat * Y) = V := ⟨_, rfl⟩
      have HST : Hid (valL out0 + 4294967296 ^ (i + 0) * (0 + x.toNat * valL (ys.drop 0)) = V) := Lib.hid (by rw [HY0.out, Nat.add_zero]; exact hV)
      have HVV : Hid (V = valL (xs.take (i + 1)) * Y) := Lib.hid (by
        rw [← hV, hval, hxt, Nat.zero_add, Nat.add_mul, Nat.mul_assoc])
      have HZT := Lib.hid hzt
      have HOL := Lib.hid hol
      have HLO := Lib.hid hlo
      have hiI : (i : Int) < (n : Int) := by omega
      have HI1 : Hid (i + 1 ≤ n) := Lib.hid (by omega)
      obtain ⟨x0, x1⟩ := hxi
      have HXB : Hid (x.toNat < 4294967296) := Lib.hid (by omega)
      have HXN := Lib.hid (Int.toNat_of_nonneg x0)
      have hxw : IntKind.u64.wrap x = x := by rw [IntKind.wrap_u64]; omega
      clear hns hol hlo hval hxt hxc hxx hzt hV hblt hi
      go_wp2
      obtain ⟨wo, hwo⟩ : ∃ wo : World, wo = wr := ⟨_, rfl⟩
      rw [← hwo] at HNS
      rw [← hwo]
      clear hwo hxci wr
      go_loopw [8, 27] (fun cc kk wr => ∃ (k r : Nat) (out : List Int), k ≤ m ∧ r < 4294967296 ∧ cc = .int .u64 (r : Int) ∧ kk = .int .i64 (k : Int) ∧ out.length = L ∧ Lim out ∧ valL out + 4294967296 ^ (i + k) * (r + x.toNat * valL (ys.drop k)) = V ∧ out.getD (i + m) 0 = 0 ∧ NatS w g out wr) (fun _ kk _ => m - (intOf kk).toNat)
      case atStart => exact ⟨0, 0, out0, by omega, by omega, rfl, rfl, HOL.out, HLO.out, HST.out, HZT.out, HNS.out⟩
      case round =>
        clear HST HNS HOL HLO HZT
        obtain ⟨k, r, out, hk, hr1, rfl, rfl, hol, hlo, hval, hzt, hns⟩ := hrel
        by_cases hkm : k < m
        · have hyi := HYG.out k
          obtain ⟨b2, off2, rfl, _, hyc⟩ := (HRB.out.below hns.bel).at_ (by omega)
          have hyci := hyc k hkm
          rw [HYD.out k] at hval
          obtain ⟨y, hyy⟩ : ∃ x, ys.getD k 0 = x := ⟨_, rfl⟩
          rw [hyy] at hyi hyci hval
          obtain ⟨j, hj⟩ : ∃ j, i + k = j := ⟨_, rfl⟩
          have hjL : j < L := by have := HI1.out; have := HNM.out; omega
          have hoi := hlo.getD j
          obtain ⟨o, hoo⟩ : ∃ o, out.getD j 0 = o := ⟨_, rfl⟩
          have hoc := hns.at_ (j := j) (by omega)
          rw [hoo] at hoi hoc
          have hxb := mul_bound HXB.out (show y.toNat < 4294967296 by omega)
          obtain ⟨t, ht⟩ : ∃ t, x.toNat * y.toNat = t := ⟨_, rfl⟩
          have htI : x * y = (t : Int) := by
            rw [← ht, Int.natCast_mul, HXN.out, Int.toNat_of_nonneg hyi.1]
          rw [ht] at hxb
          obtain ⟨s, hs⟩ : ∃ s : Nat, s = o.toNat + t + r := ⟨_, rfl⟩
          have hsb : s < 18446744073709551616 := by omega
          obtain ⟨p, hp⟩ : ∃ p, s % 4294967296 = p := ⟨_, rfl⟩
          obtain ⟨q, hq⟩ : ∃ p, s / 4294967296 = p := ⟨_, rfl⟩
          have hpq : p + 4294967296 * q = s := by omega
          have hset := valL_set out j (p : Int) (by omega)
          rw [hoo, Int.toNat_natCast] at hset
          rw [hj] at hval
          have hnew := mul_step (4294967296 ^ j) p q r o.toNat x.toNat y.toNat (valL (ys.drop (k + 1))) (valL out) (valL (out.set j (p : Int))) V (by rw [ht]; omega) hset hval
          have HV2 : Hid (valL (out.set j (p : Int)) + 4294967296 ^ (i + (k + 1)) * (q + x.toNat * valL (ys.drop (k + 1))) = V) := Lib.hid (by rw [← Nat.add_assoc, hj, Nat.pow_succ]; exact hnew)
          have HLM2 := Lib.hid (hlo.set j (x := (p : Int)) ⟨by omega, by omega⟩)
          have HL2 : Hid ((out.set j (p : Int)).length = L) := Lib.hid (by rw [List.length_set]; exact hol)
          have HK2 : Hid (k + 1 ≤ m) := Lib.hid (by omega)
          have HQ1 : Hid (q < 4294967296) := Lib.hid (by omega)
          have HZ2 : Hid ((out.set j (p : Int)).getD (i + m) 0 = 0) := Lib.hid (by
            rw [List.getD_eq_getElem?_getD] at hzt ⊢
            rw [List.getElem?_set_ne (by omega)]
            exact hzt)
          have f0 : (i : Int) + (k : Int) = (j : Int) := by omega
          have f1 : IntKind.i64.wrap (j : Int) = (j : Int) := by rw [IntKind.wrap_i64]; omega
          have f2 : (j : Int) < (L : Int) := by omega
          have f3 : IntKind.u64.wrap o = o := by rw [IntKind.wrap_u64]; omega
          have f4 : IntKind.u64.wrap y = y := by rw [IntKind.wrap_u64]; omega
          have f5 : IntKind.u64.wrap (t : Int) = (t : Int) := by rw [IntKind.wrap_u64]; omega
          obtain ⟨u, hu⟩ : ∃ u : Int, (t : Int) + o = u := ⟨_, rfl⟩
          have f6 : IntKind.u64.wrap u = u := by rw [IntKind.wrap_u64]; omega
          have f7 : u + (r : Int) = (s : Int) := by omega
          have f8 : IntKind.u64.wrap (s : Int) = (s : Int) := by rw [IntKind.wrap_u64]; omega
          have f9 : IntKind.u32.wrap (s : Int) = (p : Int) := by rw [IntKind.wrap_u32]; omega
          have f10 : (s : Int) / 4294967296 = (q : Int) := by omega
          have f11 : IntKind.u64.wrap (q : Int) = (q : Int) := by rw [IntKind.wrap_u64]; omega
          have k1 : (k : Int) < (m : Int) := by omega
          have HJS := Lib.hid (nat_lt (out := out) (j := j) (by omega))
          have HNS := Lib.hid hns
          obtain ⟨y0, y1⟩ := hyi
          clear hns hol hlo hval hzt hyc hyy hj hjL hoi hoo hxb ht hs hsb hp hq hpq hset hnew hk hkm hr1
          go_wp2_with (first
            | (with_reducible refine at_any ?_; refine at_store 55 rfl ?_; refine wpList_store_cell rfl 45 (.tmp 55) (.tmp 52) rfl g j rfl 45 (intsA .u32 out) (NatS.blk HNS.out) (.int .u32 (p : Int)) rfl HJS.out size_u32s rfl rfl ?_; intro w90 hk90 ho90; have HF9 := Lib.hid (NatS.set HNS.out hk90.out ho90); clear hk90 ho90))
          go_roundw
          case rel => exact ⟨k + 1, q, _, HK2.out, HQ1.out, rfl, by go_num, HL2.out, HLM2.out, HV2.out, HZ2.out, HF9.out⟩
          case measure => have := HK2.out; simp [intOf]; omega
        · obtain rfl : k = m := by omega
          obtain ⟨j, hj⟩ : ∃ j, i + k = j := ⟨_, rfl⟩
          rw [hj, HDY.out, Nat.mul_zero, Nat.add_zero] at hval
          rw [hj] at hzt
          have hjL : j < L := by have := HI1.out; have := HNM.out; omega
          have hset := valL_set out j (r : Int) (by omega)
          rw [hzt, Int.toNat_natCast] at hset
          have hfin : valL (out.set j (r : Int)) = V := by
            have h0 : 4294967296 ^ j * (0 : Int).toNat = 0 := Nat.mul_zero _
            rw [h0] at hset
            omega
          have HVT := Lib.hid (hfin.trans HVV.out)
          have HLM2 := Lib.hid (hlo.set j (x := (r : Int)) ⟨by omega, by omega⟩)
          have HL2 : Hid ((out.set j (r : Int)).length = L) := Lib.hid (by rw [List.length_set]; exact hol)
          have f0 : (i : Int) + (k : Int) = (j : Int) := by omega
          have f1 : IntKind.i64.wrap (j : Int) = (j : Int) := by rw [IntKind.wrap_i64]; omega
          have f2 : (j : Int) < (L : Int) := by omega
          have f3 : IntKind.u32.wrap (r : Int) = (r : Int) := by rw [IntKind.wrap_u32]; omega
          have HJS := Lib.hid (nat_lt (out := out) (j := j) (by omega))
          have HNS := Lib.hid hns
          clear hk hr1 hol hlo hval hzt hns hkm hset hfin hj hjL
          go_wp2_with (first
            | (with_reducible refine at_any ?_; refine at_store 64 rfl ?_; refine wpList_store_cell rfl 45 (.tmp 64) (.tmp 63) rfl g j rfl 45 (intsA .u32 out) (NatS.blk HNS.out) (.int .u32 (r : Int)) rfl HJS.out size_u32s rfl rfl ?_; intro w90 hk90 ho90; have HF9 := Lib.hid (NatS.set HNS.out hk90.out ho90); clear hk90 ho90))
          go_roundw
          case rel => exact ⟨i + 1, _, HI1.out, by go_num, HL2.out, HLM2.out, HVT.out, HF9.out⟩
          case measure => have := HI1.out; simp [intOf]; omega
    · obtain rfl : i = n := by omega
      rw [HTK.out] at hval
      have hrd7 := hns.rd
      have htr := q10trim_c out0 (some ⟨g, 0, none⟩) out0.length L (by unfold maxLen; omega) (by omega) wr hrd7
      have hrt := rd_trim hrd7
      have htl := trimL_len out0
      rw [trimL_eq hlo, hval] at htr hrt htl
      rw [hol] at htr htl
      have HTR := Lib.hid htr
      have HRT := Lib.hid hrt
      have HTL := Lib.hid htl
      have HBL := Lib.hid hns.bel
      have HML : Hid (L ≤ maxLen) := Lib.hid (by unfold maxLen; omega)
      clear htr hrt htl hrd7 hval hlo hol hns
      go_wp2_with (first
        | (go_at_call 42; (with_reducible refine HTR.out.mono ?_); rintro e _ ⟨rfl, rfl⟩))
      go_ret
      exact ⟨_, _, rfl, HTL.out, HML.out, HRT.out, HBL.out⟩
end Go.Proofs.YtoimepmignlmkaaDoor

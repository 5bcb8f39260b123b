/-
  What drawlotref10's Div return.
  Conditions: limbs lie in their type's range; the numbers have at most 100,000 limbs.
-/
import Derived.Test.YtoimepmignlmkaaDoorRefU
set_option maxRecDepth 100000
set_option linter.unusedSimpArgs false
namespace Go.Proofs.YtoimepmignlmkaaDoor
open Go.ChangeShapes Go.WideShapes Go.ChangeAt Go.RowKit
set_option linter.unusedVariables false
def r10AnyN (_ : World) : Prop := True
theorem r10bit_le (t : Nat) (h : t ≤ 31) : 2 ^ t ≤ 2147483648 := Nat.pow_le_pow_right (n := 2) (by omega) h
set_option maxHeartbeats 8000000 in
theorem r10div_c (xs : List Int) (hx : Lim xs) (A : Option Addr) (n c : Nat) (hn : n ≤ maxLen) (d : Int) (d0 : 0 ≤ d) (d1 : d < 18446744073709551616) (w : World) (hra : Rd .u32 w w.heap.size A n xs) : Calls Tryd.prog 18 #[.slice A n c, .int .u64 d] w (RetND w (natL (divV xs d)) (divL xs d) (divE xs d)) := by
  have hr1 := fun W h => r10right_c xs A n c hn W h
  have HRA := Lib.hid hra
  have hla := hra.len
  by_cases hok : rightN xs = true ∧ 1 ≤ d ∧ d < 9223372036854775808
  · have e1 : divV xs d = valL xs / d.toNat := if_pos hok
    have e2 : divL xs d = valL xs % d.toNat := if_pos hok
    have e3 : divE xs d = 0 := if_pos hok
    obtain ⟨h1, h2, h3⟩ := hok
    rw [e1, e2, e3]
    rw [h1] at hr1
    have HR1 := Lib.hid hr1
    have hn256 : n ≤ 256 := by rw [← hla]; exact rightN_len h1
    obtain ⟨dn, hdn⟩ : ∃ dn, d.toNat = dn := ⟨_, rfl⟩
    have hdI : (dn : Int) = d := by omega
    rw [hdn]
    obtain ⟨i0, hi0, hz0, hz1, hzb⟩ := info_parts info_u32d
    have hmk : ∀ W, (Instr.makeSlice 26 (.int .i64 (n : Int)) (.int .i64 (n : Int))).run Tryd.prog W = .ok (.slice (some ⟨W.heap.size, 0, none⟩) n n) (W.alloc (.cells (intsA .u32 (List.replicate n 0)) 45)) := fun W => run_make_ints (P := Tryd.prog) 26 45 i0 .u32 Tryd.underlying26 hi0 hz0 hz1 .i64 .i64 n (by rw [hzb]; omega) (by omega) W
    have HS0 : Hid (NatS w w.heap.size (List.replicate n 0) (w.alloc (.cells (intsA .u32 (List.replicate n 0)) 45))) := Lib.hid ⟨Blk.new _ _ _, Nat.le_refl _, (Below.refl _ _).alloc (Nat.le_refl _) _⟩
    have HXG := Lib.hid (fun i => hx.getD i)
    have HXD := Lib.hid (fun i => valL_drop_getD xs i)
    have hst : valL ((List.replicate n 0).drop n) * dn + 0 = valL (xs.drop n) := by
      rw [List.drop_eq_nil_of_le (by simp), List.drop_eq_nil_of_le (by omega)]
      show 0 * dn + 0 = 0
      omega
    have HST := Lib.hid hst
    have HZR := Lib.hid (fun t (h : t < n) => show (List.replicate n (0 : Int)).getD t 0 = 0 by rw [List.getD_eq_getElem?_getD, List.getElem?_replicate]; split <;> rfl)
    have hnI : (n : Int) ≤ 256 := by omega
    have hd1 : 1 ≤ dn := by omega
    have HD1 := Lib.hid hd1
    have HDI := Lib.hid hdI
    clear hr1 hra hx e1 e2 e3 h1 hn hst hdn hla d0 d1 hi0 hz0 hz1 hzb
    go_enter Tryd.func18, Tryd.ntmps18
    go_wp2_with (first
      | (go_at_call 23; (with_reducible refine (HR1.out _ HRA.out).mono ?_); rintro e _ ⟨rfl, rfl⟩))
    clear hmk
    obtain ⟨g, hg⟩ : ∃ g, w.heap.size = g := ⟨_, rfl⟩
    have HS1 : Hid (NatS w g (List.replicate n 0) (w.alloc (.cells (intsA .u32 (List.replicate n 0)) 45))) := by rw [← hg]; exact HS0
    rw [hg]
    clear hg HS0
    obtain ⟨w1, hw1⟩ : ∃ w1, w.alloc (.cells (intsA .u32 (List.replicate n 0)) 45) = w1 := ⟨_, rfl⟩
    rw [hw1] at HS1
    rw [hw1]
    clear hw1
    go_loopw [8, 9] (fun lf ii wr => ∃ (j left : Nat) (out : List Int), j ≤ n ∧ lf = .int .u64 (left : Int) ∧ ii = .int .i64 ((j : Int) - 1) ∧ out.length = n ∧ Lim out ∧ (∀ t, t < j → out.getD t 0 = 0) ∧ left < dn ∧ valL (out.drop j) * dn + left = valL (xs.drop j) ∧ NatS w g out wr) (fun _ ii _ => (intOf ii + 1).toNat)
    case atStart => exact ⟨n, 0, _, Nat.le_refl _, rfl, by go_num, List.length_replicate, Lim.rep _, HZR.out, HD1.out, HST.out, HS1.out⟩
    case round =>
      clear HST HS1 HZR
      obtain ⟨j, left, out, hj, rfl, rfl, hol, hlo, hzr, hlt, hval, hns⟩ := hrel
      rcases j with _ | m
      · rw [List.drop_zero, List.drop_zero] at hval
        obtain ⟨hq, hl⟩ := div_end hval hlt
        have hrd7 := hns.rd
        have htr := r10trim_c out (some ⟨g, 0, none⟩) out.length n (by unfold maxLen; omega) (by omega) wr hrd7
        have hrt := rd_trim hrd7
        have htl := trimL_len out
        rw [trimL_eq hlo, hq] at htr hrt htl
        rw [hol] at htr htl
        have HTR := Lib.hid htr
        have HRT := Lib.hid hrt
        have HTL := Lib.hid htl
        have HBL := Lib.hid hns.bel
        have HML : Hid (n ≤ maxLen) := Lib.hid (by unfold maxLen; omega)
        have HLL := Lib.hid hl
        clear htr hrt htl hrd7 hval hlo hol hns hq hl hlt hzr
        rw [show ((0 : Nat) : Int) - 1 = -1 from rfl]
        go_wp2_with (first
          | (go_at_call 40; (with_reducible refine HTR.out.mono ?_); rintro e _ ⟨rfl, rfl⟩))
        go_returns
        rw [← HLL.out]
        exact ⟨_, _, rfl, HTL.out, HML.out, HRT.out, HBL.out⟩
      · have hmn : m < n := by omega
        rw [show ((m + 1 : Nat) : Int) - 1 = (m : Int) by omega]
        obtain ⟨b, off, rfl, hblt, hxc⟩ := HRA.out.at_ (by omega)
        have hxci := hxc m hmn
        have hxi := HXG.out m
        have hxd := HXD.out m
        obtain ⟨x, hxx⟩ : ∃ x, xs.getD m 0 = x := ⟨_, rfl⟩
        rw [hxx] at hxi hxci hxd
        obtain ⟨xn, rfl⟩ := Int.eq_ofNat_of_zero_le hxi.1
        rw [Int.toNat_natCast] at hxd
        have HXC0 := Lib.hid (fun W (h : Below w.heap.size w W) => (h.cell (p := ⟨b, off + m, none⟩) hblt).trans hxci)
        have hz0 := hzr m (by omega)
        have HSTI := Lib.hid (DivI.start (x := xn) (by omega) hlt hval)
        have HXD1 := Lib.hid hxd
        have HOL := Lib.hid hol
        have HLO := Lib.hid hlo
        have HZR1 := Lib.hid (fun t (h : t < m) => hzr t (by omega))
        have HNS : Hid (NatS w g (out.set m ((0 * 2 ^ 32 : Nat) : Int)) wr) := Lib.hid (by rw [Nat.zero_mul, Int.natCast_zero, set_self0 hz0]; exact hns)
        have hm0 : (m : Int) < (n : Int) := by omega
        have hmI : (m : Int) ≤ 256 := by omega
        have HMN := Lib.hid hm0
        have HMJ : Hid (m ≤ n) := Lib.hid (by omega)
        have HML0 : Hid (m < out.length) := Lib.hid (by omega)
        have HX1 : Hid (xn < 4294967296) := Lib.hid (by omega)
        have hl9 : (left : Int) < 18446744073709551616 := by omega
        obtain ⟨Q0, hQ0⟩ : ∃ q, valL (out.drop (m + 1)) = q := ⟨_, rfl⟩
        obtain ⟨X0, hX0⟩ : ∃ q, valL (xs.drop (m + 1)) = q := ⟨_, rfl⟩
        rw [hQ0, hX0] at HSTI
        rw [hX0] at HXD1
        have HQ0 := Lib.hid hQ0
        clear hol hlo hzr hlt hval hns hxci hxi hxd hxx hz0 hxc hj hQ0 hX0 hblt
        go_wp2
        obtain ⟨wo, hwo⟩ : ∃ wo : World, wo = wr := ⟨_, rfl⟩
        rw [← hwo] at HNS
        rw [← hwo]
        clear hwo wr hl9
        go_loopw [8, 10] (fun lf bt wr => ∃ (u oq lf' : Nat), DivI Q0 X0 xn dn u oq lf' ∧ lf = .int .u64 (lf' : Int) ∧ bt = .int .u32 ((2 ^ u / 2 : Nat) : Int) ∧ NatS w g (out.set m ((oq * 2 ^ u : Nat) : Int)) wr) (fun _ bt _ => (intOf bt).toNat)
        case atStart => exact ⟨32, 0, left, HSTI.out, rfl, rfl, HNS.out⟩
        case round =>
          clear HSTI HNS
          obtain ⟨u, oq, left, hdi, rfl, rfl, hns⟩ := hrel
          rcases u with _ | t
          · have hdone := hdi.done
            have HNB : Hid (NatS w g (out.set m (oq : Int)) wr) := Lib.hid (by rw [Nat.pow_zero, Nat.mul_one] at hns; exact hns)
            have HV2 : Hid (valL ((out.set m (oq : Int)).drop m) * dn + left = valL (xs.drop m)) := Lib.hid (by
              rw [valL_drop_getD, set_getD _ HML0.out, set_drop, HQ0.out, HXD1.out, Int.toNat_natCast]
              exact hdone.1)
            have HL2 := Lib.hid hdone.2.1
            have HO2 : Hid (Lim (out.set m (oq : Int))) := Lib.hid (HLO.out.set m ⟨by omega, by have := hdone.2.2; omega⟩)
            have HOL2 : Hid ((out.set m (oq : Int)).length = n) := Lib.hid (by rw [List.length_set]; exact HOL.out)
            have HZ2 : Hid (∀ t, t < m → (out.set m (oq : Int)).getD t 0 = 0) := Lib.hid (fun t h => by rw [set_other _ (by omega)]; exact HZR1.out t h)
            rw [show ((2 ^ 0 / 2 : Nat) : Int) = 0 from rfl]
            clear hdi hdone hns
            go_wp2
            go_roundw
            case rel => exact ⟨m, left, _, HMJ.out, rfl, by go_num, HOL2.out, HO2.out, HZ2.out, HL2.out, HV2.out, HNB.out⟩
            case measure => simp [intOf]
          · obtain ⟨c2n, hc2, hlow, hhigh, hc2d, hob⟩ := hdi.next
            have hld := hdi.2.1
            have ht31 : t ≤ 31 := by have := hdi.1; omega
            have hbp := r10bit_le t ht31
            have hpp : 0 < 2 ^ t := Nat.pow_pos (by omega)
            rw [half_pow t]
            have hdvI : ((xn : Int) / ((2 ^ t : Nat) : Int)) % 2 = ((xn / 2 ^ t % 2 : Nat) : Int) := by rw [Int.natCast_emod, Int.natCast_ediv]; rfl
            have hxq : xn / 2 ^ t ≤ xn := Nat.div_le_self _ _
            have hx1 := HX1.out
            have htw := twice_pow oq t
            have htw1 := twice_pow1 oq t
            have hmeas : 2 ^ t / 2 < 2 ^ t := by omega
            have HMEAS : Hid ((intOf (.int .u32 ((2 ^ t / 2 : Nat) : Int))).toNat < (intOf (.int .u32 ((2 ^ t : Nat) : Int))).toNat) := Lib.hid (by simp only [intOf]; omega)
            have HNSET := Lib.hid (fun v W h1 h2 => show NatS w g (out.set m v) W by have h := hns.set (j := m) (z := v) (w'' := W) h1 h2; rwa [set_set] at h)
            have HXC : Hid (wr.cell? ⟨b, off + m, none⟩ = some (.int .u32 (xn : Int))) := Lib.hid (HXC0.out _ hns.bel)
            have HOC0 := Lib.hid (hns.at_ (j := m) (by rw [List.length_set]; exact HML0.out))
            rw [set_getD _ HML0.out] at HOC0
            have HNBK := Lib.hid hns.blk
            have HNS0 := Lib.hid hns
            have HML : Hid (m < (intsA .u32 (out.set m ((oq * 2 ^ (t + 1) : Nat) : Int))).size) := Lib.hid (nat_lt (by rw [List.length_set]; exact HML0.out))
            rw [htw] at HOC0
            obtain ⟨on, hon⟩ : ∃ z, 2 * oq * 2 ^ t = z := ⟨_, rfl⟩
            rw [hon] at HOC0
            have hq0 : (0 : Int) ≤ ((xn / 2 ^ t : Nat) : Int) := Int.natCast_nonneg _
            have hdvN : (xn : Int) / ((2 ^ t : Nat) : Int) = ((xn / 2 ^ t : Nat) : Int) := by rw [Int.natCast_ediv]
            have hob2 : on + 2 ^ t ≤ 4294967295 := by rw [← hon, ← htw, htw1]; exact hob
            have HLOW := Lib.hid hlow
            have HHIGH := Lib.hid hhigh
            have HNS2 : Hid (NatS w g (out.set m ((2 * oq * 2 ^ t : Nat) : Int)) wr) := Lib.hid (by rw [← htw]; exact hns)
            have HON2 : Hid (((on + 2 ^ t : Nat) : Int) = (((2 * oq + 1) * 2 ^ t : Nat) : Int)) := Lib.hid (by rw [← hon, ← htw, htw1])
            obtain ⟨P, hP⟩ : ∃ P, 2 ^ t = P := ⟨_, rfl⟩
            obtain ⟨H, hH⟩ : ∃ P, 2 ^ t / 2 = P := ⟨_, rfl⟩
            have HHH := Lib.hid hH
            have hHP : P / 2 = H := by rw [← hP]; exact hH
            rw [hH] at HMEAS
            rw [hP] at hdvN hbp hpp hxq HMEAS hob2 ⊢
            have HPP := Lib.hid hP
            obtain ⟨qn, hqn⟩ : ∃ q, xn / P = q := ⟨_, rfl⟩
            rw [hP, hqn] at hc2
            rw [hqn] at hdvN hxq
            have hq2 : qn % 2 < 2 := by omega
            have hqm : (qn : Int) % 2 = ((qn % 2 : Nat) : Int) := by omega
            obtain ⟨r2, hr2⟩ : ∃ r, qn % 2 = r := ⟨_, rfl⟩
            rw [hr2] at hq2 hqm hc2
            have hcI : 2 * (left : Int) + (r2 : Int) = (c2n : Int) := by omega
            have hdd := HDI.out
            have hPI0 : (0 : Int) < (P : Int) := by omega
            have hdt : (xn : Int).tdiv (P : Int) = (qn : Int) := by rw [Int.tdiv_eq_ediv_of_nonneg (by omega)]; exact hdvN
            have hph : (P : Int) / 2 = (H : Int) := by omega
            have hpn : (P : Int) ≠ 0 := by omega
            have e5 : IntKind.u32.wrap (qn : Int) = (qn : Int) := by rw [IntKind.wrap_u32]; omega
            have e6 : IntKind.u64.wrap (2 * (left : Int)) = 2 * (left : Int) := by rw [IntKind.wrap_u64]; omega
            have e7 : IntKind.u64.wrap (c2n : Int) = (c2n : Int) := by rw [IntKind.wrap_u64]; omega
            have e8 : IntKind.u64.wrap (r2 : Int) = (r2 : Int) := by rw [IntKind.wrap_u64]; omega
            have e9 : IntKind.u32.wrap (r2 : Int) = (r2 : Int) := by rw [IntKind.wrap_u32]; omega
            have e10 : IntKind.u32.wrap (H : Int) = (H : Int) := by rw [IntKind.wrap_u32]; omega
            have hqt : (qn : Int).tmod 2 = (r2 : Int) := by rw [Int.tmod_eq_emod_of_nonneg (by omega)]; exact hqm
            have hpt : (P : Int).tdiv 2 = (H : Int) := by rw [Int.tdiv_eq_ediv_of_nonneg (by omega)]; exact hph
            have hqnn : (0 : Int) ≤ (qn : Int) := by omega
            have hxnn : (0 : Int) ≤ (xn : Int) := by omega
            have honI : (on : Int) + (P : Int) = ((on + P : Nat) : Int) := by omega
            have hob3 : on + P < 4294967296 := by omega
            have HO2W0 : Hid (IntKind.u32.wrap ((on + P : Nat) : Int) = ((on + P : Nat) : Int)) := Lib.hid (by rw [IntKind.wrap_u32]; omega)
            rw [hP] at HON2
            obtain ⟨on2, hon2⟩ : ∃ z : Int, ((on + P : Nat) : Int) = z := ⟨_, rfl⟩
            rw [hon2] at HON2 honI HO2W0
            have hcdI : (c2n < dn) ↔ ((c2n : Int) < d) := by omega
            have HL2B : Hid (∀ l2 : Int, (c2n : Int) - d = l2 → ¬ c2n < dn → IntKind.u64.wrap l2 = l2 ∧ l2 = ((c2n - dn : Nat) : Int)) := Lib.hid (fun l2 h1 h2 => ⟨by rw [IntKind.wrap_u64]; omega, by omega⟩)
            obtain ⟨PI, hPI⟩ : ∃ z : Int, (P : Int) = z := ⟨_, rfl⟩
            obtain ⟨HI, hHI⟩ : ∃ z : Int, (H : Int) = z := ⟨_, rfl⟩
            obtain ⟨QI, hQI⟩ : ∃ z : Int, (qn : Int) = z := ⟨_, rfl⟩
            obtain ⟨CI, hCI⟩ : ∃ z : Int, (c2n : Int) = z := ⟨_, rfl⟩
            obtain ⟨LI, hLI⟩ : ∃ z : Int, (left : Int) = z := ⟨_, rfl⟩
            obtain ⟨XI, hXI⟩ : ∃ z : Int, (xn : Int) = z := ⟨_, rfl⟩
            obtain ⟨RI, hRI⟩ : ∃ z : Int, (r2 : Int) = z := ⟨_, rfl⟩
            obtain ⟨o, ho⟩ : ∃ z : Int, (on : Int) = z := ⟨_, rfl⟩
            rw [ho] at HOC0 honI
            rw [hPI] at hPI0 hdt hph hpn hdvN hpt honI HMEAS ⊢
            rw [hHI] at hph e10 hpt HMEAS
            rw [hQI] at hdt e5 hdvN hqt hqnn hqm
            rw [hCI] at hcI e7 hcdI HL2B
            rw [hLI] at hcI e6 ⊢
            rw [hXI] at hdt hdvN hxnn HXC
            rw [hRI] at hcI e8 e9 hqt hqm
            have HCI := Lib.hid hCI
            have HHI := Lib.hid hHI
            have hxc := HXC.out
            clear hdi hc2 hlow hhigh hc2d hob hld ht31 hbp hpp hx1 htw htw1 hmeas hns hon hq0 hob2 hob3 hqn hP hxq hdvI hH hHP hq2 hr2 hPI hHI hQI hCI hLI hXI hRI ho hon2 hdd HXC
            by_cases hcd : c2n < dn
            · have HDI2 := Lib.hid (HLOW.out hcd)
              have h9 : ¬ d ≤ CI := by have := hcdI.1 hcd; omega
              clear hcdI hcd
              go_wp2
              go_roundw
              case rel => exact ⟨t, 2 * oq, c2n, HDI2.out, by rw [HCI.out], by rw [HHH.out, HHI.out], HNS2.out⟩
              case measure => exact HMEAS.out
            · have HDI2 := Lib.hid (HHIGH.out hcd)
              have h9 : d ≤ CI := by
                rcases Int.lt_or_le CI d with h | h
                · exact absurd (hcdI.2 h) hcd
                · exact h
              obtain ⟨l2, hl2⟩ : ∃ z, CI - d = z := ⟨_, rfl⟩
              obtain ⟨hl2w, hl2n⟩ := HL2B.out l2 hl2 hcd
              obtain ⟨l2n, hl2n'⟩ : ∃ z, c2n - dn = z := ⟨_, rfl⟩
              rw [hl2n'] at HDI2 hl2n
              have HL2 := Lib.hid hl2
              have HL2W := Lib.hid hl2w
              have HL2N := Lib.hid hl2n
              have HI2 := HDI2
              have HO2 := Lib.hid honI
              have HO2W := HO2W0
              have HPH := Lib.hid hpt
              have HBT : Hid ((.int .u32 HI : Value) = .int .u32 ((2 ^ t / 2 : Nat) : Int)) := Lib.hid (by rw [HHH.out, HHI.out])
              obtain ⟨cur, hcur⟩ : ∃ l, out.set m ((oq * 2 ^ (t + 1) : Nat) : Int) = l := ⟨_, rfl⟩
              have HNB : Hid (Blk wr.drew g 45 (intsA .u32 cur)) := Lib.hid (by rw [← hcur]; exact HNBK.out)
              have HOC : Hid (wr.drew.cell? ⟨g, m, none⟩ = some (.int .u32 o)) := Lib.hid HOC0.out
              have HSET : Hid (∀ W, Blk W g 45 ((intsA .u32 cur).setIfInBounds m (.int .u32 on2)) → Only g wr.drew W → NatS w g (out.set m (((2 * oq + 1) * 2 ^ t : Nat) : Int)) W) := Lib.hid (fun W h1 h2 => by
                rw [← HPP.out] at *
                have := HNSET.out on2 W (by rw [hcur]; exact h1) h2.of_drew
                rwa [HON2.out] at this)
              rw [hcur] at HML
              have hone := HMN.out
              clear hcdI hcd hl2 hl2w hl2n hl2n' hcur honI HNBK HNSET HNS0 HNS2 hpt
              go_wp2
              refine wp_region_held_drew (S := r10AnyN) (by kernel_rfl) trivial (fun _ => ?_)
              refine wpAnyH_letter #[false, false, false, false, false, false, false, false, false, false, false, false, false, false] (by kernel_rfl) (fun _ _ d _ _ h => by cases d <;> exact h) (fun QL HQ1 HQ2 => ?_)
              refine held_v 0 (some 48) rfl (by kernel_rfl) (by kernel_rfl) (by kernel_rfl) (by kernel_rfl) (fun c a v w h => HQ2.out c a _ v w h) (by kernel_rfl) (.slice (some ⟨g, 0, none⟩) n n) (fun W h => by kernel_rfl) trivial ?_
              try simp only [Act.put, List.setIfInBounds_toArray, List.set_cons_zero, List.set_cons_succ]
              refine held_v 1 (some 49) rfl (by kernel_rfl) (by kernel_rfl) (by kernel_rfl) (by kernel_rfl) (fun c a v w h => HQ2.out c a _ v w h) (by kernel_rfl) (.int .i64 (m : Int)) (fun W h => by kernel_rfl) trivial ?_
              try simp only [Act.put, List.setIfInBounds_toArray, List.set_cons_zero, List.set_cons_succ]
              refine held_v 2 (some 50) rfl (by kernel_rfl) (by kernel_rfl) (by kernel_rfl) (by kernel_rfl) (fun c a v w h => HQ2.out c a _ v w h) (by kernel_rfl) (.int .u64 CI) (fun W h => by kernel_rfl) trivial ?_
              try simp only [Act.put, List.setIfInBounds_toArray, List.set_cons_zero, List.set_cons_succ]
              refine held_v 3 (some 51) rfl (by kernel_rfl) (by kernel_rfl) (by kernel_rfl) (by kernel_rfl) (fun c a v w h => HQ2.out c a _ v w h) (by kernel_rfl) (.int .u64 d) (fun W h => by kernel_rfl) trivial ?_
              try simp only [Act.put, List.setIfInBounds_toArray, List.set_cons_zero, List.set_cons_succ]
              refine held_v 4 (some 52) rfl (by kernel_rfl) (by kernel_rfl) (by kernel_rfl) (by kernel_rfl) (fun c a v w h => HQ2.out c a _ v w h) (by kernel_rfl) (.int .u64 l2) (fun W h => by have p := HL2.out; have p2 := HL2W.out; go_simp) trivial ?_
              try simp only [Act.put, List.setIfInBounds_toArray, List.set_cons_zero, List.set_cons_succ]
              refine held_v 5 (some 53) rfl (by kernel_rfl) (by kernel_rfl) (by kernel_rfl) (by kernel_rfl) (fun c a v w h => HQ2.out c a _ v w h) (by kernel_rfl) (.slice (some ⟨g, 0, none⟩) n n) (fun W h => by kernel_rfl) trivial ?_
              try simp only [Act.put, List.setIfInBounds_toArray, List.set_cons_zero, List.set_cons_succ]
              refine held_v 6 (some 54) rfl (by kernel_rfl) (by kernel_rfl) (by kernel_rfl) (by kernel_rfl) (fun c a v w h => HQ2.out c a _ v w h) (by kernel_rfl) (.int .i64 (m : Int)) (fun W h => by kernel_rfl) trivial ?_
              try simp only [Act.put, List.setIfInBounds_toArray, List.set_cons_zero, List.set_cons_succ]
              refine held_v 7 (some 55) rfl (by kernel_rfl) (by kernel_rfl) (by kernel_rfl) (by kernel_rfl) (fun c a v w h => HQ2.out c a _ v w h) (by kernel_rfl) (.pointer (some ⟨g, m, none⟩)) (fun W h => by have p := HMN.out; go_simp) trivial ?_
              try simp only [Act.put, List.setIfInBounds_toArray, List.set_cons_zero, List.set_cons_succ]
              refine held_v 9 (some 57) rfl (by kernel_rfl) (by kernel_rfl) (by kernel_rfl) (by kernel_rfl) (fun c a v w h => HQ2.out c a _ v w h) (by kernel_rfl) (.int .u32 PI) (fun W h => by kernel_rfl) trivial ?_
              try simp only [Act.put, List.setIfInBounds_toArray, List.set_cons_zero, List.set_cons_succ]
              refine held_v 11 (some 8) rfl (by kernel_rfl) (by kernel_rfl) (by kernel_rfl) (by kernel_rfl) (fun c a v w h => HQ2.out c a _ v w h) (by kernel_rfl) (.int .u64 l2) (fun W h => by kernel_rfl) trivial ?_
              try simp only [Act.put, List.setIfInBounds_toArray, List.set_cons_zero, List.set_cons_succ]
              refine wpAnyH_ready (rs := [8]) (by kernel_rfl) (by decide) ?_
              refine AllReadyH.cons rfl (fun K hK => ?_) AllReadyH.nil
              refine step_v (some 56) (by kernel_rfl) (by kernel_rfl) (.int .u32 o) (by have p := HOC.out; go_simp) ?_
              refine hK.out _ _ trivial (fun _ => ?_)
              clear hK K
              try simp only [Act.put, List.setIfInBounds_toArray, List.set_cons_zero, List.set_cons_succ]
              refine held_v 10 (some 58) rfl (by kernel_rfl) (by kernel_rfl) (by kernel_rfl) (by kernel_rfl) (fun c a v w h => HQ2.out c a _ v w h) (by kernel_rfl) (.int .u32 on2) (fun W h => by have p := HO2.out; have p2 := HO2W.out; go_simp) trivial ?_
              try simp only [Act.put, List.setIfInBounds_toArray, List.set_cons_zero, List.set_cons_succ]
              refine held_v 12 (some 59) rfl (by kernel_rfl) (by kernel_rfl) (by kernel_rfl) (by kernel_rfl) (fun c a v w h => HQ2.out c a _ v w h) (by kernel_rfl) (.pointer (some ⟨g, m, none⟩)) (fun W h => by have p := HMN.out; go_simp) trivial ?_
              try simp only [Act.put, List.setIfInBounds_toArray, List.set_cons_zero, List.set_cons_succ]
              refine wpAnyH_ready (rs := [13]) (by kernel_rfl) (by decide) ?_
              refine AllReadyH.cons rfl (fun K hK => ?_) AllReadyH.nil
              refine step_store_cell none (by kernel_rfl) (by kernel_rfl) 45 (.tmp 59) (.tmp 58) rfl g m (by kernel_rfl) 45 (intsA .u32 cur) HNB.out (.int .u32 on2) (by kernel_rfl) HML.out size_u32s rfl rfl ?_
              intro w41 hkw41 how41
              have HKN := Lib.hid hkw41.out
              have HON := Lib.hid how41
              refine hK.out _ _ trivial (fun _ => ?_)
              clear hK K
              try simp only [Act.put, List.setIfInBounds_toArray, List.set_cons_zero, List.set_cons_succ]
              refine wpAnyH_done (by kernel_rfl) ?_ _
              refine HQ1.out _ _ ?_
              clear HQ1 HQ2
              have HF := Lib.hid (HSET.out _ HKN.out HON.out)
              clear HKN HON
              have e3 := HPH.out
              go_wp2
              go_roundw
              case rel => exact ⟨t, _, l2n, HI2.out, by rw [HL2N.out], HBT.out, HF.out⟩
              case measure => exact HMEAS.out
  · have e1 : divV xs d = 0 := if_neg hok
    have e2 : divL xs d = 0 := if_neg hok
    have e3 : divE xs d = 1 := if_neg hok
    rw [e1, e2, e3, natL_zero]
    have h2 : rightN xs = false ∨ (rightN xs = true ∧ d < 1) ∨ (rightN xs = true ∧ ¬ d < 1 ∧ 9223372036854775808 ≤ d) := by
      cases h : rightN xs
      · exact .inl rfl
      · rw [h] at hok
        by_cases h3 : d < 1
        · exact .inr (.inl ⟨rfl, h3⟩)
        · by_cases h4 : 9223372036854775808 ≤ d
          · exact .inr (.inr ⟨rfl, h3, h4⟩)
          · exact absurd ⟨rfl, by omega, by omega⟩ hok
    clear hok e1 e2 e3 hra hx hn
    rcases h2 with h | ⟨h, h'⟩ | ⟨h, h', h''⟩
    all_goals
      rw [h] at hr1
      have HR1 := Lib.hid hr1
      clear hr1 h
      go_enter Tryd.func18, Tryd.ntmps18
      go_wp2_with (first
        | (go_at_call 23; (with_reducible refine (HR1.out _ HRA.out).mono ?_); rintro e _ ⟨rfl, rfl⟩))
      go_returns
      exact RetND.nil 1 (Below.refl _ _)
end Go.Proofs.YtoimepmignlmkaaDoor

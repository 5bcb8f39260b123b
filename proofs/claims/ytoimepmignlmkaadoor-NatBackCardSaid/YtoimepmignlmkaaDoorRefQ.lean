/-
  What drawlotref10's Right, trim, Of, limb and Sum return.
  Conditions: limbs lie in their type's range; the numbers have at most 100,000 limbs.
-/
import Derived.Test.YtoimepmignlmkaaDoorNatM
set_option maxRecDepth 100000
set_option linter.unusedSimpArgs false
namespace Go.Proofs.YtoimepmignlmkaaDoor
open Go.ChangeShapes Go.WideShapes Go.ChangeAt Go.RowKit
set_option linter.unusedVariables false
theorem r10right_c (zs : List Int) (A : Option Addr) (n c : Nat) (hn : n ≤ maxLen) (w : World) (hrd : Rd .u32 w w.heap.size A n zs) : Calls Tryd.prog 23 #[.slice A n c] w fun e w' => e = .returned (.bool (rightN zs)) ∧ w = w' := by
  have hlen := hrd.len
  have hnm : (n : Int) ≤ 9223372036854775807 := by unfold maxLen at hn; omega
  by_cases hb : 256 < n
  · have HV := Lib.hid (rightN_big (l := zs) (by omega))
    have h1 : (256 : Int) < (n : Int) := by omega
    clear hrd hn
    go_enter Tryd.func23, Tryd.ntmps23
    go_wp2
    go_ret
    exact ⟨ret_boolN HV.out.symm, rfl⟩
  · have h1 : (n : Int) ≤ 256 := by omega
    rcases n with _ | m
    · obtain rfl := List.eq_nil_of_length_eq_zero hlen
      have HV := Lib.hid (show rightN [] = true from rfl)
      clear hrd hn hb
      go_enter Tryd.func23, Tryd.ntmps23
      go_wp2
      go_ret
      exact ⟨ret_boolN HV.out.symm, rfl⟩
    · obtain ⟨b, off, rfl, _, hc⟩ := hrd.at_ (by omega)
      have hcm := hc m (by omega)
      have hv := rightN_at (l := zs) (m := m) hlen (by omega)
      obtain ⟨z, hz⟩ : ∃ z, zs.getD m 0 = z := ⟨_, rfl⟩
      rw [hz] at hcm hv
      have HV := Lib.hid hv
      have m0 : ((m + 1 : Nat) : Int) = (m : Int) + 1 := by omega
      have m1 : ((m : Int) + 1 == 0) = false := by rw [beq_eq_false_iff_ne]; omega
      have m2 : (m : Int) ≤ 255 := by omega
      have m3 : (m : Int) + 1 - 1 = (m : Int) := by omega
      clear hrd hc hn hb hnm hlen hz hv
      go_enter Tryd.func23, Tryd.ntmps23
      go_wp2
      go_ret
      exact ⟨ret_boolN HV.out.symm, rfl⟩
theorem r10trim_c (zs : List Int) (A : Option Addr) (n c : Nat) (hn : n ≤ maxLen) (hnc : n ≤ c) (w : World) (hrd : Rd .u32 w w.heap.size A n zs) : Calls Tryd.prog 40 #[.slice A n c] w fun e w' => e = .returned (.slice A (trimL zs).length c) ∧ w = w' := by
  have HR := Lib.hid hrd
  have hlen := hrd.len
  have htk : zs.take n = zs := by rw [← hlen, List.take_length]
  have HTZ := Lib.hid (fun k h1 h2 => trimL_zero (l := zs) (k := k) h1 h2)
  have HTS := Lib.hid (fun k h1 h2 => trimL_stop (l := zs) (k := k) h1 h2)
  have hnm : (n : Int) ≤ 9223372036854775807 := by unfold maxLen at hn; omega
  have hnc' : (n : Int) ≤ (c : Int) := by omega
  clear hrd hn
  go_enter Tryd.func40, Tryd.ntmps40
  go_wp2
  go_loop [0] (fun v => ∃ k : Nat, k ≤ n ∧ v = .slice A k c ∧ trimL (zs.take k) = trimL zs) (fun v => match v with | .slice _ k _ => k | _ => 0)
  case atStart => exact ⟨n, Nat.le_refl _, rfl, by rw [htk]⟩
  case round =>
    obtain ⟨k, hk, rfl, htr⟩ := hrel
    have HTR := Lib.hid htr
    clear htr
    rcases k with _ | m
    · have HL : Hid ((trimL zs).length = 0) := Lib.hid (by rw [← HTR.out]; rfl)
      go_wp2
      go_ret
      exact ⟨ret_slice HL.out.symm, rfl⟩
    · obtain ⟨b, off, rfl, _, hc⟩ := HR.out.at_ (by omega)
      have hcm := hc m (by omega)
      have m0 : ((m + 1 : Nat) : Int) = (m : Int) + 1 := by omega
      have m3 : (m : Int) + 1 - 1 = (m : Int) := by omega
      have m2 : (m : Int) + 1 ≤ (n : Int) := by omega
      have m4 : (m : Int) ≤ (c : Int) := by omega
      by_cases hz : zs.getD m 0 = 0
      · rw [hz] at hcm
        have HN := Lib.hid ((HTZ.out m (by omega) hz).trans HTR.out)
        clear hc hz
        go_wp2
        go_round
        case rel => exact ⟨m, by omega, rfl, HN.out⟩
        case measure => simp
      · have hl := HTS.out m (by omega) hz
        rw [HTR.out] at hl
        have HL := Lib.hid hl
        obtain ⟨z, hzz⟩ : ∃ z, zs.getD m 0 = z := ⟨_, rfl⟩
        rw [hzz] at hcm hz
        have tz : (z == 0) = false := by rw [beq_eq_false_iff_ne]; exact hz
        clear hc hl hzz
        go_wp2
        go_ret
        exact ⟨ret_slice HL.out.symm, rfl⟩
theorem r10of_c (n : Int) (n0 : 0 ≤ n) (n1 : n < 18446744073709551616) (w : World) : Calls Tryd.prog 25 #[.int .u64 n] w (RetN w (natL n.toNat)) := by
  have hl : trimL [n % 4294967296, n / 4294967296] = natL n.toNat := by
    rw [trimL_eq (Lim.cons ⟨by omega, by omega⟩ (Lim.cons ⟨by omega, by omega⟩ Lim.nil))]
    congr 1
    show (n % 4294967296).toNat + 4294967296 * ((n / 4294967296).toNat + 4294967296 * 0) = n.toNat
    omega
  have e1 : IntKind.u32.wrap (n % 4294967296) = n % 4294967296 := by rw [IntKind.wrap_u32]; omega
  have e2 : IntKind.u32.wrap (n / 4294967296) = n / 4294967296 := by rw [IntKind.wrap_u32]; omega
  have ht : ∀ (A : Option Addr) W, Rd .u32 W W.heap.size A 2 [n % 4294967296, n / 4294967296] → Calls Tryd.prog 40 #[.slice A 2 2] W fun e w' => e = .returned (.slice A (trimL [n % 4294967296, n / 4294967296]).length 2) ∧ W = w' := fun A W h => r10trim_c _ A 2 2 (by simp [maxLen]) (Nat.le_refl _) W h
  have hrt := fun A W (h : Rd .u32 W W.heap.size A 2 [n % 4294967296, n / 4294967296]) => rd_trim h
  rw [hl] at ht hrt
  have hlt := trimL_len [n % 4294967296, n / 4294967296]
  rw [hl] at hlt
  have HLT := Lib.hid hlt
  obtain ⟨p, hp⟩ : ∃ p, n % 4294967296 = p := ⟨_, rfl⟩
  obtain ⟨q, hq⟩ : ∃ p, n / 4294967296 = p := ⟨_, rfl⟩
  obtain ⟨R, hR⟩ : ∃ p, natL n.toNat = p := ⟨_, rfl⟩
  rw [hp] at e1
  rw [hq] at e2
  rw [hp, hq, hR] at ht hrt
  rw [hR] at HLT ⊢
  have HT := Lib.hid ht
  have HRT := Lib.hid hrt
  have HRD := Lib.hid (rd_two32 w 45 p q)
  have HBL := Lib.hid ((Below.refl w.heap.size w).alloc (Nat.le_refl _) (.cells #[.int .u32 p, .int .u32 q] 45))
  clear ht hrt hl hlt hR
  go_enter Tryd.func25, Tryd.ntmps25
  go_wp2_with (first
    | (go_at_call 40; (with_reducible refine (HT.out _ _ HRD.out).mono ?_); rintro e _ ⟨rfl, rfl⟩))
  go_ret
  exact ⟨_, _, rfl, HLT.out, by simp [maxLen], HRT.out _ _ HRD.out, HBL.out⟩
theorem r10limb_c (zs : List Int) (hz : Lim zs) (A : Option Addr) (n c : Nat) (hn : n ≤ maxLen) (i : Nat) (w : World) (hrd : Rd .u32 w w.heap.size A n zs) : Calls Tryd.prog 39 #[.slice A n c, .int .i64 (i : Int)] w fun e w' => e = .returned (.int .u64 (zs.getD i 0)) ∧ w = w' := by
  have hlen := hrd.len
  have hnm : (n : Int) ≤ 9223372036854775807 := by unfold maxLen at hn; omega
  by_cases hlt : i < n
  · obtain ⟨b, off, rfl, _, hc⟩ := hrd.at_ (by omega)
    have hci := hc i hlt
    have hzi := hz.getD i
    obtain ⟨z, hzz⟩ : ∃ z, zs.getD i 0 = z := ⟨_, rfl⟩
    rw [hzz] at hci hzi ⊢
    obtain ⟨z0, z1⟩ := hzi
    clear hrd hc hn hz hzz
    go_enter Tryd.func39, Tryd.ntmps39
    go_wp2
    go_ret
    exact ⟨rfl, rfl⟩
  · have hv : zs.getD i 0 = 0 := by rw [List.getD_eq_getElem?_getD, List.getElem?_eq_none (by omega)]; rfl
    rw [hv]
    clear hrd hn hz hv
    go_enter Tryd.func39, Tryd.ntmps39
    go_wp2
    go_ret
    exact ⟨rfl, rfl⟩
set_option maxHeartbeats 4000000 in
theorem r10sum_c (xs ys : List Int) (hx : Lim xs) (hy : Lim ys) (A B : Option Addr) (n m c d : Nat) (hn : n ≤ 100000) (hm : m ≤ 100000) (w : World) (hra : Rd .u32 w w.heap.size A n xs) (hrb : Rd .u32 w w.heap.size B m ys) : Calls Tryd.prog 35 #[.slice A n c, .slice B m d] w (RetN w (natL (valL xs + valL ys))) := by
  have hlx := hra.len
  have hly := hrb.len
  have HRA := Lib.hid hra
  have HRB := Lib.hid hrb
  obtain ⟨i0, hi0, hz0, hz1, hzb⟩ := info_parts info_u32d
  have HLA := Lib.hid (fun (i : Nat) W (h : Rd .u32 W W.heap.size A n xs) => r10limb_c xs hx A n c (by unfold maxLen; omega) i W h)
  have HLB := Lib.hid (fun (i : Nat) W (h : Rd .u32 W W.heap.size B m ys) => r10limb_c ys hy B m d (by unfold maxLen; omega) i W h)
  have HXG := Lib.hid (fun i => hx.getD i)
  have HYG := Lib.hid (fun i => hy.getD i)
  have HXD := Lib.hid (fun i => valL_drop_getD xs i)
  have HYD := Lib.hid (fun i => valL_drop_getD ys i)
  have HXE := Lib.hid (fun i (h : n ≤ i) => show xs.getD i 0 = 0 by rw [List.getD_eq_getElem?_getD, List.getElem?_eq_none (by omega)]; rfl)
  have HYE := Lib.hid (fun i (h : m ≤ i) => show ys.getD i 0 = 0 by rw [List.getD_eq_getElem?_getD, List.getElem?_eq_none (by omega)]; rfl)
  have HDX := Lib.hid (fun i (h : n ≤ i) => show valL (xs.drop i) = 0 by rw [List.drop_eq_nil_of_le (by omega)]; rfl)
  have HDY := Lib.hid (fun i (h : m ≤ i) => show valL (ys.drop i) = 0 by rw [List.drop_eq_nil_of_le (by omega)]; rfl)
  have hst : valL [] + 4294967296 ^ 0 * (0 + valL (xs.drop 0) + valL (ys.drop 0)) = valL xs + valL ys := by rw [List.drop_zero, List.drop_zero, Nat.pow_zero, valL]; omega
  have HST := Lib.hid hst
  obtain ⟨V, hV⟩ : ∃ V, valL xs + valL ys = V := ⟨_, rfl⟩
  rw [hV] at HST ⊢
  clear hra hrb hx hy hst hlx hly hV
  go_enter Tryd.func35, Tryd.ntmps35
  go_wp2
  go_loopw [5, 6, 7] (fun v cc ii wr => ∃ (i r : Nat) (out : List Int), i ≤ n + m + 1 ∧ (i = n + m + 1 → r = 0) ∧ r ≤ 1 ∧ cc = .int .u64 (r : Int) ∧ ii = .int .i64 (i : Int) ∧ out.length = i ∧ Lim out ∧ valL out + 4294967296 ^ i * (r + valL (xs.drop i) + valL (ys.drop i)) = V ∧ OwnI wr w.heap.size 45 .u32 v out ∧ Below w.heap.size w wr) (fun _ _ ii _ => n + m + 1 - (intOf ii).toNat)
  case atStart => exact ⟨0, 0, [], by omega, fun h => rfl, by omega, rfl, rfl, rfl, Lim.nil, HST.out, own_nil _ _ _, Below.refl _ _⟩
  case round =>
    clear HST
    obtain ⟨i, r, out, hi, hir, hr1, rfl, rfl, hol, hlo, hval, hown, hbl⟩ := hrel
    have HOW := Lib.hid hown
    have HBL := Lib.hid hbl
    have hsz := hbl.size
    by_cases hgo : i < n ∨ i < m ∨ 0 < r
    · have hxi := HXG.out i
      have hyi := HYG.out i
      have hla := fun W (h : Rd .u32 W W.heap.size A n xs) => HLA.out i W h
      have hlb := fun W (h : Rd .u32 W W.heap.size B m ys) => HLB.out i W h
      rw [HXD.out i, HYD.out i] at hval
      have hxe := HXE.out i
      have hye := HYE.out i
      obtain ⟨x, hxx⟩ : ∃ x, xs.getD i 0 = x := ⟨_, rfl⟩
      obtain ⟨y, hyy⟩ : ∃ x, ys.getD i 0 = x := ⟨_, rfl⟩
      rw [hxx] at hxi hla hval hxe
      rw [hyy] at hyi hlb hval hye
      obtain ⟨s, hs⟩ : ∃ s : Nat, s = x.toNat + y.toNat + r := ⟨_, rfl⟩
      have hsI : x + y + (r : Int) = (s : Int) := by omega
      have hmod : (s : Int) % 4294967296 = ((s % 4294967296 : Nat) : Int) := by omega
      have hdiv : (s : Int) / 4294967296 = ((s / 4294967296 : Nat) : Int) := by omega
      obtain ⟨p, hp⟩ : ∃ p, s % 4294967296 = p := ⟨_, rfl⟩
      obtain ⟨q, hq⟩ : ∃ p, s / 4294967296 = p := ⟨_, rfl⟩
      rw [hp] at hmod
      rw [hq] at hdiv
      have hpq : p + 4294967296 * q = s := by omega
      have hp1 : (p : Int) < 4294967296 := by omega
      have hq1 : q ≤ 1 := by omega
      have hiI : (i : Int) ≤ 200000 := by omega
      have hnew := carry_step (4294967296 ^ i) p q r x.toNat y.toNat (valL (xs.drop (i + 1))) (valL (ys.drop (i + 1))) (by omega)
      have hi2 : i + 1 ≤ n + m + 1 := by omega
      have hi3 : i + 1 = n + m + 1 → q = 0 := fun h => by
        have := hxe (by omega)
        have := hye (by omega)
        omega
      have hlo2 : Lim (out ++ [(p : Int)]) := hlo.app (Lim.cons ⟨by omega, hp1⟩ Lim.nil)
      have hval2 : valL (out ++ [(p : Int)]) + 4294967296 ^ (i + 1) * (q + valL (xs.drop (i + 1)) + valL (ys.drop (i + 1))) = V := by
        rw [valL_app, hol, Nat.pow_succ]
        show valL out + 4294967296 ^ i * ((p : Int).toNat + 4294967296 * 0) + _ = V
        rw [Nat.mul_zero, Nat.add_zero, Int.toNat_natCast, Nat.add_assoc, hnew]
        exact hval
      have hol2 : (out ++ [(p : Int)]).length = i + 1 := by rw [List.length_append, hol]; rfl
      have HV2 := Lib.hid hval2
      have HL2 := Lib.hid hlo2
      have HO2 := Lib.hid hol2
      have HI3 := Lib.hid hi3
      have HPO := Lib.hid hol
      have HLA1 := Lib.hid hla
      have HLB1 := Lib.hid hlb
      have hor : ((i : Int) < (n : Int)) ∨ (¬ (i : Int) < (n : Int) ∧ (i : Int) < (m : Int)) ∨ (¬ (i : Int) < (n : Int) ∧ ¬ (i : Int) < (m : Int) ∧ (0 : Int) < (r : Int)) := by omega
      obtain ⟨x0, x1⟩ := hxi
      obtain ⟨y0, y1⟩ := hyi
      clear hnew hi3 hlo2 hval2 hol2 hol hlo hval hla hlb hown hbl hxe hye hxx hyy hs hp hq hpq hir
      have hmw : IntKind.u32.wrap (p : Int) = (p : Int) := by rw [IntKind.wrap_u32]; omega
      have HI2 := Lib.hid hi2
      have HQ1 := Lib.hid hq1
      have r0 : (0 : Int) ≤ (r : Int) := by omega
      have r1 : (r : Int) ≤ 1 := by omega
      have p0 : (0 : Int) ≤ (p : Int) := by omega
      have HSZ := Lib.hid hsz
      have hwsz : w.heap.size ≤ wr.heap.size + 1 := by omega
      have HWS := Lib.hid hwsz
      have hor2 : ((i : Int) < (n : Int)) ∨ (¬ (i : Int) < (n : Int) ∧ (i : Int) < (m : Int)) ∨ (¬ (i : Int) < (n : Int) ∧ ¬ (i : Int) < (m : Int) ∧ (0 : Int) < (r : Int)) := hor
      clear hi hi2 hq1 hr1 hgo hsz hwsz hor hn hm hp1
      rcases hor2 with h | ⟨h, h'⟩ | ⟨h, h', h''⟩
      all_goals
        go_wp2_with (first
          | (go_at_call 39; (with_reducible refine (HLA1.out _ ((HRA.out.below HBL.out).mono HSZ.out)).mono ?_); rintro e _ ⟨rfl, rfl⟩)
          | (go_at_call 39; (with_reducible refine (HLB1.out _ ((HRB.out.below HBL.out).mono HSZ.out)).mono ?_); rintro e _ ⟨rfl, rfl⟩)
          | (at_builtin; refine wpList_append_ints _ rfl (.tmp 34) (.tmp 38) 26 rfl w.heap.size 45 i0 _ 4 .u32 Tryd.underlying26 hi0 hz0 hz1 hzb rfl _ out rfl (HOW.out.alloc _) (wr.heap.size + 1) (some ⟨wr.heap.size, 0, none⟩) 1 1 [(p : Int)] rfl (rd_one wr 45 .u32 (p : Int)) (by have := HPO.out; simp [maxLen]; omega) (by have := HPO.out; omega) (by have := HWS.out; simp; omega) ?_; intro v6 w6 hown6 hg6 hat6; have hb6 : Below w.heap.size w w6 := (HOW.out.alloc _).below_ (HBL.out.alloc HSZ.out _) (by have := HWS.out; simp; omega) hg6; have HO6 := Lib.hid hown6; have HB6 := Lib.hid hb6; clear hown6 hb6 hg6 hat6))
        go_roundw
        case rel => exact ⟨i + 1, q, _, HI2.out, HI3.out, HQ1.out, rfl, by go_num, HO2.out, HL2.out, HV2.out, HO6.out, HB6.out⟩
        case measure => have := HI2.out; simp [intOf]; omega
    · obtain rfl : r = 0 := by omega
      rw [HDX.out i (by omega), HDY.out i (by omega)] at hval
      simp only [Nat.add_zero, Nat.mul_zero] at hval
      obtain ⟨A7, c7, hv7, hc7, hm7⟩ := hown.form
      subst hv7
      have hrd7 := hown.rd rfl
      have htr := r10trim_c out A7 out.length c7 (by unfold maxLen; omega) hc7 wr hrd7
      have hrt := rd_trim hrd7
      have htl := trimL_len out
      rw [trimL_eq hlo, hval] at htr hrt htl
      have HTR := Lib.hid htr
      have HRT := Lib.hid hrt
      have HTL := Lib.hid (Nat.le_trans htl hc7)
      have HM7 := Lib.hid hm7
      have hi1 : (n : Int) ≤ (i : Int) := by omega
      have hi2 : (m : Int) ≤ (i : Int) := by omega
      have hi3 : (i : Int) ≤ 200001 := by omega
      clear hown htr hrt htl hrd7 HOW hval hlo hol hir hbl hc7 hm7
      go_wp2_with (first
        | (go_at_call 40; (with_reducible refine HTR.out.mono ?_); rintro e _ ⟨rfl, rfl⟩))
      go_ret
      exact ⟨_, _, rfl, HTL.out, HM7.out, HRT.out, HBL.out⟩
end Go.Proofs.YtoimepmignlmkaaDoor

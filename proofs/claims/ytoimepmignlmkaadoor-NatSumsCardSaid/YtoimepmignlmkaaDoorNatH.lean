/-
  What the program's nat returns: Two, Same (over the library's slices.Equal), Div.
  Conditions: limbs lie in their type's range.
-/
import Derived.Test.YtoimepmignlmkaaDoorNatF
import Derived.Test.YtoimepmignlmkaaDoorDivA
set_option maxRecDepth 100000
set_option linter.unusedSimpArgs false
namespace Go.Proofs.YtoimepmignlmkaaDoor
open Go.ChangeShapes Go.WideShapes Go.ChangeAt Go.RowKit
set_option linter.unusedVariables false
set_option maxHeartbeats 4000000 in
theorem q10two_c (k : Int) (k0 : -9223372036854775808 ≤ k) (k1 : k < 9223372036854775808) (w : World) : Calls Tryd.prog 28 #[.int .i64 k] w (RetNE w (twoR k)) := by
  by_cases hok : 0 ≤ k ∧ k ≤ 8191
  · obtain ⟨h0, h1⟩ := hok
    obtain ⟨m, rfl⟩ := Int.eq_ofNat_of_zero_le h0
    have e1 : twoR (m : Int) = (0, natL (2 ^ m)) := by unfold twoR; rw [if_pos ⟨h0, h1⟩, Int.toNat_natCast]
    rw [e1, ← two_limbs]
    obtain ⟨i0, hi0, hz0, hz1, hzb⟩ := info_parts info_u32d
    obtain ⟨q, hq⟩ : ∃ q, m / 32 = q := ⟨_, rfl⟩
    obtain ⟨r, hr⟩ : ∃ q, m % 32 = q := ⟨_, rfl⟩
    have hdiv : (m : Int) / 32 = (q : Int) := by omega
    have hmod : (m : Int) % 32 = (r : Int) := by omega
    have hdt : (m : Int).tdiv 32 = (q : Int) := by rw [Int.tdiv_eq_ediv_of_nonneg (by omega)]; exact hdiv
    have hmt : (m : Int).tmod 32 = (r : Int) := by rw [Int.tmod_eq_emod_of_nonneg (by omega)]; exact hmod
    have hr32 : r ≤ 31 := by omega
    have hrs := rep_set q ((2 ^ r : Nat) : Int)
    rw [hq, hr]
    have hp := pow_two_le hr32
    have hpi : (2 : Int) ^ r = ((2 ^ r : Nat) : Int) := by rw [Int.natCast_pow]; rfl
    obtain ⟨P, hP⟩ : ∃ P, 2 ^ r = P := ⟨_, rfl⟩
    rw [hP] at hp hpi hrs ⊢
    have hw1 : IntKind.u32.wrap (P : Int) = (P : Int) := by rw [IntKind.wrap_u32]; omega
    have hmk : ∀ W, (Instr.makeSlice 26 (.int .i64 ((q : Int) + 1)) (.int .i64 ((q : Int) + 1))).run Tryd.prog W = .ok (.slice (some ⟨W.heap.size, 0, none⟩) (q + 1) (q + 1)) (W.alloc (.cells (intsA .u32 (List.replicate (q + 1) 0)) 45)) := fun W => run_make_ints (P := Tryd.prog) 26 45 i0 .u32 Tryd.underlying26 hi0 hz0 hz1 .i64 .i64 (q + 1) (by rw [hzb]; omega) (by omega) W
    have HS0 : Hid (NatS w w.heap.size (List.replicate (q + 1) 0) (w.alloc (.cells (intsA .u32 (List.replicate (q + 1) 0)) 45))) := Lib.hid ⟨Blk.new _ _ _, Nat.le_refl _, (Below.refl _ _).alloc (Nat.le_refl _) _⟩
    have HRS := Lib.hid hrs
    have hq2 : (q : Int) ≤ 255 := by omega
    have HQM : Hid (q + 1 ≤ maxLen) := Lib.hid (by unfold maxLen; omega)
    have HJS : Hid (q < (intsA .u32 (List.replicate (q + 1) 0)).size) := Lib.hid (by rw [intsA_size, List.length_replicate]; omega)
    obtain ⟨R, hR⟩ : ∃ R, List.replicate q 0 ++ [(P : Int)] = R := ⟨_, rfl⟩
    have hRl : R.length = q + 1 := by rw [← hR]; simp
    have HRL := Lib.hid hRl
    rw [hR] at HRS ⊢
    have hm8 : (m : Int) ≤ 8191 := h1
    have hm0 : ¬ (m : Int) < 0 := by omega
    have hqq : (q : Int) < (q : Int) + 1 := by omega
    clear hq hr hrs hi0 hz0 hz1 hzb e1 hR hRl k0 k1 h0 hP hp
    go_enter Tryd.func28, Tryd.ntmps28
    go_upto_region 4 with fail
    clear hmk
    obtain ⟨g, hg⟩ : ∃ g, w.heap.size = g := ⟨_, rfl⟩
    have HS1 : Hid (NatS w g (List.replicate (q + 1) 0) (w.alloc (.cells (intsA .u32 (List.replicate (q + 1) 0)) 45))) := by rw [← hg]; exact HS0
    rw [hg]
    clear hg HS0
    obtain ⟨w1, hw1⟩ : ∃ w1, w.alloc (.cells (intsA .u32 (List.replicate (q + 1) 0)) 45) = w1 := ⟨_, rfl⟩
    rw [hw1] at HS1
    rw [hw1]
    clear hw1
    go_wp2_with (first
      | (with_reducible refine at_any ?_; refine at_store 21 rfl ?_; refine wpList_store_cell rfl 45 (.tmp 21) (.tmp 20) rfl g q rfl 45 (intsA .u32 (List.replicate (q + 1) 0)) (NatS.blk HS1.out) (.int .u32 (P : Int)) rfl HJS.out size_u32s rfl rfl ?_; intro w90 hk90 ho90; have HF9 := Lib.hid (NatS.set HS1.out hk90.out ho90); clear hk90 ho90))
    go_ret2
    have hf := HF9.out
    rw [HRS.out] at hf
    have hrd := hf.rd
    rw [HRL.out] at hrd
    exact ⟨some ⟨g, 0, none⟩, q + 1, ret_sliceE HRL.out.symm, by rw [HRL.out]; exact Nat.le_refl _, HQM.out, by rw [HRL.out]; exact hrd, hf.bel⟩
  · have e1 : twoR k = (1, []) := if_neg hok
    rw [e1]
    have h2 : k < 0 ∨ (¬ k < 0 ∧ 8192 ≤ k) := by omega
    clear hok e1
    rcases h2 with h | ⟨h, h'⟩
    all_goals
      go_enter Tryd.func28, Tryd.ntmps28
      go_wp2
      go_ret2
      exact RetNE.nil 1 (Below.refl _ _)
set_option maxHeartbeats 2000000 in
theorem equal32_c (xs ys : List Int) (A B : Option Addr) (n m c d : Nat) (hn : n ≤ maxLen) (hm : m ≤ maxLen) (w : World) (hra : Rd .u32 w w.heap.size A n xs) (hrb : Rd .u32 w w.heap.size B m ys) : Calls Tryd.prog 45 #[.slice A n c, .slice B m d] w fun e w' => e = .returned (.bool (decide (xs = ys))) ∧ Below w.heap.size w w' := by
  have HA := Lib.hid hra
  have HB := Lib.hid hrb
  have hla := hra.len
  have hlb := hrb.len
  have hnm : (n : Int) ≤ 9223372036854775807 := by unfold maxLen at hn; omega
  clear hra hrb hn hm
  by_cases hl : n = m
  · subst hl
    have t0 : ((n : Int) != (n : Int)) = false := by simp
    go_enter Tryd.func45, Tryd.ntmps45
    go_wp2
    go_loopw [13] (fun i wr => ∃ k : Nat, k ≤ n ∧ i = .int .i64 (k : Int) ∧ (∀ j, j < k → xs.getD j 0 = ys.getD j 0) ∧ Below w.heap.size w wr) (fun i _ => n - (intOf i).toNat)
    case atStart => exact ⟨0, by omega, rfl, fun j h => absurd h (by omega), Below.refl _ _⟩
    case round =>
      obtain ⟨k, hk, rfl, heq, hbl⟩ := hrel
      have HEQ := Lib.hid heq
      have HBL := Lib.hid hbl
      by_cases hlt : k < n
      · obtain ⟨b1, o1, rfl, _, hc1⟩ := (HA.out.below hbl).at_ (by omega)
        obtain ⟨b2, o2, rfl, _, hc2⟩ := (HB.out.below hbl).at_ (by omega)
        have hk1 := hc1 k hlt
        have hk2 := hc2 k hlt
        obtain ⟨x, hx⟩ : ∃ x, xs.getD k 0 = x := ⟨_, rfl⟩
        obtain ⟨y, hy⟩ : ∃ y, ys.getD k 0 = y := ⟨_, rfl⟩
        rw [hx] at hk1
        rw [hy] at hk2
        have i0 : (0 : Int) ≤ (k : Int) := by omega
        have i1 : (k : Int) < (n : Int) := by omega
        clear heq hbl hc1 hc2
        by_cases hxy : x = y
        · subst hxy
          have HK : ∀ j, j < k + 1 → xs.getD j 0 = ys.getD j 0 := fun j hj => by
            by_cases h : j = k
            · rw [h, hx, hy]
            · exact HEQ.out j (by omega)
          have HKK := Lib.hid HK
          have t1 : (x != x) = false := by simp
          clear hx hy HEQ HK
          go_wp2
          go_quiet (fail)
          go_wp2
          go_roundw
          case rel => exact ⟨k + 1, by omega, by go_num, HKK.out, HBL.out.trans (below_drewN (Below.refl _ _) _)⟩
          case measure => simp [intOf]; omega
        · have hne : ¬ xs = ys := fun h => hxy (by rw [← hx, ← hy, h])
          have t1 : (x != y) = true := by simp [bne, hxy]
          have HNE := Lib.hid hne
          clear hx hy HEQ hne
          go_wp2
          go_quiet (fail)
          go_wp2
          go_ret
          exact ⟨ret_boolN (decide_eq_false HNE.out).symm, below_drewN HBL.out _⟩
      · have hxy : xs = ys := ext_getDN (by omega) fun j hj => heq j (by omega)
        obtain rfl : k = n := by omega
        have HXY := Lib.hid hxy
        clear heq hbl hxy
        go_wp2
        go_ret
        exact ⟨ret_boolN (decide_eq_true HXY.out).symm, HBL.out⟩
  · have t0 : ((n : Int) != (m : Int)) = true := by simp [bne]; omega
    have hne : ¬ xs = ys := fun h => hl (by rw [← hla, ← hlb, h])
    have HNE := Lib.hid hne
    clear hne
    go_enter Tryd.func45, Tryd.ntmps45
    go_wp2
    go_ret
    exact ⟨ret_boolN (decide_eq_false HNE.out).symm, Below.refl _ _⟩
theorem q10same_c (xs ys : List Int) (A B : Option Addr) (n m c d : Nat) (hn : n ≤ maxLen) (hm : m ≤ maxLen) (w : World) (hra : Rd .u32 w w.heap.size A n xs) (hrb : Rd .u32 w w.heap.size B m ys) : Calls Tryd.prog 21 #[.slice A n c, .slice B m d] w fun e w' => e = .returned (.bool (decide (xs = ys))) ∧ Below w.heap.size w w' := by
  have HE := Lib.hid (equal32_c xs ys A B n m c d hn hm w hra hrb)
  obtain ⟨b, hb⟩ : ∃ b, decide (xs = ys) = b := ⟨_, rfl⟩
  rw [hb] at HE ⊢
  clear hra hrb hn hm hb
  go_enter Tryd.func21, Tryd.ntmps21
  go_wp2_with (first
    | (go_at_call 45; (with_reducible refine HE.out.mono ?_); rintro e w3 ⟨rfl, hb3⟩; have HB3 := Lib.hid hb3; clear hb3))
  go_ret
  exact ⟨rfl, HB3.out⟩
theorem limb_split {left hi l2 xn : Nat} (h1 : left / 4294967296 = hi) (h2 : left % 4294967296 * 4294967296 = l2) : hi * 18446744073709551616 + (l2 + xn) = left * 4294967296 + xn := by
  subst h1 h2
  omega
theorem limb_lt {left dn xn : Nat} (h : left < dn) (hx : xn < 4294967296) : left * 4294967296 + xn < dn * 4294967296 := by omega
theorem limb_or {u xn lo : Nat} (hx : xn < 4294967296) (h : u * 4294967296 + xn = lo) : u * 4294967296 ||| xn = lo := by
  rw [← h, show 4294967296 = 2 ^ 32 from rfl, Nat.mul_comm, Nat.two_pow_add_eq_or_of_lt hx]
/-- One digit of a division: what is left, with one more limb. -/
theorem div_limb {q r left x d Q0 X0 : Nat} (h : q * d + r = left * 4294967296 + x) (h0 : Q0 * d + left = X0) : (q + 4294967296 * Q0) * d + r = x + 4294967296 * X0 := by
  subst h0
  rw [Nat.add_mul, Nat.mul_assoc, Nat.mul_add]
  generalize Q0 * d = u at *
  generalize q * d = v at *
  omega
set_option maxHeartbeats 8000000 in
theorem q10div_c (xs : List Int) (hx : Lim xs) (A : Option Addr) (n c : Nat) (hn : n ≤ maxLen) (d : Int) (d0 : 0 ≤ d) (d1 : d < 18446744073709551616) (w : World) (hra : Rd .u32 w w.heap.size A n xs) : Calls Tryd.prog 17 #[.slice A n c, .int .u64 d] w (RetND w (natL (divV xs d)) (divL xs d) (divE xs d)) := by
  have hr1 := fun W h => q10right_c xs A n c hn W h
  have HRA := Lib.hid hra
  have hla := hra.len
  by_cases hok : rightN xs = true ∧ 1 ≤ d ∧ d < 9223372036854775808
  · have e1 : divV xs d = valL xs / d.toNat := if_pos hok
    have e2 : divL xs d = valL xs % d.toNat := if_pos hok
    have e3 : divE xs d = 0 := if_pos hok
    obtain ⟨h1, h2, h3⟩ := hok
    rw [e1, e2, e3]
    rw [h1] at hr1
    have HR1 := Lib.hid hr1
    have hn256 : n ≤ 256 := by rw [← hla]; exact rightN_len h1
    obtain ⟨dn, hdn⟩ : ∃ dn, d.toNat = dn := ⟨_, rfl⟩
    have hdI : (dn : Int) = d := by omega
    have HDI := Lib.hid hdI
    rw [hdn]
    obtain ⟨i0, hi0, hz0, hz1, hzb⟩ := info_parts info_u32d
    have hmk : ∀ W, (Instr.makeSlice 26 (.int .i64 (n : Int)) (.int .i64 (n : Int))).run Tryd.prog W = .ok (.slice (some ⟨W.heap.size, 0, none⟩) n n) (W.alloc (.cells (intsA .u32 (List.replicate n 0)) 45)) := fun W => run_make_ints (P := Tryd.prog) 26 45 i0 .u32 Tryd.underlying26 hi0 hz0 hz1 .i64 .i64 n (by rw [hzb]; omega) (by omega) W
    have HS0 : Hid (NatS w w.heap.size (List.replicate n 0) (w.alloc (.cells (intsA .u32 (List.replicate n 0)) 45))) := Lib.hid ⟨Blk.new _ _ _, Nat.le_refl _, (Below.refl _ _).alloc (Nat.le_refl _) _⟩
    have HXG := Lib.hid (fun i => hx.getD i)
    have HXD := Lib.hid (fun i => valL_drop_getD xs i)
    have hst : valL ((List.replicate n 0).drop n) * dn + 0 = valL (xs.drop n) := by
      rw [List.drop_eq_nil_of_le (by simp), List.drop_eq_nil_of_le (by omega)]
      show 0 * dn + 0 = 0
      omega
    have HST := Lib.hid hst
    have hnI : (n : Int) ≤ 256 := by omega
    have hd1 : 1 ≤ dn := by omega
    have hd63 : dn < 9223372036854775808 := by omega
    have HD1 := Lib.hid hd1
    have HD63 := Lib.hid hd63
    have td : (d == 0) = false := by rw [beq_eq_false_iff_ne]; omega
    clear hr1 hra hx e1 e2 e3 h1 hn hst hla d0 d1 hi0 hz0 hz1 hzb hd1 hd63 h2 hdn hdI
    go_enter Tryd.func17, Tryd.ntmps17
    go_wp2_with (first
      | (go_at_call 22; (with_reducible refine (HR1.out _ HRA.out).mono ?_); rintro e _ ⟨rfl, rfl⟩))
    clear hmk
    obtain ⟨g, hg⟩ : ∃ g, w.heap.size = g := ⟨_, rfl⟩
    have HS1 : Hid (NatS w g (List.replicate n 0) (w.alloc (.cells (intsA .u32 (List.replicate n 0)) 45))) := by rw [← hg]; exact HS0
    rw [hg]
    clear hg HS0
    obtain ⟨w1, hw1⟩ : ∃ w1, w.alloc (.cells (intsA .u32 (List.replicate n 0)) 45) = w1 := ⟨_, rfl⟩
    rw [hw1] at HS1
    rw [hw1]
    clear hw1
    go_loopw [8, 9] (fun lf ii wr => ∃ (j left : Nat) (out : List Int), j ≤ n ∧ lf = .int .u64 (left : Int) ∧ ii = .int .i64 ((j : Int) - 1) ∧ out.length = n ∧ Lim out ∧ left < dn ∧ valL (out.drop j) * dn + left = valL (xs.drop j) ∧ NatS w g out wr) (fun _ ii _ => (intOf ii + 1).toNat)
    case atStart => exact ⟨n, 0, _, Nat.le_refl _, rfl, by go_num, List.length_replicate, Lim.rep _, HD1.out, HST.out, HS1.out⟩
    case round =>
      clear HST HS1
      obtain ⟨j, left, out, hj, rfl, rfl, hol, hlo, hlt, hval, hns⟩ := hrel
      rcases j with _ | m
      · rw [List.drop_zero, List.drop_zero] at hval
        obtain ⟨hq, hl⟩ := div_end hval hlt
        have hrd7 := hns.rd
        have htr := q10trim_c out (some ⟨g, 0, none⟩) out.length n (by unfold maxLen; omega) (by omega) wr hrd7
        have hrt := rd_trim hrd7
        have htl := trimL_len out
        rw [trimL_eq hlo, hq] at htr hrt htl
        rw [hol] at htr htl
        have HTR := Lib.hid htr
        have HRT := Lib.hid hrt
        have HTL := Lib.hid htl
        have HBL := Lib.hid hns.bel
        have HML : Hid (n ≤ maxLen) := Lib.hid (by unfold maxLen; omega)
        have HLL := Lib.hid hl
        clear htr hrt htl hrd7 hval hlo hol hns hq hl hlt
        rw [show ((0 : Nat) : Int) - 1 = -1 from rfl]
        go_wp2_with (first
          | (go_at_call 42; (with_reducible refine HTR.out.mono ?_); rintro e _ ⟨rfl, rfl⟩))
        go_returns
        rw [← HLL.out]
        exact ⟨_, _, rfl, HTL.out, HML.out, HRT.out, HBL.out⟩
      · have hmn : m < n := by omega
        rw [show ((m + 1 : Nat) : Int) - 1 = (m : Int) by omega]
        obtain ⟨b, off, rfl, hblt, hxc⟩ := (HRA.out.below hns.bel).at_ (by omega)
        have hxci := hxc m hmn
        have hxi := HXG.out m
        have hxd := HXD.out m
        obtain ⟨x, hxx⟩ : ∃ x, xs.getD m 0 = x := ⟨_, rfl⟩
        rw [hxx] at hxi hxci hxd
        obtain ⟨xn, rfl⟩ := Int.eq_ofNat_of_zero_le hxi.1
        rw [Int.toNat_natCast] at hxd
        obtain ⟨hi, hhi⟩ : ∃ z, left / 4294967296 = z := ⟨_, rfl⟩
        obtain ⟨l2, hl2⟩ : ∃ z, left % 4294967296 * 4294967296 = z := ⟨_, rfl⟩
        have hU : hi * 18446744073709551616 + (l2 + xn) = left * 4294967296 + xn := limb_split hhi hl2
        have hxn : xn < 4294967296 := by omega
        have hlo64' : l2 + xn < 18446744073709551616 := by omega
        have hdv := fun W => q10div64_c hi (l2 + xn) dn hlo64' HD63.out (Nat.lt_of_le_of_lt (Nat.le_of_eq hU) (limb_lt hlt hxn)) W
        rw [hU] at hdv
        have hqb : (left * 4294967296 + xn) / dn < 4294967296 := by rw [Nat.div_lt_iff_lt_mul (by omega), Nat.mul_comm]; omega
        have hrb : (left * 4294967296 + xn) % dn < dn := Nat.mod_lt _ (by omega)
        have hqr : (left * 4294967296 + xn) / dn * dn + (left * 4294967296 + xn) % dn = left * 4294967296 + xn := by rw [Nat.mul_comm]; exact Nat.div_add_mod _ _
        obtain ⟨q, hq⟩ : ∃ z, (left * 4294967296 + xn) / dn = z := ⟨_, rfl⟩
        obtain ⟨r, hr⟩ : ∃ z, (left * 4294967296 + xn) % dn = z := ⟨_, rfl⟩
        rw [hq] at hdv hqb hqr
        rw [hr] at hdv hrb hqr
        obtain ⟨lo, hlw⟩ : ∃ z, l2 + xn = z := ⟨_, rfl⟩
        rw [hlw, HDI.out] at hdv
        have HDV := Lib.hid hdv
        have f1 : (left : Int) / 4294967296 = (hi : Int) := by omega
        have f2 : IntKind.u64.wrap ((left : Int) * 4294967296) = (l2 : Int) := by rw [IntKind.wrap_u64]; omega
        have f3 : IntKind.u64.wrap (xn : Int) = (xn : Int) := by rw [IntKind.wrap_u64]; omega
        have hor : l2 ||| xn = lo := by rw [← hl2]; exact limb_or (by omega) (by rw [hl2]; exact hlw)
        have f4 : bits .or .u64 (l2 : Int) (xn : Int) = (lo : Int) := by rw [bits_or_u64_nat _ _ (by omega) (by omega), hor]
        have f5 : IntKind.u32.wrap (q : Int) = (q : Int) := by rw [IntKind.wrap_u32]; omega
        have f6 : (q : Int) < 4294967296 := by omega
        have hset : valL ((out.set m (q : Int)).drop m) = q + 4294967296 * valL (out.drop (m + 1)) := by
          rw [valL_drop_getD, set_getD _ (by omega), set_drop, Int.toNat_natCast]
        have HV2 : Hid (valL ((out.set m (q : Int)).drop m) * dn + r = valL (xs.drop m)) := Lib.hid (by rw [hset, hxd]; exact div_limb hqr hval)
        have HLM := Lib.hid (hlo.set m (x := (q : Int)) ⟨by omega, f6⟩)
        have HLN : Hid ((out.set m (q : Int)).length = n) := Lib.hid (by rw [List.length_set]; exact hol)
        have HRB := Lib.hid hrb
        have HMN : Hid (m ≤ n) := Lib.hid (by omega)
        have hm0 : (m : Int) < (n : Int) := by omega
        have HJS := Lib.hid (nat_lt (out := out) (j := m) (by omega))
        have HNS := Lib.hid hns
        have hl63 : (left : Int) < 9223372036854775808 := by have := HD63.out; omega
        have hlo64 : (lo : Int) < 18446744073709551616 := by omega
        clear hol hlo hlt hval hns hxi hxd hxx hxc hj hhi hl2 hU hdv hqb hrb hqr hq hr hlw hor hset hblt hmn hxn hlo64'
        go_wp2_with (first
          | (go_at_call 41; (with_reducible refine (HDV.out _).mono ?_); rintro e w8 ⟨rfl, nq, rfl⟩; have HN8 := Lib.hid (NatS.drewN HNS.out nq))
          | (with_reducible refine at_any ?_; refine at_store 53 rfl ?_; refine wpList_store_cell rfl 45 (.tmp 53) (.tmp 51) rfl g m rfl 45 (intsA .u32 out) (NatS.blk HN8.out) (.int .u32 (q : Int)) rfl HJS.out size_u32s rfl rfl ?_; intro w90 hk90 ho90; have HF9 := Lib.hid (NatS.set HN8.out hk90.out ho90); clear hk90 ho90))
        go_roundw
        case rel => exact ⟨m, r, _, HMN.out, rfl, by go_num, HLN.out, HLM.out, HRB.out, HV2.out, HF9.out⟩
        case measure => simp [intOf]
  · have e1 : divV xs d = 0 := if_neg hok
    have e2 : divL xs d = 0 := if_neg hok
    have e3 : divE xs d = 1 := if_neg hok
    rw [e1, e2, e3, natL_zero]
    have h2 : rightN xs = false ∨ (rightN xs = true ∧ d = 0) ∨ (rightN xs = true ∧ d ≠ 0 ∧ 9223372036854775808 ≤ d) := by
      cases h : rightN xs
      · exact .inl rfl
      · rw [h] at hok
        by_cases h3 : d = 0
        · exact .inr (.inl ⟨rfl, h3⟩)
        · by_cases h4 : 9223372036854775808 ≤ d
          · exact .inr (.inr ⟨rfl, h3, h4⟩)
          · exact absurd ⟨rfl, by omega, by omega⟩ hok
    clear hok e1 e2 e3 hra hx hn
    rcases h2 with h | ⟨h, h'⟩ | ⟨h, h', h''⟩
    · rw [h] at hr1
      have HR1 := Lib.hid hr1
      clear hr1 h
      go_enter Tryd.func17, Tryd.ntmps17
      go_wp2_with (first
        | (go_at_call 22; (with_reducible refine (HR1.out _ HRA.out).mono ?_); rintro e _ ⟨rfl, rfl⟩))
      go_returns
      exact RetND.nil 1 (Below.refl _ _)
    · rw [h] at hr1
      have HR1 := Lib.hid hr1
      subst h'
      clear hr1 h
      go_enter Tryd.func17, Tryd.ntmps17
      go_wp2_with (first
        | (go_at_call 22; (with_reducible refine (HR1.out _ HRA.out).mono ?_); rintro e _ ⟨rfl, rfl⟩))
      go_returns
      exact RetND.nil 1 (Below.refl _ _)
    · rw [h] at hr1
      have HR1 := Lib.hid hr1
      have tz : (d == 0) = false := by rw [beq_eq_false_iff_ne]; exact h'
      clear hr1 h h'
      go_enter Tryd.func17, Tryd.ntmps17
      go_wp2_with (first
        | (go_at_call 22; (with_reducible refine (HR1.out _ HRA.out).mono ?_); rintro e _ ⟨rfl, rfl⟩))
      go_returns
      exact RetND.nil 1 (Below.refl _ _)
end Go.Proofs.YtoimepmignlmkaaDoor

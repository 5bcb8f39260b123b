/-
  What the program's nat returns: plus.
  Conditions: limbs lie in their type's range; the numbers have at most 100,000 limbs.
-/
import Derived.Test.YtoimepmignlmkaaDoorNatA
import Derived.Deep.CutRange
import Derived.Deep.CutBlock
set_option maxRecDepth 100000
set_option linter.unusedSimpArgs false
namespace Go.Proofs.YtoimepmignlmkaaDoor
open Go.ChangeShapes Go.WideShapes Go.ChangeAt Go.RowKit
set_option linter.unusedVariables false
/-- Two numbers as slices, the longer one first, whose sum is V. -/
def TwoS (w : World) (V : Nat) (v0 v1 : Value) : Prop := ∃ (xs ys : List Int) (A B : Option Addr) (n m c d : Nat), v0 = .slice A n c ∧ v1 = .slice B m d ∧ Lim xs ∧ Lim ys ∧ Rd .u32 w w.heap.size A n xs ∧ Rd .u32 w w.heap.size B m ys ∧ n ≤ 100000 ∧ m ≤ n ∧ valL xs + valL ys = V
theorem getD_rep0 (n t : Nat) : (List.replicate n (0 : Int)).getD t 0 = 0 := by
  rw [List.getD_eq_getElem?_getD, List.getElem?_replicate]
  split <;> rfl
theorem set_past {l : List Int} {i : Nat} (p : Int) (h : ∀ t, i ≤ t → l.getD t 0 = 0) : ∀ t, i + 1 ≤ t → (l.set i p).getD t 0 = 0 := fun t ht => by
  rw [List.getD_eq_getElem?_getD, List.getElem?_set_ne (by omega), ← List.getD_eq_getElem?_getD]
  exact h t (by omega)
set_option maxHeartbeats 4000000 in
theorem q10plus_c (xs ys : List Int) (hx : Lim xs) (hy : Lim ys) (A B : Option Addr) (n m c d : Nat) (hn : n ≤ 100000) (hm : m ≤ 100000) (w : World) (hra : Rd .u32 w w.heap.size A n xs) (hrb : Rd .u32 w w.heap.size B m ys) : Calls Tryd.prog 33 #[.slice A n c, .slice B m d] w (RetN w (natL (valL xs + valL ys))) := by
  obtain ⟨V, hV⟩ : ∃ V, valL xs + valL ys = V := ⟨_, rfl⟩
  rw [hV]
  go_enter Tryd.func33, Tryd.ntmps33
  go_upto_if 14 with fail
  go_cut [0, 1] from 14 to 16 (fun v0 v1 wx => w = wx ∧ TwoS w V v0 v1)
  case first =>
    by_cases h : n < m
    · have h1 : (n : Int) < (m : Int) := by omega
      have HF : Hid (TwoS w V (.slice B m d) (.slice A n c)) := Lib.hid ⟨ys, xs, B, A, m, n, d, c, rfl, rfl, hy, hx, hrb, hra, hm, by omega, by omega⟩
      clear hra hrb hx hy hV h hn hm
      go_wp2_with fail
      (go_meet; exact ⟨rfl, HF.out⟩)
    · have h1 : ¬ (n : Int) < (m : Int) := by omega
      have HF : Hid (TwoS w V (.slice A n c) (.slice B m d)) := Lib.hid ⟨xs, ys, A, B, n, m, c, d, rfl, rfl, hx, hy, hra, hrb, hn, by omega, hV⟩
      clear hra hrb hx hy hV h hn hm
      go_wp2_with fail
      (go_meet; exact ⟨rfl, HF.out⟩)
  case rest =>
    obtain ⟨rfl, hh⟩ := hcut
    clear hra hrb hx hy hV hn hm xs ys
    obtain ⟨xs, ys, A, B, n, m, c, d, rfl, rfl, hx, hy, hra, hrb, hn, hmn, hV⟩ := hh
    have hlx := hra.len
    have hly := hrb.len
    have HRA := Lib.hid hra
    have HRB := Lib.hid hrb
    obtain ⟨i0, hi0, hz0, hz1, hzb⟩ := info_parts info_u32d
    have HXG := Lib.hid (fun i => hx.getD i)
    have HYG := Lib.hid (fun i => hy.getD i)
    have HXD := Lib.hid (fun i => valL_drop_getD xs i)
    have HYD := Lib.hid (fun i => valL_drop_getD ys i)
    have HYE := Lib.hid (fun i (h : m ≤ i) => show ys.getD i 0 = 0 by rw [List.getD_eq_getElem?_getD, List.getElem?_eq_none (by omega)]; rfl)
    have hmk : ∀ W, (Instr.makeSlice 26 (.int .i64 ((n : Int) + 1)) (.int .i64 ((n : Int) + 1))).run Tryd.prog W = .ok (.slice (some ⟨W.heap.size, 0, none⟩) (n + 1) (n + 1)) (W.alloc (.cells (intsA .u32 (List.replicate (n + 1) 0)) 45)) := fun W => run_make_ints (P := Tryd.prog) 26 45 i0 .u32 Tryd.underlying26 hi0 hz0 hz1 .i64 .i64 (n + 1) (by rw [hzb]; omega) (by omega) W
    have HS0 : Hid (NatS w w.heap.size (List.replicate (n + 1) 0) (w.alloc (.cells (intsA .u32 (List.replicate (n + 1) 0)) 45))) := Lib.hid ⟨Blk.new _ _ _, Nat.le_refl _, (Below.refl _ _).alloc (Nat.le_refl _) _⟩
    have HST : Hid (valL (List.replicate (n + 1) 0) + 4294967296 ^ 0 * (0 + valL (xs.drop 0) + valL (ys.drop 0)) = V) := Lib.hid (by rw [valL_rep, List.drop_zero, List.drop_zero, Nat.pow_zero]; omega)
    have HEND : Hid (valL (xs.drop n) = 0 ∧ valL (ys.drop n) = 0) := Lib.hid ⟨by rw [List.drop_eq_nil_of_le (by omega)]; rfl, by rw [List.drop_eq_nil_of_le (by omega)]; rfl⟩
    have nI : (n : Int) ≤ 100000 := by omega
    have mI : (m : Int) ≤ (n : Int) := by omega
    clear hra hrb hx hy hlx hly hi0 hz0 hz1 hzb hV
    go_wp2
    clear hmk
    obtain ⟨g, hg⟩ : ∃ g, w.heap.size = g := ⟨_, rfl⟩
    have HS1 : Hid (NatS w g (List.replicate (n + 1) 0) (w.alloc (.cells (intsA .u32 (List.replicate (n + 1) 0)) 45))) := by rw [← hg]; exact HS0
    rw [hg]
    clear hg HS0
    obtain ⟨w1, hw1⟩ : ∃ w1, w.alloc (.cells (intsA .u32 (List.replicate (n + 1) 0)) 45) = w1 := ⟨_, rfl⟩
    rw [hw1] at HS1
    rw [hw1]
    clear hw1
    go_loopw [6, 23] (fun cc ii wr => ∃ (i r : Nat) (out : List Int), i ≤ n ∧ r ≤ 1 ∧ cc = .int .u64 (r : Int) ∧ ii = .int .i64 (i : Int) ∧ out.length = n + 1 ∧ Lim out ∧ (∀ t, i ≤ t → out.getD t 0 = 0) ∧ valL out + 4294967296 ^ i * (r + valL (xs.drop i) + valL (ys.drop i)) = V ∧ NatS w g out wr) (fun _ ii _ => n - (intOf ii).toNat)
    case atStart => exact ⟨0, 0, _, by omega, by omega, rfl, rfl, List.length_replicate, Lim.rep _, fun t _ => getD_rep0 _ t, HST.out, HS1.out⟩
    case round =>
      clear HST HS1
      obtain ⟨i, r, out, hi, hr1, rfl, rfl, hol, hlo, hzr, hval, hns⟩ := hrel
      have HNS := Lib.hid hns
      by_cases hin : i < n
      · obtain ⟨b1, o1, rfl, _, hc1⟩ := (HRA.out.below hns.bel).at_ (by omega)
        have hk1 := hc1 i hin
        have hxi := HXG.out i
        have hyi := HYG.out i
        rw [HXD.out i, HYD.out i] at hval
        have hye := HYE.out i
        obtain ⟨x, hxx⟩ : ∃ x, xs.getD i 0 = x := ⟨_, rfl⟩
        obtain ⟨y, hyy⟩ : ∃ x, ys.getD i 0 = x := ⟨_, rfl⟩
        rw [hxx] at hxi hval hk1
        rw [hyy] at hyi hval hye
        obtain ⟨s, hs⟩ : ∃ s : Nat, s = x.toNat + y.toNat + r := ⟨_, rfl⟩
        obtain ⟨p, hp⟩ : ∃ p, s % 4294967296 = p := ⟨_, rfl⟩
        obtain ⟨q, hq⟩ : ∃ p, s / 4294967296 = p := ⟨_, rfl⟩
        have hpq : p + 4294967296 * q = s := by omega
        have hset := valL_set out i (p : Int) (by omega)
        rw [hzr i (Nat.le_refl _), Int.toNat_natCast] at hset
        have hnew := carry_step (4294967296 ^ i) p q r x.toNat y.toNat (valL (xs.drop (i + 1))) (valL (ys.drop (i + 1))) (by omega)
        have HV2 : Hid (valL (out.set i (p : Int)) + 4294967296 ^ (i + 1) * (q + valL (xs.drop (i + 1)) + valL (ys.drop (i + 1))) = V) := Lib.hid (by
          rw [Nat.pow_succ]
          have h0 : 4294967296 ^ i * (0 : Int).toNat = 0 := Nat.mul_zero _
          rw [h0] at hset
          omega)
        have HL2 : Hid ((out.set i (p : Int)).length = n + 1) := Lib.hid (by rw [List.length_set]; exact hol)
        have HM2 := Lib.hid (hlo.set i (x := (p : Int)) ⟨by omega, by omega⟩)
        have HZ2 := Lib.hid (set_past (p : Int) hzr)
        have HQ1 : Hid (q ≤ 1) := Lib.hid (by omega)
        have HI1 : Hid (i + 1 ≤ n) := Lib.hid (by omega)
        have HJS := Lib.hid (nat_lt (out := out) (j := i) (by omega))
        have i1 : (i : Int) < (n : Int) := by omega
        obtain ⟨x0, x1⟩ := hxi
        have f1 : IntKind.u64.wrap x = x := by rw [IntKind.wrap_u64]; omega
        have hq1 : (q : Int) ≤ 1 := by omega
        have hp1 : (p : Int) < 4294967296 := by omega
        have hpw : IntKind.u32.wrap (s : Int) = (p : Int) := by rw [IntKind.wrap_u32]; omega
        have hqd : (s : Int) / 4294967296 = (q : Int) := by omega
        have hqw : IntKind.u64.wrap (q : Int) = (q : Int) := by rw [IntKind.wrap_u64]; omega
        by_cases him : i < m
        · obtain ⟨b2, o2, rfl, _, hc2⟩ := (HRB.out.below hns.bel).at_ (by omega)
          have hk2 := hc2 i him
          rw [hyy] at hk2
          obtain ⟨y0, y1⟩ := hyi
          have f2 : IntKind.u64.wrap y = y := by rw [IntKind.wrap_u64]; omega
          have f3 : IntKind.u64.wrap (x + (r : Int)) = x + (r : Int) := by rw [IntKind.wrap_u64]; omega
          have f4 : x + (r : Int) + y = (s : Int) := by omega
          have f5 : IntKind.u64.wrap (s : Int) = (s : Int) := by rw [IntKind.wrap_u64]; omega
          have i2 : (i : Int) < (m : Int) := by omega
          clear hns hol hlo hzr hval hc1 hc2 hxx hyy hye hs hp hq hpq hset hnew hi hin him
          go_wp2_with (first
            | (with_reducible refine at_any ?_; refine at_store 49 rfl ?_; refine wpList_store_cell rfl 45 (.tmp 49) (.tmp 46) rfl g i rfl 45 (intsA .u32 out) (NatS.blk HNS.out) (.int .u32 (p : Int)) rfl HJS.out size_u32s rfl rfl ?_; intro w90 hk90 ho90; have HF9 := Lib.hid (NatS.set HNS.out hk90.out ho90); clear hk90 ho90))
          go_roundw
          case rel => exact ⟨i + 1, q, _, HI1.out, HQ1.out, rfl, by go_num, HL2.out, HM2.out, HZ2.out, HV2.out, HF9.out⟩
          case measure => have := HI1.out; simp [intOf]; omega
        · have hy0 : y = 0 := hye (by omega)
          subst hy0
          have f3 : x + (r : Int) = (s : Int) := by rw [hs]; have : (0 : Int).toNat = 0 := rfl; omega
          have f5 : IntKind.u64.wrap (s : Int) = (s : Int) := by rw [IntKind.wrap_u64]; omega
          have i2 : ¬ (i : Int) < (m : Int) := by omega
          clear hns hol hlo hzr hval hc1 hxx hyy hye hs hp hq hpq hset hnew hi hin him
          go_wp2_with (first
            | (with_reducible refine at_any ?_; refine at_store 49 rfl ?_; refine wpList_store_cell rfl 45 (.tmp 49) (.tmp 46) rfl g i rfl 45 (intsA .u32 out) (NatS.blk HNS.out) (.int .u32 (p : Int)) rfl HJS.out size_u32s rfl rfl ?_; intro w90 hk90 ho90; have HF9 := Lib.hid (NatS.set HNS.out hk90.out ho90); clear hk90 ho90))
          go_roundw
          case rel => exact ⟨i + 1, q, _, HI1.out, HQ1.out, rfl, by go_num, HL2.out, HM2.out, HZ2.out, HV2.out, HF9.out⟩
          case measure => have := HI1.out; simp [intOf]; omega
      · obtain rfl : i = n := by omega
        obtain ⟨e1, e2⟩ := HEND.out
        rw [e1, e2] at hval
        have hset := valL_set out i (r : Int) (by omega)
        rw [hzr i (Nat.le_refl _), Int.toNat_natCast] at hset
        have hfin : valL (out.set i (r : Int)) = V := by
          have h0 : 4294967296 ^ i * (0 : Int).toNat = 0 := Nat.mul_zero _
          rw [h0] at hset
          have hv2 : valL out + 4294967296 ^ i * r = V := hval
          clear hval
          generalize 4294967296 ^ i * r = Y at *
          omega
        have hlo2 := hlo.set i (x := (r : Int)) ⟨by omega, by omega⟩
        have hol2 : (out.set i (r : Int)).length = i + 1 := by rw [List.length_set]; exact hol
        have htr := fun W h => q10trim_c (out.set i (r : Int)) (some ⟨g, 0, none⟩) (i + 1) (i + 1) (by unfold maxLen; omega) (Nat.le_refl _) W h
        have hrt := fun W (h : Rd .u32 W W.heap.size (some ⟨g, 0, none⟩) (i + 1) (out.set i (r : Int))) => rd_trim h
        have htl := trimL_len (out.set i (r : Int))
        rw [trimL_eq hlo2, hfin] at htr hrt htl
        rw [hol2] at htl
        have HTR := Lib.hid htr
        have HRT := Lib.hid hrt
        have HTL := Lib.hid htl
        have HML : Hid (i + 1 ≤ maxLen) := Lib.hid (by unfold maxLen; omega)
        have HJS := Lib.hid (nat_lt (out := out) (j := i) (by omega))
        have HOL := Lib.hid hol2
        have i1 : (i : Int) < (i : Int) + 1 := by omega
        have hrw : IntKind.u32.wrap (r : Int) = (r : Int) := by rw [IntKind.wrap_u32]; omega
        clear hns hol hlo hzr hval hset hfin hlo2 hol2 htr hrt htl hi hin e1 e2
        go_wp2_with (first
          | (with_reducible refine at_any ?_; refine at_store 56 rfl ?_; refine wpList_store_cell rfl 45 (.tmp 56) (.tmp 55) rfl g i rfl 45 (intsA .u32 out) (NatS.blk HNS.out) (.int .u32 (r : Int)) rfl HJS.out size_u32s rfl rfl ?_; intro w90 hk90 ho90; have HF9 := Lib.hid (NatS.set HNS.out hk90.out ho90); have HR9 : Hid (Rd .u32 w90 w90.heap.size (some ⟨g, 0, none⟩) (i + 1) (out.set i (r : Int))) := Lib.hid (by have h := NatS.rd HF9.out; rw [HOL.out] at h; exact h); clear hk90 ho90)
          | (go_at_call 42; (with_reducible refine (HTR.out _ HR9.out).mono ?_); rintro e _ ⟨rfl, rfl⟩))
        go_ret
        exact ⟨_, _, rfl, HTL.out, HML.out, HRT.out _ HR9.out, HF9.out.bel⟩
end Go.Proofs.YtoimepmignlmkaaDoor

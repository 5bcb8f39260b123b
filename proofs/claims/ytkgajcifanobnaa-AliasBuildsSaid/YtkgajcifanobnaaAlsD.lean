/-
  What the landed alias tells of a table: whether it may be, its size, a lookup.
  Conditions: the numbers lie in their types' ranges; the cells read as pairs.
-/
import Derived.Test.YtkgajcifanobnaaAlsB
set_option maxRecDepth 100000
set_option linter.unusedVariables false
set_option linter.unusedSimpArgs false
namespace Go.Proofs.Ytkgajcifanobnaa
open Go.ChangeShapes Go.WideShapes Go.ChangeAt Go.RowKit
set_option maxHeartbeats 2000000 in
theorem q14ix_c (T : Int) (T0 : 0 ≤ T) (T1 : T < 18446744073709551616) (ts : List (Int × Int)) (hts : PrOk ts) (A : Option Addr) (n c : Nat) (hn : n ≤ maxLen) (w0 : World) (hrd : RdPr .u64 .i64 w0 w0.heap.size A n ts) (g : Nat) (w : World) (hS : TbS w0 g T A n c w) :
    Calls Try.prog 41 #[.slice A n c, .func (.func 33) #[] #[.pointer (some ⟨g, 0, none⟩)]] w fun e w' => (∃ r : Int, e = .returned (.int .i64 r) ∧ (r < 0 ↔ ∀ k, k < n → badC T n (cellL ts k) = false)) ∧ Below w.heap.size w w' := by
  have hlen := hrd.len
  have hnm : (n : Int) ≤ 9223372036854775807 := by unfold maxLen at hn; omega
  have HB := Lib.hid (fun W hW x y x0 x1 y0 y1 => q14bad_c T T0 T1 A n c hn x y x0 x1 y0 y1 w0 g W hW)
  have HR := Lib.hid hrd
  have HTS := Lib.hid hts
  have HS := Lib.hid hS
  clear hrd hts hS hn T0 T1
  go_enter Try.func41, Try.ntmps41
  go_wp2
  go_loopw [8] (fun i wr => ∃ k : Nat, k ≤ n ∧ i = .int .i64 (k : Int) ∧ (∀ j, j < k → badC T n (cellL ts j) = false) ∧ TbS w0 g T A n c wr ∧ Below w.heap.size w wr) (fun i _ => n - (intOf i).toNat)
  case atStart => exact ⟨0, by omega, rfl, fun j h => absurd h (by omega), HS.out, Below.refl _ _⟩
  case round =>
    obtain ⟨k, hk, rfl, hall, hS, hW⟩ := hrel
    have HSS := Lib.hid hS
    have HAL := Lib.hid hall
    have HWW := Lib.hid hW
    clear hall hS hW
    by_cases hlt : k < n
    · obtain ⟨b, off, rfl, hb, hcc⟩ := (HSS.out.pr HR.out).cells (by omega)
      obtain ⟨hc0, hc1⟩ := hcc k hlt
      have hz := HTS.out.at_ (k := k) (by omega)
      have HC0 := Lib.hid (HB.out _ HSS.out _ _ hz.1 hz.2.1 hz.2.2.1 hz.2.2.2)
      have HNX : Hid (badC T n ((cellL ts k).1, (cellL ts k).2) = false → ∀ j, j < k + 1 → badC T n (cellL ts j) = false) := Lib.hid (fun h j hj => by
        by_cases e : j = k
        · rw [e]; exact h
        · exact HAL.out j (by omega))
      have HNO : Hid (badC T n ((cellL ts k).1, (cellL ts k).2) = true → ¬ ∀ j, j < n → badC T n (cellL ts j) = false) := Lib.hid (fun h h2 => by
        have h3 := h2 k hlt
        rw [show cellL ts k = ((cellL ts k).1, (cellL ts k).2) from rfl, h] at h3
        cases h3)
      obtain ⟨x, hx⟩ : ∃ x, (cellL ts k).1 = x := ⟨_, rfl⟩
      obtain ⟨y, hy⟩ : ∃ x, (cellL ts k).2 = x := ⟨_, rfl⟩
      rw [hx, hy] at HC0 HNX HNO
      rw [hx] at hc0
      rw [hy] at hc1
      have i0 : (0 : Int) ≤ (k : Int) := by omega
      have i1 : (k : Int) < (n : Int) := by omega
      clear hcc hb hx hy hz
      cases hbd : badC T n (x, y)
      · rw [hbd] at HC0
        have HNN := Lib.hid (HNX.out hbd)
        clear hbd HNX HNO HAL
        go_wp2_with (first
          | (go_at_call 33; (with_reducible refine HC0.out.mono ?_); rintro e w1 ⟨rfl, hb1⟩; have HS1 := Lib.hid (HSS.out.below hb1); have HW1 := Lib.hid (HWW.out.trans (hb1.mono HWW.out.size))))
        go_roundw
        case rel => exact ⟨k + 1, by omega, by go_num, HNN.out, HS1.out, HW1.out⟩
        case measure => simp [intOf]; omega
      · rw [hbd] at HC0
        have HNN := Lib.hid (HNO.out hbd)
        clear hbd HNX HNO HAL
        go_wp2_with (first
          | (go_at_call 33; (with_reducible refine HC0.out.mono ?_); rintro e w1 ⟨rfl, hb1⟩; have HS1 := Lib.hid (HSS.out.below hb1); have HW1 := Lib.hid (HWW.out.trans (hb1.mono HWW.out.size))))
        go_ret
        exact ⟨⟨_, rfl, fun h => absurd h (by omega), fun h => absurd h HNN.out⟩, HW1.out⟩
    · obtain rfl : k = n := by omega
      go_wp2
      go_ret
      exact ⟨⟨_, rfl, fun _ => HAL.out, fun _ => by decide⟩, HWW.out⟩
theorem q14has_c (T : Int) (T0 : 0 ≤ T) (T1 : T < 18446744073709551616) (ts : List (Int × Int)) (hts : PrOk ts) (A : Option Addr) (n c : Nat) (hn : n ≤ maxLen) (w0 : World) (hrd : RdPr .u64 .i64 w0 w0.heap.size A n ts) (g : Nat) (w : World) (hS : TbS w0 g T A n c w) (p : Bool) (hp : p = false ↔ ∀ k, k < n → badC T n (cellL ts k) = false) :
    Calls Try.prog 32 #[.slice A n c, .func (.func 33) #[] #[.pointer (some ⟨g, 0, none⟩)]] w fun e w' => e = .returned (.bool p) ∧ Below w.heap.size w w' := by
  have HI := Lib.hid (q14ix_c T T0 T1 ts hts A n c hn w0 hrd g w hS)
  have HP := Lib.hid hp
  clear hts hrd hS hn hp
  go_enter Try.func32, Try.ntmps32
  go_wp2_with (first
    | (go_at_call 41; (with_reducible refine HI.out.mono ?_); rintro e w1 ⟨⟨r, rfl, hr⟩, hb1⟩; have HB1 := Lib.hid hb1; have HRR := Lib.hid hr; clear hb1 hr))
  go_ret
  refine ⟨ret_bool ?_, HB1.out⟩
  have h := HRR.out.trans HP.out.symm
  cases p
  · have := h.2 rfl
    simp; omega
  · have : ¬ r < 0 := fun h2 => by have := h.1 h2; cases this
    simp; omega
section
variable (T : Int) (T0 : 0 ≤ T) (T1 : T < 18446744073709551616) (ts : List (Int × Int)) (hts : PrOk ts) (A : Option Addr) (n c : Nat) (hn : n ≤ 1000) (hc : n ≤ c) (hcm : c ≤ maxLen) (w : World) (hrd : RdPr .u64 .i64 w w.heap.size A n ts)
include T0 T1 hts hn hrd
set_option maxHeartbeats 2000000 in
theorem q14rightB_c : Calls Try.prog 19 #[.agg #[.int .u64 T, .slice A n c]] w fun e w' => e = .returned (.bool (tabR T ts)) ∧ Below w.heap.size w w' := by
  have hlen := hrd.len
  have hmx : n ≤ maxLen := by unfold maxLen; omega
  have HM := Lib.hid (fun W => q9mul_c (n : Int) T (by omega) (by omega) T0 T1 W)
  have HS := Lib.hid (TbS.new w T A n c)
  have c0 := HS.out.c0
  have c1 := HS.out.c1
  by_cases h1 : (n : Int) * T < 9223372036854775808
  · rw [(mulV_ok h1).1, (mulV_ok h1).2] at HM
    by_cases h2 : (n : Int) * T = 0
    · have HT := Lib.hid (tabR_no (T := T) (ts := ts) (by
        rw [hlen]
        rintro ⟨a, b, -⟩
        have := Int.mul_pos (show (0 : Int) < (n : Int) by omega) b
        omega))
      rw [h2] at HM
      have hnm : (n : Int) ≤ 1000 := by omega
      clear h1 h2 hrd hts
      go_enter Try.func19, Try.ntmps19
      go_wp2_with (first
        | (go_at_call 25; (with_reducible refine (HM.out _).mono ?_); rintro e _ ⟨rfl, rfl⟩))
      go_ret
      exact ⟨ret_bool HT.out.symm, HS.out.bel⟩
    · have hT0 : 0 < T := by
        rcases Int.lt_or_le 0 T with h | h
        · exact h
        · exact absurd (show (n : Int) * T = 0 by rw [show T = 0 by omega]; simp) h2
      have hn0 : 0 < n := by
        rcases Nat.eq_zero_or_pos n with h | h
        · exact absurd (show (n : Int) * T = 0 by rw [h]; simp) h2
        · exact h
      have HH := Lib.hid (fun p hp => q14has_c T T0 T1 ts hts A n c hmx w hrd w.heap.size _ HS.out p hp)
      have hT : tabR T ts = !(tabR T ts == false) := by cases tabR T ts <;> rfl
      have HHP : Hid ((!tabR T ts) = false ↔ ∀ k, k < n → badC T n (cellL ts k) = false) := Lib.hid (by
        constructor
        · intro h k hk
          have h3 : tabR T ts = true := by simpa using h
          have h4 := (tabR_iff.1 h3).2.2.2 k (by omega)
          rw [hlen] at h4
          exact decide_eq_false (fun h5 => h5 h4)
        · intro h
          rw [tabR_all (T := T) (ts := ts) (by rw [hlen]; exact ⟨hn0, hT0, h1⟩) (fun k hk => by
            rw [hlen]
            exact Decidable.not_not.1 (of_decide_eq_false (h k (by omega))))]
          rfl)
      have HH2 := Lib.hid (HH.out _ HHP.out)
      clear HH HHP hT
      have hnm : (n : Int) ≤ 1000 := by omega
      have t1 : ((n : Int) * T == 0) = false := by rw [beq_eq_false_iff_ne]; exact h2
      obtain ⟨m, hm⟩ : ∃ m, (n : Int) * T = m := ⟨_, rfl⟩
      rw [hm] at HM t1
      obtain ⟨q, hq⟩ : ∃ q, tabR T ts = q := ⟨_, rfl⟩
      rw [hq] at HH2 ⊢
      clear h1 h2 hrd hts hm hq
      go_enter Try.func19, Try.ntmps19
      go_wp2_with (first
        | (go_at_call 25; (with_reducible refine (HM.out _).mono ?_); rintro e _ ⟨rfl, rfl⟩)
        | (go_at_call 32; (with_reducible refine HH2.out.mono ?_); rintro e w1 ⟨rfl, hb1⟩; have HS1 := Lib.hid (HS.out.below hb1)))
      go_ret
      exact ⟨ret_bool (by cases q <;> rfl), HS1.out.bel⟩
  · rw [(mulV_no h1).1, (mulV_no h1).2] at HM
    have HT := Lib.hid (tabR_no (T := T) (ts := ts) (by rw [hlen]; exact fun h => h1 h.2.2))
    have hnm : (n : Int) ≤ 1000 := by omega
    clear h1 hrd hts
    go_enter Try.func19, Try.ntmps19
    go_wp2_with (first
      | (go_at_call 25; (with_reducible refine (HM.out _).mono ?_); rintro e _ ⟨rfl, rfl⟩))
    go_ret
    exact ⟨ret_bool HT.out.symm, HS.out.bel⟩
set_option maxHeartbeats 2000000 in
theorem q14sizeB_c : Calls Try.prog 21 #[.agg #[.int .u64 T, .slice A n c]] w fun e w' => e = .returned (.int .u64 (tabZ T ts)) ∧ Below w.heap.size w w' := by
  have hlen := hrd.len
  have HC := Lib.hid (fun W h => q14rightB_c T T0 T1 ts hts A n c hn W h)
  have HR := Lib.hid hrd
  have HS := Lib.hid (TbS.new w T A n c)
  have c00 := HS.out.c0
  have c01 := HS.out.c1
  cases hr : tabR T ts
  · rw [hr] at HC
    have HZ : Hid (tabZ T ts = 0) := Lib.hid (if_neg (by rw [hr]; simp))
    clear hrd hts hr
    go_enter Try.func21, Try.ntmps21
    go_wp2_with (first
      | (go_at_call 19; (with_reducible refine (HC.out _ (HS.out.pr HR.out)).mono ?_); rintro e w1 ⟨rfl, hb1⟩; have HS1 := Lib.hid (HS.out.below hb1)))
    go_ret
    exact ⟨ret_u64v HZ.out.symm, HS1.out.bel⟩
  · rw [hr] at HC
    have HZ : Hid (tabZ T ts = (n : Int) * T) := Lib.hid (by unfold tabZ; rw [if_pos hr, hlen])
    have hm := (tabR_iff.1 hr).2.2.1
    have hm0 := Int.mul_nonneg (show 0 ≤ (n : Int) by omega) T0
    rw [hlen] at hm
    clear hrd hts hr
    have hnm : (n : Int) ≤ 9223372036854775807 := by omega
    have hw : IntKind.u64.wrap ((n : Int) * T) = (n : Int) * T := by rw [IntKind.wrap_u64]; omega
    clear hm hm0
    go_enter Try.func21, Try.ntmps21
    go_wp2_with (first
      | (go_at_call 19; (with_reducible refine (HC.out _ (HS.out.pr HR.out)).mono ?_); rintro e w1 ⟨rfl, hb1⟩; have HS1 := Lib.hid (HS.out.below hb1); have c0 := HS1.out.c0; have c1 := HS1.out.c1))
    go_ret
    exact ⟨ret_u64v HZ.out.symm, HS1.out.bel⟩
set_option maxHeartbeats 4000000 in
theorem q14lookupB_c (i u : Int) (i0 : -9223372036854775808 ≤ i) (i1 : i < 9223372036854775808) (u0 : 0 ≤ u) (u1 : u < 18446744073709551616) : Calls Try.prog 13 #[.agg #[.int .u64 T, .slice A n c], .int .i64 i, .int .u64 u] w fun e w' => e = .returned (.tuple #[.int .i64 (lkV T ts i u), .int .i64 (lkE T ts i u)]) ∧ Below w.heap.size w w' := by
  have hlen := hrd.len
  have hmx : n ≤ maxLen := by unfold maxLen; omega
  have HC := Lib.hid (fun W h => q14rightB_c T T0 T1 ts hts A n c hn W h)
  have HR := Lib.hid hrd
  have HS := Lib.hid (TbS.new w T A n c)
  have c00 := HS.out.c0
  have c01 := HS.out.c1
  cases hr : tabR T ts
  · rw [hr] at HC
    have HE : Hid (lkE T ts i u = 1 ∧ lkV T ts i u = 0) := Lib.hid (by
      have h : lkE T ts i u = 1 := if_neg (by rw [hr]; simp)
      exact ⟨h, if_neg (by rw [h]; decide)⟩)
    clear hrd hts hr
    go_enter Try.func13, Try.ntmps13
    go_wp2_with (first
      | (go_at_call 19; (with_reducible refine (HC.out _ (HS.out.pr HR.out)).mono ?_); rintro e w1 ⟨rfl, hb1⟩; have HS1 := Lib.hid (HS.out.below hb1)))
    go_ret2
    exact ⟨ret_iiT HE.out.2.symm HE.out.1.symm, HS1.out.bel⟩
  · rw [hr] at HC
    have hcl := fun W => q14col_c T A n c hmx i i0 i1 W
    by_cases ho : 0 ≤ i ∧ i < (n : Int) ∧ u < T
    · have HE : Hid (lkE T ts i u = 0) := Lib.hid (by unfold lkE; rw [if_pos hr, if_pos (by rw [hlen]; exact ho)])
      rw [decide_eq_true ⟨ho.1, ho.2.1⟩] at hcl
      obtain ⟨o0, o1, o2⟩ := ho
      obtain ⟨k, rfl⟩ := Int.eq_ofNat_of_zero_le o0
      have HV : Hid (lkV T ts (k : Int) u = lkC ts k u) := Lib.hid (by unfold lkV; rw [if_pos HE.out]; rfl)
      have HO := Lib.hid (fun W h => q14of_c T ts hts A n c hmx W h k (by omega) u u0 u1)
      have HCL := Lib.hid hcl
      obtain ⟨v, hv⟩ : ∃ v, lkC ts k u = v := ⟨_, rfl⟩
      rw [hv] at HO HV
      clear hrd hts hr hcl hv i0 o0 i1
      go_enter Try.func13, Try.ntmps13
      go_wp2_with (first
        | (go_at_call 19; (with_reducible refine (HC.out _ (HS.out.pr HR.out)).mono ?_); rintro e w1 ⟨rfl, hb1⟩; have HS1 := Lib.hid (HS.out.below hb1); have c0 := HS1.out.c0; have c1 := HS1.out.c1)
        | (go_at_call 30; (with_reducible refine (HCL.out _).mono ?_); rintro e w2 ⟨rfl, hb2⟩; have HS2 := Lib.hid (HS1.out.below hb2); have c2 := HS2.out.c0; have c3 := HS2.out.c1)
        | (go_at_call 31; (with_reducible refine (HO.out _ (HS2.out.pr HR.out)).mono ?_); rintro e w3 ⟨rfl, hb3⟩; have HS3 := Lib.hid (HS2.out.below hb3)))
      go_ret2
      exact ⟨ret_iiT HV.out.symm HE.out.symm, HS3.out.bel⟩
    · have HE : Hid (lkE T ts i u = 3 ∧ lkV T ts i u = 0) := Lib.hid (by
        have h : lkE T ts i u = 3 := by unfold lkE; rw [if_pos hr, if_neg (by rw [hlen]; exact ho)]
        exact ⟨h, if_neg (by rw [h]; decide)⟩)
      by_cases d : 0 ≤ i ∧ i < (n : Int)
      · have d3 : T ≤ u := by omega
        rw [decide_eq_true d] at hcl
        have HCL := Lib.hid hcl
        clear hrd hts hr hcl ho d
        go_enter Try.func13, Try.ntmps13
        go_wp2_with (first
          | (go_at_call 19; (with_reducible refine (HC.out _ (HS.out.pr HR.out)).mono ?_); rintro e w1 ⟨rfl, hb1⟩; have HS1 := Lib.hid (HS.out.below hb1); have c0 := HS1.out.c0; have c1 := HS1.out.c1)
          | (go_at_call 30; (with_reducible refine (HCL.out _).mono ?_); rintro e w2 ⟨rfl, hb2⟩; have HS2 := Lib.hid (HS1.out.below hb2); have c2 := HS2.out.c0; have c3 := HS2.out.c1))
        go_ret2
        exact ⟨ret_iiT HE.out.2.symm HE.out.1.symm, HS2.out.bel⟩
      · rw [decide_eq_false d] at hcl
        have HCL := Lib.hid hcl
        clear hrd hts hr hcl ho d
        go_enter Try.func13, Try.ntmps13
        go_wp2_with (first
          | (go_at_call 19; (with_reducible refine (HC.out _ (HS.out.pr HR.out)).mono ?_); rintro e w1 ⟨rfl, hb1⟩; have HS1 := Lib.hid (HS.out.below hb1); have c0 := HS1.out.c0; have c1 := HS1.out.c1)
          | (go_at_call 30; (with_reducible refine (HCL.out _).mono ?_); rintro e w2 ⟨rfl, hb2⟩; have HS2 := Lib.hid (HS1.out.below hb2); have c2 := HS2.out.c0; have c3 := HS2.out.c1))
        go_ret2
        exact ⟨ret_iiT HE.out.2.symm HE.out.1.symm, HS2.out.bel⟩
end
end Go.Proofs.Ytkgajcifanobnaa

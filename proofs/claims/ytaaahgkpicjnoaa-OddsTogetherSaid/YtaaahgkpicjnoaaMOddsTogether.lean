/-
  All places' tapes, and the lost ones, are all tapes; of up to 20 stakes.
  Conditions: none.
-/
import Derived.Test.YtaaahgkpicjnoaaGc
import Derived.ShutString
import Derived.ChangeOld
namespace Go.Proofs.Ytaaahgkpicjnoaa.oddsTogether
open Go.ChangeShapes Go.WideShapes Go.ChangeAt Go.RowKit
set_option linter.unusedVariables false
set_option linter.unusedSimpArgs false
set_option maxRecDepth 100000

theorem own : ownKnob Try.prog.godebug = none := by kernel_rfl
theorem laidOut : laidOutB Try.prog = true := by kernel_rfl

set_option maxHeartbeats 16000000 in
theorem walk (m : Int) (a : Option Addr) (n c : Nat) (zs : List Int) (w : World) (w0 : (Lit.int .u8 m).wf = true) (hrd : Rd .u64 w w.heap.size a n zs) (lc : n ≤ c) (cm : c ≤ maxLen) (hw : ∀ z ∈ zs, (Lit.int .u64 z).wf = true) :
    Calls Try.prog 5 #[.int .u8 m, .slice a n c] w fun e w' => e = .returned (.bool true) ∧ Below w.heap.size w w' := by
  have m0 : 0 ≤ m := (bounds_u8 w0).1
  have m1 : m < 256 := by have := (bounds_u8 w0).2; omega
  have hz : ∀ z ∈ zs, 0 ≤ z ∧ z < 18446744073709551616 := fun z h => by
    obtain ⟨h1, h2⟩ := bounds_u64 (hw z h)
    omega
  have hlen := hrd.len
  have G0 : Hid (Fx [.rdb .u64 w.heap.size a n zs, .bel w] w) := Lib.hid ⟨⟨hrd, Nat.le_refl _⟩, Below.refl _ _, trivial⟩
  by_cases hg : 20 < n
  · have hg2 : (20 : Int) < (n : Int) := by omega
    clear hrd hw hz hlen hg m0 m1 w0 lc cm
    go_enter Try.func5, Try.ntmps5
    go_wp2_with (first
      | (go_at_call 8; (with_reducible refine (alive16_c _).mono ?_); rintro e w1 ⟨rfl, hbw1⟩; have G2 := Lib.hid (Fx.below G0.out hbw1); clear G0; clear hbw1))
    go_ret
    exact ⟨rfl, (Fx.e1 G2.out)⟩
  have hg2 : (n : Int) ≤ 20 := by omega
  have htm : m.tmod 64 = m % 64 := Int.tmod_eq_emod_of_nonneg m0
  obtain ⟨r, hr⟩ : ∃ r, m % 64 = r := ⟨_, rfl⟩
  have r0 : 0 ≤ r := by rw [← hr]; exact Int.emod_nonneg _ (by omega)
  have r1 : r < 64 := by rw [← hr]; exact Int.emod_lt_of_pos _ (by omega)
  rw [hr] at htm
  obtain ⟨M, hM⟩ : ∃ M, 1 + r = M := ⟨_, rfl⟩
  have M1 : 1 ≤ M := by omega
  have M2 : M ≤ 64 := by omega
  have hto := fun W h => r9total_c zs hz a n c (by unfold maxLen; omega) W h
  have hz0 : ∀ z ∈ zs, 0 ≤ z := fun z h => (hz z h).1
  have hs0 := sumL_nn hz0
  by_cases hs : ¬ sumL zs < 9223372036854775808
  · rw [(sumV_no hs).1, (sumV_no hs).2] at hto
    have HT := Lib.hid hto
    clear hto hs hs0 hrd hw hz hz0 hlen hg hr m0 m1 w0 lc cm
    go_enter Try.func5, Try.ntmps5
    go_wp2_with (first
      | (go_at_call 8; (with_reducible refine (alive16_c _).mono ?_); rintro e w1 ⟨rfl, hbw1⟩; have G2 := Lib.hid (Fx.below G0.out hbw1); clear G0; clear hbw1)
      | (go_at_call 25; (with_reducible refine (HT.out _ (Fx.r0 G2.out)).mono ?_); rintro e _ ⟨rfl, rfl⟩))
    go_ret
    exact ⟨rfl, (Fx.e1 G2.out)⟩
  have hs1 : sumL zs < 9223372036854775808 := by omega
  rw [(sumV_ok hs1).1, (sumV_ok hs1).2] at hto
  have HPR := Lib.hid (fun k => sumL_le hz0 k)
  have HPN := Lib.hid (fun k (hk : k < n) => sumL_take (l := zs) (k := k) (by omega))
  have HPA : Hid (sumL (zs.take n) = sumL zs) := Lib.hid (by rw [← hlen, List.take_length])
  have HP0 := Lib.hid (fun k => sumL_nn (l := zs.take k) (fun z h => hz0 z (List.mem_of_mem_take h)))
  have HZK := Lib.hid (fun k (hk : k < n) => hz _ (getD_in (l := zs) (k := k) (by omega)))
  have hld := fun i (hi : i < n) A c W h => q16lead_c (i : Int) (by omega) (by omega) M (by omega) (by omega) zs hz A n c (by omega) W h
  have hle : ∀ i, i < n → leadR' (i : Int) M zs = if sumL zs = 0 then (10, []) else shareR (zs.getD i 0) (sumL zs) M := fun i hi => by
    unfold leadR'
    rw [if_pos ⟨M1, M2⟩, if_pos hs1, Int.toNat_natCast, if_pos (show (0 : Int) ≤ (i : Int) ∧ (i : Int) < zs.length by omega)]
  obtain ⟨t, ht⟩ : ∃ t, sumL zs = t := ⟨_, rfl⟩
  rw [ht] at hto hs0 hs1 HPR HPA hle
  have HT := Lib.hid hto
  by_cases ht0 : t = 0
  · subst ht0
    clear hto hs hs0 hs1 hrd hw hz hz0 hlen hg hr m0 m1 w0 lc cm hld hle ht HPR HPN HPA HP0 HZK
    go_enter Try.func5, Try.ntmps5
    go_wp2_with (first
      | (go_at_call 8; (with_reducible refine (alive16_c _).mono ?_); rintro e w1 ⟨rfl, hbw1⟩; have G2 := Lib.hid (Fx.below G0.out hbw1); clear G0; clear hbw1)
      | (go_at_call 25; (with_reducible refine (HT.out _ (Fx.r0 G2.out)).mono ?_); rintro e _ ⟨rfl, rfl⟩))
    go_ret
    exact ⟨rfl, (Fx.e1 G2.out)⟩
  have t1 : (t == 0) = false := by rw [beq_eq_false_iff_ne]; exact ht0
  have hmay : mayB t M = true := mayB_iff.2 ⟨by omega, hs1, M1, M2⟩
  have hall := odd_sum hmay
  have ha := fun W => ret_e (q16all_c t M hs0 (by omega) (by omega) (by omega) W) (if_pos hmay : allR t M = (0, natL (allV t M)))
  have hl := fun W => ret_e (q16lost_c t M hs0 (by omega) (by omega) (by omega) W) (if_pos hmay : lostR t M = (0, natL (lostV t M)))
  have hq := fun i (hi : i < n) A c W h => ret_e (hld i hi A c W h) ((hle i hi).trans ((if_neg ht0).trans (shareR_ok hmay (by have := HPN.out i hi; have := HPR.out (i + 1); have := HP0.out i; omega))))
  have la := odd_len hmay (Nat.le_refl _)
  obtain ⟨V, hV⟩ : ∃ V : Nat → Nat, ∀ i, lostV t M + (sumL (zs.take i)).toNat * eachV t M = V i := ⟨_, fun _ => rfl⟩
  obtain ⟨X, hX⟩ : ∃ X : Nat → Nat, ∀ i, (zs.getD i 0).toNat * eachV t M = X i := ⟨_, fun _ => rfl⟩
  have hVX : ∀ i, i < n → V i + X i = V (i + 1) := fun i hi => by
    rw [← hV, ← hX, ← hV, Nat.add_assoc, ← Nat.add_mul]
    congr 2
    have := HPN.out i hi
    have := HP0.out i
    have := HZK.out i hi
    omega
  have hVl : ∀ i, (natL (V i)).length ≤ 127 := fun i => odd_len hmay (by
    rw [← hV]
    have h1 : (sumL (zs.take i)).toNat * eachV t M ≤ t.toNat * eachV t M := Nat.mul_le_mul_right _ (by have := HPR.out i; omega)
    omega)
  have hXl : ∀ i, i < n → (natL (X i)).length ≤ 127 := fun i hi => odd_len hmay (by
    rw [← hX]
    exact part_le hmay (by have := HPN.out i hi; have := HPR.out (i + 1); have := HP0.out i; omega))
  have hV0 : V 0 = lostV t M := by rw [← hV, List.take_zero]; show lostV t M + 0 * eachV t M = _; rw [Nat.zero_mul, Nat.add_zero]
  have hVn : V n = allV t M := by rw [← hV, HPA.out]; omega
  have hu := fun i (hi : i < n) A B c d W h1 h2 => sum_n (x := V i) (y := X i) (by have := hVl i; omega) (by have := hXl i hi; omega) A B c d W h1 h2
  have hu2 : ∀ i, i < n → ∀ A B c d W, Rd .u32 W W.heap.size A (natL (V i)).length (natL (V i)) → Rd .u32 W W.heap.size B (natL (X i)).length (natL (X i)) → Calls Try.prog 26 #[.slice A (natL (V i)).length c, .slice B (natL (X i)).length d] W (RetN W (natL (V (i + 1)))) := fun i hi A B c d W h1 h2 => by
    have h := hu i hi A B c d W h1 h2
    rwa [hVX i hi] at h
  simp only [hX] at hq
  rw [← hV0] at hl
  rw [← hVn] at ha la
  obtain ⟨S, hS⟩ : ∃ S : Nat → List Int, ∀ i, natL (V i) = S i := ⟨_, fun _ => rfl⟩
  obtain ⟨Y, hY⟩ : ∃ S : Nat → List Int, ∀ i, natL (X i) = S i := ⟨_, fun _ => rfl⟩
  simp only [hS] at ha la hl hu2 hVl
  simp only [hY] at hq hu2 hXl
  obtain ⟨ZA, hZA⟩ : ∃ Z, S n = Z := ⟨_, rfl⟩
  rw [hZA] at ha la
  unfold RetN at hu2
  have HA := Lib.hid ha
  have HL := Lib.hid hl
  have HQA := Lib.hid hq
  have HUA := Lib.hid hu2
  have HVL := Lib.hid hVl
  have HXL := Lib.hid hXl
  have HZA := Lib.hid hZA
  have HE := Lib.hid (fun A B c d W h1 h2 => same_n (Z := ZA) (by omega) A B c d W h1 h2)
  clear ha hl hq hu hu2 hVl hXl hZA hS hY hV0 hVn hVX hV hX hall hmay la hto hs hs0 hs1 hrd hw hz hz0 hlen hg hr m0 m1 w0 lc cm hld hle ht HPR HPN HPA HP0 HZK ht0
  go_enter Try.func5, Try.ntmps5
  go_wp2_with (first
    | (go_at_call 8; (with_reducible refine (alive16_c _).mono ?_); rintro e w1 ⟨rfl, hbw1⟩; have G2 := Lib.hid (Fx.below G0.out hbw1); clear G0; clear hbw1)
    | (go_at_call 25; (with_reducible refine (HT.out _ (Fx.r0 G2.out)).mono ?_); rintro e _ ⟨rfl, rfl⟩)
    | (go_at_call 9; (with_reducible refine (HA.out _).mono ?_); rintro e w3 ⟨A4, c5, rfl, hlw3, hmw3, hrw3, hbw3⟩; have lc5 := Lib.hid hlw3; have mc5 := Lib.hid hmw3; have G6 := Lib.hid (Fx.addR G2.out hbw3 hrw3); clear G2; clear hrw3 hbw3 hlw3 hmw3)
    | (go_at_call 11; (with_reducible refine (HL.out _).mono ?_); rintro e w7 ⟨A8, c9, rfl, hlw7, hmw7, hrw7, hbw7⟩; have lc9 := Lib.hid hlw7; have mc9 := Lib.hid hmw7; have G10 := Lib.hid (Fx.addR G6.out hbw7 hrw7); clear G6; clear hrw7 hbw7 hlw7 hmw7))
  have HS0 : Hid (Fx [.rd .u32 A8 (S 0).length (S 0), .rdb .u32 w3.heap.size A4 ZA.length ZA, .rdb .u64 w.heap.size a n zs, .bel w] w7) := Lib.hid ⟨(Fx.r0 G10.out), G10.out.2⟩
  obtain ⟨Aa, hAa⟩ : ∃ A, A4 = A := ⟨_, rfl⟩
  obtain ⟨Ba, hBa⟩ : ∃ B, w3.heap.size = B := ⟨_, rfl⟩
  rw [hAa, hBa] at HS0
  rw [hAa]
  clear G10 hAa hBa
  go_loopw [10, 12] (fun ss ii wr => ∃ i : Nat, ∃ As cs, i ≤ n ∧ ii = .int .i64 (i : Int) ∧ ss = .slice As (S i).length cs ∧ Fx [.rd .u32 As (S i).length (S i), .rdb .u32 Ba Aa ZA.length ZA, .rdb .u64 w.heap.size a n zs, .bel w] wr) (fun _ ii _ => n - (intOf ii).toNat)
  case atStart => exact ⟨0, _, _, by omega, rfl, rfl, HS0.out⟩
  case round =>
    clear HS0
    obtain ⟨i, As, cs, hi, rfl, rfl, hG⟩ := hrel
    have G9 := Lib.hid hG
    clear hG
    have hsl := HVL.out i
    obtain ⟨SI, hSI⟩ : ∃ s, S i = s := ⟨_, rfl⟩
    have tsl : ((S i).length : Int) ≤ 200 := by omega
    by_cases hlt : i < n
    · have hxl := HXL.out i hlt
      have txl : ((Y i).length : Int) ≤ 200 := by omega
      have HQ := Lib.hid (HQA.out i hlt)
      have HU := Lib.hid (HUA.out i hlt)
      have i1 : (i : Int) < (n : Int) := by omega
      have i0 : (0 : Int) ≤ (i : Int) := by omega
      have HI1 : Hid (i + 1 ≤ n) := Lib.hid hlt
      clear hsl hSI hxl hi hlt
      go_wp2_with (first
        | (go_at_call 20; (with_reducible refine (HQ.out _ _ _ (Fx.r2 G9.out)).mono ?_); rintro e w51 ⟨A52, c53, rfl, hlw51, hmw51, hrw51, hbw51⟩; have lc53 := Lib.hid hlw51; have mc53 := Lib.hid hmw51; have G54 := Lib.hid (Fx.addR G9.out hbw51 hrw51); clear G9; clear hrw51 hbw51 hlw51 hmw51)
        | (go_at_call 26; (with_reducible refine (HU.out _ _ _ _ _ (Fx.s1 G54.out) (Fx.r0 G54.out)).mono ?_); rintro e w55 ⟨A56, c57, rfl, hlw55, hmw55, hrw55, hbw55⟩; have lc57 := Lib.hid hlw55; have mc57 := Lib.hid hmw55; have G58 := Lib.hid (Fx.addR G54.out hbw55 hrw55); clear G54; clear hrw55 hbw55 hlw55 hmw55))
      go_roundw
      case rel => exact ⟨i + 1, _, _, HI1.out, by go_num, rfl, ⟨(Fx.r0 G58.out), G58.out.2.2.2⟩⟩
      case measure => simp [intOf]; omega
    · obtain rfl : i = n := by omega
      rw [HZA.out] at G9 tsl ⊢
      clear hsl hSI hlt hi
      go_wp2_with (first
        | (go_at_call 19; (with_reducible refine (HE.out _ _ _ _ _ (Fx.s0 G9.out) (Fx.r1 G9.out)).mono ?_); rintro e w51 ⟨rfl, hbw51⟩; have G52 := Lib.hid (Fx.below G9.out hbw51); clear G9; clear hbw51))
      go_ret
      exact ⟨rfl, (Fx.e3 G52.out)⟩


set_option maxRecDepth 100000 in
theorem lifted (os : Os) (started : os.Started) (H : Type) (enc : TypeId × Value → H) :
    ReturnsInHanded {} Try.checked os 5 .any (Rows.oddsTogetherSpec.pre6 enc Try.prog Try.f5 Rows.oddsTogetherRow.domain false) (Rows.oddsTogetherSpec.post enc Try.prog Try.f5 false true false false) := by
  refine returnsInHanded_of_change (C := Try.checked) own started (by kernel_rfl) Try.func5
    (ChangeSpec.witness6 (enc := enc) (C := Try.checked) false ⟨#[], #[.int .u8 0, .slice none 0 0], []⟩ 8 (by kernel_rfl) (by kernel_rfl) (by kernel_rfl) (by kernel_rfl)) ?_
  intro W base args ds gs before hval0 hW hcnd _
  have hval : ∀ (j : Nat) t v, Try.f5.params[j]? = some t → args[j]? = some v → Value.okWide Try.prog W .any base t v := hval0
  have hW' := hW
  obtain ⟨p, q, hA0, hV, rfl, hfz, hnd⟩ := hW
  have hA : DataW.TrodAll enc Try.prog W 0 (fun _ => true) true Try.f5.params.toList args.toList ds p := hA0
  rw [Try.params5] at hA hval
  obtain ⟨v0, vs0, d0, ds0, p0, q0, hargs, rfl, rfl, h0, r0⟩ := trodAll_cons hA
  obtain ⟨v1, vs1, d1, ds1, p1, q1, rfl, rfl, rfl, h1, r1⟩ := trodAll_cons r0
  obtain ⟨rfl, rfl, rfl⟩ := trodAll_nil r1
  obtain rfl : args = #[v0, v1] := by cases args; simp_all
  obtain ⟨rfl, rfl⟩ := trodVars_none hV
  obtain ⟨a0, rfl, rfl, rfl, w0⟩ := open_int Try.underlying5 (hval 0 5 v0 rfl rfl) h0
  obtain ⟨a1, n1, c1, rfl⟩ := okWide_slice Try.underlying34 (hval 1 34 v1 rfl rfl)
  have k1 := h1
  have lt1 : ∀ x ∈ p1, x.block < W.heap.size := by obtain ⟨m, hm⟩ := k1; exact DataW.trod_lt m _ _ _ hm
  obtain ⟨z1, rd1, lc1, cm1, w1⟩ := open_rd Try.underlying34 Try.underlying22 (by kernel_rfl) h1
  clear hA0 hval0
  refine (walk a0 a1 n1 c1 z1 W w0 rd1 lc1 cm1 w1).mono fun e W' ⟨he, bel⟩ => ?_
  subst he
  exact ⟨_, rfl, _, _, _, [], _, [], hW', trodAll_mk1 (shut_bool Try.underlying4 _), (trodAll_cons_mk (shut_int Try.underlying5 w0) (trodAll_cons_mk (Below.trod laidOut (by kernel_rfl) (of_decide_eq_true (by kernel_rfl)) k1 bel lt1) trodAll_mk0)), rfl, bel.frame _, fun h => by cases h⟩

theorem over : Rows.oddsTogetherRow.holds Try.pinned (OpenSpec.ofChange Rows.oddsTogetherSpec) :=
  OpenClaim.holds_of_wide 5 Try.f5 rfl rfl rfl rfl rfl rfl rfl ⟨rfl, rfl, rfl, rfl, rfl⟩ rfl rfl rfl rfl rfl (by kernel_rfl) Try.func5 (by kernel_rfl)
    (of_decide_eq_true (by kernel_rfl)) (by unfold Func.isWrapper; first | (rw [if_pos (by decide +kernel)]; kernel_rfl) | (rw [if_neg (by decide +kernel)]; exact ⟨rfl, rfl⟩))
    (fun os started H enc _ => lifted os started H enc)

end Go.Proofs.Ytaaahgkpicjnoaa.oddsTogether
namespace Go.Proofs.Ytaaahgkpicjnoaa
theorem oddsTogether_holds : Rows.OddsTogetherSaid := oddsTogether.over
#print axioms oddsTogether_holds
end Go.Proofs.Ytaaahgkpicjnoaa

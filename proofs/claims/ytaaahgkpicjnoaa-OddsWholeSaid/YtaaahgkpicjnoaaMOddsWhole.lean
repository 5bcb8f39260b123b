/-
  All numbers' tapes, together, are all but the lost ones; parts of them add up.
  Conditions: none.
-/
import Derived.Test.YtaaahgkpicjnoaaGc
import Derived.ShutString
import Derived.ChangeOld
namespace Go.Proofs.Ytaaahgkpicjnoaa.oddsWhole
open Go.ChangeShapes Go.WideShapes Go.ChangeAt Go.RowKit
set_option linter.unusedVariables false
set_option linter.unusedSimpArgs false
set_option maxRecDepth 100000

theorem own : ownKnob Try.prog.godebug = none := by kernel_rfl
theorem laidOut : laidOutB Try.prog = true := by kernel_rfl

set_option maxHeartbeats 16000000 in
theorem walk (n p m : Int) (w : World) (w0 : (Lit.int .u64 n).wf = true) (w1 : (Lit.int .u64 p).wf = true) (w2 : (Lit.int .u8 m).wf = true) :
    Calls Try.prog 7 #[.int .u64 n, .int .u64 p, .int .u8 m] w fun e w' => e = .returned (.bool true) ∧ Below w.heap.size w w' := by
  obtain ⟨n0, n1⟩ := bounds_u64 w0
  obtain ⟨p0, p1⟩ := bounds_u64 w1
  have m0 : 0 ≤ m := (bounds_u8 w2).1
  have m1 : m < 256 := by have := (bounds_u8 w2).2; omega
  have htm : m.tmod 64 = m % 64 := Int.tmod_eq_emod_of_nonneg m0
  obtain ⟨r, hr⟩ : ∃ r, m % 64 = r := ⟨_, rfl⟩
  have r0 : 0 ≤ r := by rw [← hr]; exact Int.emod_nonneg _ (by omega)
  have r1 : r < 64 := by rw [← hr]; exact Int.emod_lt_of_pos _ (by omega)
  rw [hr] at htm
  obtain ⟨M, hM⟩ : ∃ M, 1 + r = M := ⟨_, rfl⟩
  have M1 : 1 ≤ M := by omega
  have M2 : M ≤ 64 := by omega
  have G0 : Hid (Fx [.bel w] w) := Lib.hid ⟨Below.refl _ _, trivial⟩
  by_cases hn : 1 ≤ n ∧ n < 9223372036854775808
  · obtain ⟨hn1, hn2⟩ := hn
    have hmay : mayB n M = true := mayB_iff.2 ⟨hn1, hn2, M1, M2⟩
    have htp : p.tmod (n + 1) = p % (n + 1) := Int.tmod_eq_emod_of_nonneg p0
    obtain ⟨q, hq⟩ : ∃ q, p % (n + 1) = q := ⟨_, rfl⟩
    have q0 : 0 ≤ q := by rw [← hq]; exact Int.emod_nonneg _ (by omega)
    have q1 : q ≤ n := by have := Int.emod_lt_of_pos p (show 0 < n + 1 by omega); omega
    rw [hq] at htp
    obtain ⟨y, hy⟩ : ∃ y, n - q = y := ⟨_, rfl⟩
    have y0 : 0 ≤ y := by omega
    have y1 : y ≤ n := by omega
    have hadd : q.toNat * eachV n M + y.toNat * eachV n M = n.toNat * eachV n M := by rw [← Nat.add_mul]; congr 1; omega
    have hall := odd_sum hmay
    have ha := fun W => ret_e (q16all_c n M n0 (by omega) (by omega) (by omega) W) (if_pos hmay : allR n M = (0, natL (allV n M)))
    have hl := fun W => ret_e (q16lost_c n M n0 (by omega) (by omega) (by omega) W) (if_pos hmay : lostR n M = (0, natL (lostV n M)))
    have hx := fun W => ret_e (q16share_c q q0 (by omega) n M n0 (by omega) (by omega) (by omega) W) (shareR_ok hmay q1)
    have hy2 := fun W => ret_e (q16share_c y y0 (by omega) n M n0 (by omega) (by omega) (by omega) W) (shareR_ok hmay y1)
    have la := odd_len hmay (Nat.le_refl _)
    have ll := odd_len hmay (lostV_le hmay)
    have lx := odd_len hmay (part_le hmay (p := q.toNat) (by omega))
    have ly := odd_len hmay (part_le hmay (p := y.toNat) (by omega))
    have ls := odd_len hmay (part_le hmay (p := n.toNat) (Nat.le_refl _))
    have hs := fun A B c d W h1 h2 => sum_n (x := q.toNat * eachV n M) (y := y.toNat * eachV n M) (by omega) (by omega) A B c d W h1 h2
    have hu := fun A B c d W h1 h2 => sum_n (x := n.toNat * eachV n M) (y := lostV n M) (by omega) (by omega) A B c d W h1 h2
    rw [hadd] at hs
    rw [hall] at hu
    obtain ⟨ZA, hZA⟩ : ∃ Z, natL (allV n M) = Z := ⟨_, rfl⟩
    obtain ⟨ZL, hZL⟩ : ∃ Z, natL (lostV n M) = Z := ⟨_, rfl⟩
    obtain ⟨ZX, hZX⟩ : ∃ Z, natL (q.toNat * eachV n M) = Z := ⟨_, rfl⟩
    obtain ⟨ZY, hZY⟩ : ∃ Z, natL (y.toNat * eachV n M) = Z := ⟨_, rfl⟩
    obtain ⟨ZS, hZS⟩ : ∃ Z, natL (n.toNat * eachV n M) = Z := ⟨_, rfl⟩
    rw [hZA] at ha la hu
    rw [hZL] at hl ll hu
    rw [hZX] at hx lx hs
    rw [hZY] at hy2 ly hs
    rw [hZS] at hs hu
    unfold RetN at hs hu
    have HA := Lib.hid ha
    have HL := Lib.hid hl
    have HX := Lib.hid hx
    have HY := Lib.hid hy2
    have HS := Lib.hid hs
    have HU := Lib.hid hu
    have HE := Lib.hid (fun A B c d W h1 h2 => same_n (Z := ZA) (by omega) A B c d W h1 h2)
    have tl : (ZL.length : Int) ≤ 200 := by omega
    have tx : (ZX.length : Int) ≤ 200 := by omega
    have ty : (ZY.length : Int) ≤ 200 := by omega
    have tn : (n == 0) = false := by rw [beq_eq_false_iff_ne]; omega
    clear ha hl hx hy2 hs hu la ll lx ly ls hZA hZL hZX hZY hZS hadd hall hmay hq hr m0 m1 w0 w1 w2 p0
    go_enter Try.func7, Try.ntmps7
    go_wp2_with (first
      | (go_at_call 8; (with_reducible refine (alive16_c _).mono ?_); rintro e w1 ⟨rfl, hbw1⟩; have G2 := Lib.hid (Fx.below G0.out hbw1); clear G0; clear hbw1)
      | (go_at_call 9; (with_reducible refine (HA.out _).mono ?_); rintro e w3 ⟨A4, c5, rfl, hlw3, hmw3, hrw3, hbw3⟩; have lc5 := Lib.hid hlw3; have mc5 := Lib.hid hmw3; have G6 := Lib.hid (Fx.addR G2.out hbw3 hrw3); clear G2; clear hrw3 hbw3 hlw3 hmw3)
      | (go_at_call 11; (with_reducible refine (HL.out _).mono ?_); rintro e w7 ⟨A8, c9, rfl, hlw7, hmw7, hrw7, hbw7⟩; have lc9 := Lib.hid hlw7; have mc9 := Lib.hid hmw7; have G10 := Lib.hid (Fx.addR G6.out hbw7 hrw7); clear G6; clear hrw7 hbw7 hlw7 hmw7)
      | (go_at_call 15; (with_reducible refine (HX.out _).mono ?_); rintro e w11 ⟨A12, c13, rfl, hlw11, hmw11, hrw11, hbw11⟩; have lc13 := Lib.hid hlw11; have mc13 := Lib.hid hmw11; have G14 := Lib.hid (Fx.addR G10.out hbw11 hrw11); clear G10; clear hrw11 hbw11 hlw11 hmw11)
      | (go_at_call 15; (with_reducible refine (HY.out _).mono ?_); rintro e w15 ⟨A16, c17, rfl, hlw15, hmw15, hrw15, hbw15⟩; have lc17 := Lib.hid hlw15; have mc17 := Lib.hid hmw15; have G18 := Lib.hid (Fx.addR G14.out hbw15 hrw15); clear G14; clear hrw15 hbw15 hlw15 hmw15)
      | (go_at_call 26; (with_reducible refine (HS.out _ _ _ _ _ (Fx.r1 G18.out) (Fx.r0 G18.out)).mono ?_); rintro e w19 ⟨A20, c21, rfl, hlw19, hmw19, hrw19, hbw19⟩; have lc21 := Lib.hid hlw19; have mc21 := Lib.hid hmw19; have G22 := Lib.hid (Fx.addR G18.out hbw19 hrw19); clear G18; clear hrw19 hbw19 hlw19 hmw19)
      | (go_at_call 26; (with_reducible refine (HU.out _ _ _ _ _ (Fx.r0 G22.out) (Fx.r3 G22.out)).mono ?_); rintro e w23 ⟨A24, c25, rfl, hlw23, hmw23, hrw23, hbw23⟩; have lc25 := Lib.hid hlw23; have mc25 := Lib.hid hmw23; have G26 := Lib.hid (Fx.addR G22.out hbw23 hrw23); clear G22; clear hrw23 hbw23 hlw23 hmw23)
      | (go_at_call 19; (with_reducible refine (HE.out _ _ _ _ _ (Fx.r0 G26.out) (Fx.r5 G26.out)).mono ?_); rintro e w27 ⟨rfl, hbw27⟩; have G28 := Lib.hid (Fx.below G26.out hbw27); clear G26; clear hbw27))
    go_ret
    exact ⟨rfl, (Fx.e6 G28.out)⟩
  · have ha := fun W => ret_e (q16all_c n M n0 (by omega) (by omega) (by omega) W) (if_neg (by rw [mayB_no (by omega)]; decide) : allR n M = (1, []))
    obtain ⟨Z, hZ⟩ : ∃ Z : List Int, [] = Z := ⟨_, rfl⟩
    rw [hZ] at ha
    have HA := Lib.hid ha
    have hn2 : n = 0 ∨ (n ≠ 0 ∧ 9223372036854775808 ≤ n) := by omega
    clear ha hZ hn hr m0 m1 w0 w1 w2 p0 p1
    rcases hn2 with rfl | ⟨hn3, hn4⟩
    · clear n0 n1
      go_enter Try.func7, Try.ntmps7
      go_wp2_with (first
        | (go_at_call 8; (with_reducible refine (alive16_c _).mono ?_); rintro e w1 ⟨rfl, hbw1⟩; have G2 := Lib.hid (Fx.below G0.out hbw1); clear G0; clear hbw1)
        | (go_at_call 9; (with_reducible refine (HA.out _).mono ?_); rintro e w3 ⟨A4, c5, rfl, hlw3, hmw3, hrw3, hbw3⟩; have lc5 := Lib.hid hlw3; have mc5 := Lib.hid hmw3; have G6 := Lib.hid (Fx.addR G2.out hbw3 hrw3); clear G2; clear hrw3 hbw3 hlw3 hmw3))
      go_ret
      exact ⟨rfl, (Fx.e1 G6.out)⟩
    · have tn : (n == 0) = false := by rw [beq_eq_false_iff_ne]; exact hn3
      clear hn3 n0
      go_enter Try.func7, Try.ntmps7
      go_wp2_with (first
        | (go_at_call 8; (with_reducible refine (alive16_c _).mono ?_); rintro e w1 ⟨rfl, hbw1⟩; have G2 := Lib.hid (Fx.below G0.out hbw1); clear G0; clear hbw1)
        | (go_at_call 9; (with_reducible refine (HA.out _).mono ?_); rintro e w3 ⟨A4, c5, rfl, hlw3, hmw3, hrw3, hbw3⟩; have lc5 := Lib.hid hlw3; have mc5 := Lib.hid hmw3; have G6 := Lib.hid (Fx.addR G2.out hbw3 hrw3); clear G2; clear hrw3 hbw3 hlw3 hmw3))
      go_ret
      exact ⟨rfl, (Fx.e1 G6.out)⟩


set_option maxRecDepth 100000 in
theorem lifted (os : Os) (started : os.Started) (H : Type) (enc : TypeId × Value → H) :
    ReturnsInHanded {} Try.checked os 7 .any (Rows.oddsWholeSpec.pre6 enc Try.prog Try.f7 Rows.oddsWholeRow.domain false) (Rows.oddsWholeSpec.post enc Try.prog Try.f7 false true false false) := by
  refine returnsInHanded_of_change (C := Try.checked) own started (by kernel_rfl) Try.func7
    (ChangeSpec.witness6 (enc := enc) (C := Try.checked) false ⟨#[], #[.int .u64 0, .int .u64 0, .int .u8 0], []⟩ 8 (by kernel_rfl) (by kernel_rfl) (by kernel_rfl) (by kernel_rfl)) ?_
  intro W base args ds gs before hval0 hW hcnd _
  have hval : ∀ (j : Nat) t v, Try.f7.params[j]? = some t → args[j]? = some v → Value.okWide Try.prog W .any base t v := hval0
  have hW' := hW
  obtain ⟨p, q, hA0, hV, rfl, hfz, hnd⟩ := hW
  have hA : DataW.TrodAll enc Try.prog W 0 (fun _ => true) true Try.f7.params.toList args.toList ds p := hA0
  rw [Try.params7] at hA hval
  obtain ⟨v0, vs0, d0, ds0, p0, q0, hargs, rfl, rfl, h0, r0⟩ := trodAll_cons hA
  obtain ⟨v1, vs1, d1, ds1, p1, q1, rfl, rfl, rfl, h1, r1⟩ := trodAll_cons r0
  obtain ⟨v2, vs2, d2, ds2, p2, q2, rfl, rfl, rfl, h2, r2⟩ := trodAll_cons r1
  obtain ⟨rfl, rfl, rfl⟩ := trodAll_nil r2
  obtain rfl : args = #[v0, v1, v2] := by cases args; simp_all
  obtain ⟨rfl, rfl⟩ := trodVars_none hV
  obtain ⟨a0, rfl, rfl, rfl, w0⟩ := open_int Try.underlying22 (hval 0 22 v0 rfl rfl) h0
  obtain ⟨a1, rfl, rfl, rfl, w1⟩ := open_int Try.underlying22 (hval 1 22 v1 rfl rfl) h1
  obtain ⟨a2, rfl, rfl, rfl, w2⟩ := open_int Try.underlying5 (hval 2 5 v2 rfl rfl) h2
  clear hA0 hval0
  refine (walk a0 a1 a2 W w0 w1 w2).mono fun e W' ⟨he, bel⟩ => ?_
  subst he
  exact ⟨_, rfl, _, _, _, [], _, [], hW', trodAll_mk1 (shut_bool Try.underlying4 _), (trodAll_cons_mk (shut_int Try.underlying22 w0) (trodAll_cons_mk (shut_int Try.underlying22 w1) (trodAll_cons_mk (shut_int Try.underlying5 w2) trodAll_mk0))), rfl, bel.frame _, fun h => by cases h⟩

theorem over : Rows.oddsWholeRow.holds Try.pinned (OpenSpec.ofChange Rows.oddsWholeSpec) :=
  OpenClaim.holds_of_wide 7 Try.f7 rfl rfl rfl rfl rfl rfl rfl ⟨rfl, rfl, rfl, rfl, rfl⟩ rfl rfl rfl rfl rfl (by kernel_rfl) Try.func7 (by kernel_rfl)
    (of_decide_eq_true (by kernel_rfl)) (by unfold Func.isWrapper; first | (rw [if_pos (by decide +kernel)]; kernel_rfl) | (rw [if_neg (by decide +kernel)]; exact ⟨rfl, rfl⟩))
    (fun os started H enc _ => lifted os started H enc)

end Go.Proofs.Ytaaahgkpicjnoaa.oddsWhole
namespace Go.Proofs.Ytaaahgkpicjnoaa
theorem oddsWhole_holds : Rows.OddsWholeSaid := oddsWhole.over
#print axioms oddsWhole_holds
end Go.Proofs.Ytaaahgkpicjnoaa

/-
  All, lost and each number's tapes, of any bound, and any attempts, are the document's, or refused.
  Conditions: none.
-/
import Derived.Test.YtaaahgkpicjnoaaGc
import Derived.ShutString
import Derived.ChangeOld
namespace Go.Proofs.Ytaaahgkpicjnoaa.oddsBounds
open Go.ChangeShapes Go.WideShapes Go.ChangeAt Go.RowKit
set_option linter.unusedVariables false
set_option linter.unusedSimpArgs false
set_option maxRecDepth 100000

theorem own : ownKnob Try.prog.godebug = none := by kernel_rfl
theorem laidOut : laidOutB Try.prog = true := by kernel_rfl

set_option maxHeartbeats 16000000 in
theorem walk (p n m : Int) (w : World) (w0 : (Lit.int .u64 p).wf = true) (w1 : (Lit.int .u64 n).wf = true) (w2 : (Lit.int .i64 m).wf = true) :
    Calls Try.prog 3 #[.int .u64 p, .int .u64 n, .int .i64 m] w fun e w' => e = .returned (.bool true) ∧ Below w.heap.size w w' := by
  obtain ⟨p0, p1⟩ := bounds_u64 w0
  obtain ⟨n0, n1⟩ := bounds_u64 w1
  have m0 : -9223372036854775808 ≤ m := by have := (bounds_i64 w2).1; omega
  have m1 : m < 9223372036854775808 := by have := (bounds_i64 w2).2; omega
  have G0 : Hid (Fx [.bel w] w) := Lib.hid ⟨Below.refl _ _, trivial⟩
  obtain ⟨e1, Z1, h1⟩ : ∃ e Z, allR n m = (e, Z) := ⟨_, _, rfl⟩
  have l1 : Z1.length ≤ 1000 := by have := allR_len n m; rw [h1] at this; exact Nat.le_trans this (by omega)
  have HQ1 := Lib.hid (fun W => ret_e (q16all_c n m n0 (by omega) m0 m1 W) h1)
  have HR1 := Lib.hid (fun W => ret_e (r16all_c n m n0 (by omega) m0 m1 W) h1)
  have HS1 := Lib.hid (fun A B c d W a b => same_n l1 A B c d W a b)
  obtain ⟨e2, Z2, h2⟩ : ∃ e Z, lostR n m = (e, Z) := ⟨_, _, rfl⟩
  have l2 : Z2.length ≤ 1000 := by have := lostR_len n m; rw [h2] at this; exact Nat.le_trans this (by omega)
  have HQ2 := Lib.hid (fun W => ret_e (q16lost_c n m n0 (by omega) m0 m1 W) h2)
  have HR2 := Lib.hid (fun W => ret_e (r16lost_c n m n0 (by omega) m0 m1 W) h2)
  have HS2 := Lib.hid (fun A B c d W a b => same_n l2 A B c d W a b)
  obtain ⟨e3, Z3, h3⟩ : ∃ e Z, eachR n m = (e, Z) := ⟨_, _, rfl⟩
  have l3 : Z3.length ≤ 1000 := by have := eachR_len n m; rw [h3] at this; exact Nat.le_trans this (by omega)
  have HQ3 := Lib.hid (fun W => ret_e (q16each_c n m n0 (by omega) m0 m1 W) h3)
  have HR3 := Lib.hid (fun W => ret_e (r16each_c n m n0 (by omega) m0 m1 W) h3)
  have HS3 := Lib.hid (fun A B c d W a b => same_n l3 A B c d W a b)
  obtain ⟨e4, Z4, h4⟩ : ∃ e Z, shareR p n m = (e, Z) := ⟨_, _, rfl⟩
  have l4 : Z4.length ≤ 1000 := by have := shareR_len p n m; rw [h4] at this; exact Nat.le_trans this (by omega)
  have HQ4 := Lib.hid (fun W => ret_e (q16share_c p p0 (by omega) n m n0 (by omega) m0 m1 W) h4)
  have HR4 := Lib.hid (fun W => ret_e (r16share_c p p0 (by omega) n m n0 (by omega) m0 m1 W) h4)
  have HS4 := Lib.hid (fun A B c d W a b => same_n l4 A B c d W a b)
  have hb := fun W => q16bits_c n m n0 (by omega) m0 m1 W
  have hc := fun W => r16bits_c n m n0 (by omega) m0 m1 W
  obtain ⟨x, hx⟩ : ∃ x, (bitR n m).1 = x := ⟨_, rfl⟩
  obtain ⟨y, hy⟩ : ∃ x, (bitR n m).2 = x := ⟨_, rfl⟩
  rw [hx, hy] at hb hc
  have HB := Lib.hid hb
  have HC := Lib.hid hc
  clear hb hc hx hy h1 h2 h3 h4 l1 l2 l3 l4 w0 w1 w2 p0 p1 n0 n1 m0 m1
  go_enter Try.func3, Try.ntmps3
  go_wp2_with (first
    | (go_at_call 8; (with_reducible refine (alive16_c _).mono ?_); rintro e w1 ⟨rfl, hbw1⟩; have G2 := Lib.hid (Fx.below G0.out hbw1); clear G0; clear hbw1)
    | (go_at_call 9; (with_reducible refine (HQ1.out _).mono ?_); rintro e w3 ⟨A4, c5, rfl, hlw3, hmw3, hrw3, hbw3⟩; have lc5 := Lib.hid hlw3; have mc5 := Lib.hid hmw3; have G6 := Lib.hid (Fx.addR G2.out hbw3 hrw3); clear G2; clear hrw3 hbw3 hlw3 hmw3)
    | (go_at_call 10; (with_reducible refine (HR1.out _).mono ?_); rintro e w7 ⟨A8, c9, rfl, hlw7, hmw7, hrw7, hbw7⟩; have lc9 := Lib.hid hlw7; have mc9 := Lib.hid hmw7; have G10 := Lib.hid (Fx.addR G6.out hbw7 hrw7); clear G6; clear hrw7 hbw7 hlw7 hmw7)
    | (go_at_call 11; (with_reducible refine (HQ2.out _).mono ?_); rintro e w11 ⟨A12, c13, rfl, hlw11, hmw11, hrw11, hbw11⟩; have lc13 := Lib.hid hlw11; have mc13 := Lib.hid hmw11; have G14 := Lib.hid (Fx.addR G10.out hbw11 hrw11); clear G10; clear hrw11 hbw11 hlw11 hmw11)
    | (go_at_call 12; (with_reducible refine (HR2.out _).mono ?_); rintro e w15 ⟨A16, c17, rfl, hlw15, hmw15, hrw15, hbw15⟩; have lc17 := Lib.hid hlw15; have mc17 := Lib.hid hmw15; have G18 := Lib.hid (Fx.addR G14.out hbw15 hrw15); clear G14; clear hrw15 hbw15 hlw15 hmw15)
    | (go_at_call 13; (with_reducible refine (HQ3.out _).mono ?_); rintro e w19 ⟨A20, c21, rfl, hlw19, hmw19, hrw19, hbw19⟩; have lc21 := Lib.hid hlw19; have mc21 := Lib.hid hmw19; have G22 := Lib.hid (Fx.addR G18.out hbw19 hrw19); clear G18; clear hrw19 hbw19 hlw19 hmw19)
    | (go_at_call 14; (with_reducible refine (HR3.out _).mono ?_); rintro e w23 ⟨A24, c25, rfl, hlw23, hmw23, hrw23, hbw23⟩; have lc25 := Lib.hid hlw23; have mc25 := Lib.hid hmw23; have G26 := Lib.hid (Fx.addR G22.out hbw23 hrw23); clear G22; clear hrw23 hbw23 hlw23 hmw23)
    | (go_at_call 15; (with_reducible refine (HQ4.out _).mono ?_); rintro e w27 ⟨A28, c29, rfl, hlw27, hmw27, hrw27, hbw27⟩; have lc29 := Lib.hid hlw27; have mc29 := Lib.hid hmw27; have G30 := Lib.hid (Fx.addR G26.out hbw27 hrw27); clear G26; clear hrw27 hbw27 hlw27 hmw27)
    | (go_at_call 16; (with_reducible refine (HR4.out _).mono ?_); rintro e w31 ⟨A32, c33, rfl, hlw31, hmw31, hrw31, hbw31⟩; have lc33 := Lib.hid hlw31; have mc33 := Lib.hid hmw31; have G34 := Lib.hid (Fx.addR G30.out hbw31 hrw31); clear G30; clear hrw31 hbw31 hlw31 hmw31)
    | (go_at_call 17; (with_reducible refine (HB.out _).mono ?_); rintro e w35 ⟨rfl, hbw35⟩; have G36 := Lib.hid (Fx.below G34.out hbw35); clear G34; clear hbw35)
    | (go_at_call 18; (with_reducible refine (HC.out _).mono ?_); rintro e _ ⟨rfl, rfl⟩)
    | (go_at_call 19; (with_reducible refine (HS1.out _ _ _ _ _ (Fx.r7 G36.out) (Fx.r6 G36.out)).mono ?_); rintro e w37 ⟨rfl, hbw37⟩; have G38 := Lib.hid (Fx.below G36.out hbw37); clear G36; clear hbw37)
    | (go_at_call 19; (with_reducible refine (HS2.out _ _ _ _ _ (Fx.r5 G38.out) (Fx.r4 G38.out)).mono ?_); rintro e w39 ⟨rfl, hbw39⟩; have G40 := Lib.hid (Fx.below G38.out hbw39); clear G38; clear hbw39)
    | (go_at_call 19; (with_reducible refine (HS3.out _ _ _ _ _ (Fx.r3 G40.out) (Fx.r2 G40.out)).mono ?_); rintro e w41 ⟨rfl, hbw41⟩; have G42 := Lib.hid (Fx.below G40.out hbw41); clear G40; clear hbw41)
    | (go_at_call 19; (with_reducible refine (HS4.out _ _ _ _ _ (Fx.r1 G42.out) (Fx.r0 G42.out)).mono ?_); rintro e w43 ⟨rfl, hbw43⟩; have G44 := Lib.hid (Fx.below G42.out hbw43); clear G42; clear hbw43))
  go_ret
  exact ⟨rfl, (Fx.e8 G44.out)⟩


set_option maxRecDepth 100000 in
theorem lifted (os : Os) (started : os.Started) (H : Type) (enc : TypeId × Value → H) :
    ReturnsInHanded {} Try.checked os 3 .any (Rows.oddsBoundsSpec.pre6 enc Try.prog Try.f3 Rows.oddsBoundsRow.domain false) (Rows.oddsBoundsSpec.post enc Try.prog Try.f3 false true false false) := by
  refine returnsInHanded_of_change (C := Try.checked) own started (by kernel_rfl) Try.func3
    (ChangeSpec.witness6 (enc := enc) (C := Try.checked) false ⟨#[], #[.int .u64 0, .int .u64 0, .int .i64 0], []⟩ 8 (by kernel_rfl) (by kernel_rfl) (by kernel_rfl) (by kernel_rfl)) ?_
  intro W base args ds gs before hval0 hW hcnd _
  have hval : ∀ (j : Nat) t v, Try.f3.params[j]? = some t → args[j]? = some v → Value.okWide Try.prog W .any base t v := hval0
  have hW' := hW
  obtain ⟨p, q, hA0, hV, rfl, hfz, hnd⟩ := hW
  have hA : DataW.TrodAll enc Try.prog W 0 (fun _ => true) true Try.f3.params.toList args.toList ds p := hA0
  rw [Try.params3] at hA hval
  obtain ⟨v0, vs0, d0, ds0, p0, q0, hargs, rfl, rfl, h0, r0⟩ := trodAll_cons hA
  obtain ⟨v1, vs1, d1, ds1, p1, q1, rfl, rfl, rfl, h1, r1⟩ := trodAll_cons r0
  obtain ⟨v2, vs2, d2, ds2, p2, q2, rfl, rfl, rfl, h2, r2⟩ := trodAll_cons r1
  obtain ⟨rfl, rfl, rfl⟩ := trodAll_nil r2
  obtain rfl : args = #[v0, v1, v2] := by cases args; simp_all
  obtain ⟨rfl, rfl⟩ := trodVars_none hV
  obtain ⟨a0, rfl, rfl, rfl, w0⟩ := open_int Try.underlying22 (hval 0 22 v0 rfl rfl) h0
  obtain ⟨a1, rfl, rfl, rfl, w1⟩ := open_int Try.underlying22 (hval 1 22 v1 rfl rfl) h1
  obtain ⟨a2, rfl, rfl, rfl, w2⟩ := open_int Try.underlying3 (hval 2 3 v2 rfl rfl) h2
  clear hA0 hval0
  refine (walk a0 a1 a2 W w0 w1 w2).mono fun e W' ⟨he, bel⟩ => ?_
  subst he
  exact ⟨_, rfl, _, _, _, [], _, [], hW', trodAll_mk1 (shut_bool Try.underlying4 _), (trodAll_cons_mk (shut_int Try.underlying22 w0) (trodAll_cons_mk (shut_int Try.underlying22 w1) (trodAll_cons_mk (shut_int Try.underlying3 w2) trodAll_mk0))), rfl, bel.frame _, fun h => by cases h⟩

theorem over : Rows.oddsBoundsRow.holds Try.pinned (OpenSpec.ofChange Rows.oddsBoundsSpec) :=
  OpenClaim.holds_of_wide 3 Try.f3 rfl rfl rfl rfl rfl rfl rfl ⟨rfl, rfl, rfl, rfl, rfl⟩ rfl rfl rfl rfl rfl (by kernel_rfl) Try.func3 (by kernel_rfl)
    (of_decide_eq_true (by kernel_rfl)) (by unfold Func.isWrapper; first | (rw [if_pos (by decide +kernel)]; kernel_rfl) | (rw [if_neg (by decide +kernel)]; exact ⟨rfl, rfl⟩))
    (fun os started H enc _ => lifted os started H enc)

end Go.Proofs.Ytaaahgkpicjnoaa.oddsBounds
namespace Go.Proofs.Ytaaahgkpicjnoaa
theorem oddsBounds_holds : Rows.OddsBoundsSaid := oddsBounds.over
#print axioms oddsBounds_holds
end Go.Proofs.Ytaaahgkpicjnoaa

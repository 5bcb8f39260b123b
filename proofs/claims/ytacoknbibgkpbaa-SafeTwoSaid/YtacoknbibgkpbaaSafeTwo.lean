/-
  Any two numbers' sum, difference and product are the document's, or refused.
  Conditions: none.
-/
import Derived.Test.YtacoknbibgkpbaaLawL
import Derived.ShutString
import Derived.ChangeOld
namespace Go.Proofs.Ytacoknbibgkpbaa.safeTwo
open Go.ChangeShapes Go.WideShapes Go.ChangeAt Go.RowKit
set_option linter.unusedVariables false
set_option linter.unusedSimpArgs false
set_option maxRecDepth 100000

theorem own : ownKnob Try.prog.godebug = none := by kernel_rfl
theorem laidOut : laidOutB Try.prog = true := by kernel_rfl

set_option maxHeartbeats 8000000 in
theorem walk (a b : Int) (w : World) (w0 : (Lit.int .u64 a).wf = true) (w1 : (Lit.int .u64 b).wf = true) :
    Calls Try.prog 3 #[.int .u64 a, .int .u64 b] w fun e w' => e = .returned (.bool true) ∧ Below w.heap.size w w' := by
  obtain ⟨a0, a1⟩ := bounds_u64 w0
  obtain ⟨b0, b1⟩ := bounds_u64 w1
  clear w0 w1
  have hfit := fun W => q9fits_c a a0 (by omega) W
  have hq0 := fun W => q9add_c a b a0 (by omega) b0 (by omega) W
  have hr0 := fun W => r9add_c a b a0 (by omega) b0 (by omega) W
  obtain ⟨x, hx⟩ : ∃ x, addV a b = x := ⟨_, rfl⟩
  obtain ⟨p, hp⟩ : ∃ x, addO a b = x := ⟨_, rfl⟩
  rw [hx, hp] at hq0 hr0
  have HQ0 := Lib.hid hq0
  have HR0 := Lib.hid hr0
  clear hq0 hr0 hx hp
  have hq1 := fun W => q9sub_c a b a0 (by omega) b0 (by omega) W
  have hr1 := fun W => r9sub_c a b a0 (by omega) b0 (by omega) W
  obtain ⟨y, hy⟩ : ∃ x, subV a b = x := ⟨_, rfl⟩
  obtain ⟨q, hq⟩ : ∃ x, subO a b = x := ⟨_, rfl⟩
  rw [hy, hq] at hq1 hr1
  have HQ1 := Lib.hid hq1
  have HR1 := Lib.hid hr1
  clear hq1 hr1 hy hq
  have hq2 := fun W => q9mul_c a b a0 (by omega) b0 (by omega) W
  have hr2 := fun W => r9mul_c a b a0 (by omega) b0 (by omega) W
  obtain ⟨z, hz⟩ : ∃ x, mulV a b = x := ⟨_, rfl⟩
  obtain ⟨r, hr⟩ : ∃ x, mulO a b = x := ⟨_, rfl⟩
  rw [hz, hr] at hq2 hr2
  have HQ2 := Lib.hid hq2
  have HR2 := Lib.hid hr2
  clear hq2 hr2 hz hr
  have HF := Lib.hid hfit
  clear hfit
  go_enter Try.func3, Try.ntmps3
  go_wp2_with (first
    | (go_at_call 7; (with_reducible refine (alive9_c w).mono ?_); rintro e wa ⟨rfl, hba⟩; have HB := Lib.hid hba; clear hba)
    | (go_at_call 8; (with_reducible refine (HQ0.out _).mono ?_); rintro e _ ⟨rfl, rfl⟩)
    | (go_at_call 10; (with_reducible refine (HQ1.out _).mono ?_); rintro e _ ⟨rfl, rfl⟩)
    | (go_at_call 12; (with_reducible refine (HQ2.out _).mono ?_); rintro e _ ⟨rfl, rfl⟩)
    | (go_at_call 9; (with_reducible refine (HR0.out _).mono ?_); rintro e _ ⟨rfl, rfl⟩)
    | (go_at_call 11; (with_reducible refine (HR1.out _).mono ?_); rintro e _ ⟨rfl, rfl⟩)
    | (go_at_call 13; (with_reducible refine (HR2.out _).mono ?_); rintro e _ ⟨rfl, rfl⟩)
    | (go_at_call 14; (with_reducible refine (HF.out _).mono ?_); rintro e _ ⟨rfl, rfl⟩))
  go_ret
  exact ⟨rfl, HB.out⟩


set_option maxRecDepth 100000 in
theorem lifted (os : Os) (started : os.Started) (H : Type) (enc : TypeId × Value → H) :
    ReturnsInHanded {} Try.checked os 3 .any (Rows.safeTwoSpec.pre6 enc Try.prog Try.f3 Rows.safeTwoRow.domain false) (Rows.safeTwoSpec.post enc Try.prog Try.f3 false true false false) := by
  refine returnsInHanded_of_change (C := Try.checked) own started (by kernel_rfl) Try.func3
    (ChangeSpec.witness6 (enc := enc) (C := Try.checked) false ⟨#[], #[.int .u64 0, .int .u64 0], []⟩ 8 (by kernel_rfl) (by kernel_rfl) (by kernel_rfl) (by kernel_rfl)) ?_
  intro W base args ds gs before hval0 hW hcnd _
  have hval : ∀ (j : Nat) t v, Try.f3.params[j]? = some t → args[j]? = some v → Value.okWide Try.prog W .any base t v := hval0
  have hW' := hW
  obtain ⟨p, q, hA0, hV, rfl, hfz, hnd⟩ := hW
  have hA : DataW.TrodAll enc Try.prog W 0 (fun _ => true) true Try.f3.params.toList args.toList ds p := hA0
  rw [Try.params3] at hA hval
  obtain ⟨v0, vs0, d0, ds0, p0, q0, hargs, rfl, rfl, h0, r0⟩ := trodAll_cons hA
  obtain ⟨v1, vs1, d1, ds1, p1, q1, rfl, rfl, rfl, h1, r1⟩ := trodAll_cons r0
  obtain ⟨rfl, rfl, rfl⟩ := trodAll_nil r1
  obtain rfl : args = #[v0, v1] := by cases args; simp_all
  obtain ⟨rfl, rfl⟩ := trodVars_none hV
  obtain ⟨a0, rfl, rfl, rfl, w0⟩ := open_int Try.underlying22 (hval 0 22 v0 rfl rfl) h0
  obtain ⟨a1, rfl, rfl, rfl, w1⟩ := open_int Try.underlying22 (hval 1 22 v1 rfl rfl) h1
  clear hA0 hval0
  refine (walk a0 a1 W w0 w1).mono fun e W' ⟨he, bel⟩ => ?_
  subst he
  exact ⟨_, rfl, _, _, _, [], _, [], hW', trodAll_mk1 (shut_bool Try.underlying4 _), (trodAll_cons_mk (shut_int Try.underlying22 w0) (trodAll_cons_mk (shut_int Try.underlying22 w1) trodAll_mk0)), rfl, bel.frame _, fun h => by cases h⟩

theorem over : Rows.safeTwoRow.holds Try.pinned (OpenSpec.ofChange Rows.safeTwoSpec) :=
  OpenClaim.holds_of_wide 3 Try.f3 rfl rfl rfl rfl rfl rfl rfl ⟨rfl, rfl, rfl, rfl, rfl⟩ rfl rfl rfl rfl rfl (by kernel_rfl) Try.func3 (by kernel_rfl)
    (of_decide_eq_true (by kernel_rfl)) (by unfold Func.isWrapper; first | (rw [if_pos (by decide +kernel)]; kernel_rfl) | (rw [if_neg (by decide +kernel)]; exact ⟨rfl, rfl⟩))
    (fun os started H enc _ => lifted os started H enc)

end Go.Proofs.Ytacoknbibgkpbaa.safeTwo
namespace Go.Proofs.Ytacoknbibgkpbaa
theorem safeTwo_holds : Rows.SafeTwoSaid := safeTwo.over
#print axioms safeTwo_holds
end Go.Proofs.Ytacoknbibgkpbaa

/-
  Numbers that are added come back, in either order.
  Conditions: none.
-/
import Derived.Test.YtacoknbibgkpbaaLawL
import Derived.ShutString
import Derived.ChangeOld
namespace Go.Proofs.Ytacoknbibgkpbaa.safeBack
open Go.ChangeShapes Go.WideShapes Go.ChangeAt Go.RowKit
set_option linter.unusedVariables false
set_option linter.unusedSimpArgs false
set_option maxRecDepth 100000

theorem own : ownKnob Try.prog.godebug = none := by kernel_rfl
theorem laidOut : laidOutB Try.prog = true := by kernel_rfl

set_option maxHeartbeats 4000000 in
theorem walk (a b : Int) (w : World) (w0 : (Lit.int .u64 a).wf = true) (w1 : (Lit.int .u64 b).wf = true) :
    Calls Try.prog 5 #[.int .u64 a, .int .u64 b] w fun e w' => e = .returned (.bool true) ∧ Below w.heap.size w w' := by
  obtain ⟨a0, a1⟩ := bounds_u64 w0
  obtain ⟨b0, b1⟩ := bounds_u64 w1
  clear w0 w1
  have h1 := fun W => q9add_c a b a0 (by omega) b0 (by omega) W
  have h2 := fun W => q9add_c b a b0 (by omega) a0 (by omega) W
  rw [(addV_comm b a).1, (addV_comm b a).2] at h2
  by_cases hs : a + b < 9223372036854775808
  · rw [(addV_ok hs).1, (addV_ok hs).2] at h1 h2
    have h3 := fun W => q9sub_c (a + b) a (by omega) (by omega) a0 (by omega) W
    have h4 := fun W => q9sub_c (a + b) b (by omega) (by omega) b0 (by omega) W
    rw [(subV_ok (a := a + b) (b := a) (by omega) (by omega)).1, (subV_ok (a := a + b) (b := a) (by omega) (by omega)).2, show a + b - a = b by omega] at h3
    rw [(subV_ok (a := a + b) (b := b) (by omega) (by omega)).1, (subV_ok (a := a + b) (b := b) (by omega) (by omega)).2, show a + b - b = a by omega] at h4
    obtain ⟨s, hss⟩ : ∃ s, a + b = s := ⟨_, rfl⟩
    rw [hss] at h1 h2 h3 h4
    have H1 := Lib.hid h1
    have H2 := Lib.hid h2
    have H3 := Lib.hid h3
    have H4 := Lib.hid h4
    clear h1 h2 h3 h4 hss hs
    go_enter Try.func5, Try.ntmps5
    go_wp2_with (first
      | (go_at_call 7; (with_reducible refine (alive9_c w).mono ?_); rintro e wa ⟨rfl, hba⟩; have HB := Lib.hid hba; clear hba)
      | (go_at_call 8; (with_reducible refine (H1.out _).mono ?_); rintro e _ ⟨rfl, rfl⟩)
      | (go_at_call 8; (with_reducible refine (H2.out _).mono ?_); rintro e _ ⟨rfl, rfl⟩)
      | (go_at_call 10; (with_reducible refine (H3.out _).mono ?_); rintro e _ ⟨rfl, rfl⟩)
      | (go_at_call 10; (with_reducible refine (H4.out _).mono ?_); rintro e _ ⟨rfl, rfl⟩))
    go_ret
    exact ⟨rfl, HB.out⟩
  · rw [(addV_no hs).1, (addV_no hs).2] at h1 h2
    have H1 := Lib.hid h1
    have H2 := Lib.hid h2
    clear h1 h2 hs
    go_enter Try.func5, Try.ntmps5
    go_wp2_with (first
      | (go_at_call 7; (with_reducible refine (alive9_c w).mono ?_); rintro e wa ⟨rfl, hba⟩; have HB := Lib.hid hba; clear hba)
      | (go_at_call 8; (with_reducible refine (H1.out _).mono ?_); rintro e _ ⟨rfl, rfl⟩)
      | (go_at_call 8; (with_reducible refine (H2.out _).mono ?_); rintro e _ ⟨rfl, rfl⟩))
    go_ret
    exact ⟨rfl, HB.out⟩


set_option maxRecDepth 100000 in
theorem lifted (os : Os) (started : os.Started) (H : Type) (enc : TypeId × Value → H) :
    ReturnsInHanded {} Try.checked os 5 .any (Rows.safeBackSpec.pre6 enc Try.prog Try.f5 Rows.safeBackRow.domain false) (Rows.safeBackSpec.post enc Try.prog Try.f5 false true false false) := by
  refine returnsInHanded_of_change (C := Try.checked) own started (by kernel_rfl) Try.func5
    (ChangeSpec.witness6 (enc := enc) (C := Try.checked) false ⟨#[], #[.int .u64 0, .int .u64 0], []⟩ 8 (by kernel_rfl) (by kernel_rfl) (by kernel_rfl) (by kernel_rfl)) ?_
  intro W base args ds gs before hval0 hW hcnd _
  have hval : ∀ (j : Nat) t v, Try.f5.params[j]? = some t → args[j]? = some v → Value.okWide Try.prog W .any base t v := hval0
  have hW' := hW
  obtain ⟨p, q, hA0, hV, rfl, hfz, hnd⟩ := hW
  have hA : DataW.TrodAll enc Try.prog W 0 (fun _ => true) true Try.f5.params.toList args.toList ds p := hA0
  rw [Try.params5] at hA hval
  obtain ⟨v0, vs0, d0, ds0, p0, q0, hargs, rfl, rfl, h0, r0⟩ := trodAll_cons hA
  obtain ⟨v1, vs1, d1, ds1, p1, q1, rfl, rfl, rfl, h1, r1⟩ := trodAll_cons r0
  obtain ⟨rfl, rfl, rfl⟩ := trodAll_nil r1
  obtain rfl : args = #[v0, v1] := by cases args; simp_all
  obtain ⟨rfl, rfl⟩ := trodVars_none hV
  obtain ⟨a0, rfl, rfl, rfl, w0⟩ := open_int Try.underlying22 (hval 0 22 v0 rfl rfl) h0
  obtain ⟨a1, rfl, rfl, rfl, w1⟩ := open_int Try.underlying22 (hval 1 22 v1 rfl rfl) h1
  clear hA0 hval0
  refine (walk a0 a1 W w0 w1).mono fun e W' ⟨he, bel⟩ => ?_
  subst he
  exact ⟨_, rfl, _, _, _, [], _, [], hW', trodAll_mk1 (shut_bool Try.underlying4 _), (trodAll_cons_mk (shut_int Try.underlying22 w0) (trodAll_cons_mk (shut_int Try.underlying22 w1) trodAll_mk0)), rfl, bel.frame _, fun h => by cases h⟩

theorem over : Rows.safeBackRow.holds Try.pinned (OpenSpec.ofChange Rows.safeBackSpec) :=
  OpenClaim.holds_of_wide 5 Try.f5 rfl rfl rfl rfl rfl rfl rfl ⟨rfl, rfl, rfl, rfl, rfl⟩ rfl rfl rfl rfl rfl (by kernel_rfl) Try.func5 (by kernel_rfl)
    (of_decide_eq_true (by kernel_rfl)) (by unfold Func.isWrapper; first | (rw [if_pos (by decide +kernel)]; kernel_rfl) | (rw [if_neg (by decide +kernel)]; exact ⟨rfl, rfl⟩))
    (fun os started H enc _ => lifted os started H enc)

end Go.Proofs.Ytacoknbibgkpbaa.safeBack
namespace Go.Proofs.Ytacoknbibgkpbaa
theorem safeBack_holds : Rows.SafeBackSaid := safeBack.over
#print axioms safeBack_holds
end Go.Proofs.Ytacoknbibgkpbaa

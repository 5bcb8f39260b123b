/-
  Any message, padded, and its whole blocks, are the document's.
  Conditions: none.
-/
import Derived.Test.YtpconmnlppjkfaaLawB
import Derived.Test.YtpconmnlppjkfaaOpenA
import Derived.Deep.RegionWith
import Derived.ShutString
import Derived.ChangeOld
namespace Go.Proofs.Ytpconmnlppjkfaa.padMessages
open Go.ChangeShapes Go.WideShapes Go.ChangeAt Go.RowKit
set_option linter.unusedVariables false

theorem own : ownKnob Try.prog.godebug = none := by kernel_rfl
theorem laidOut : laidOutB Try.prog = true := by kernel_rfl

set_option maxHeartbeats 0 in
set_option maxRecDepth 100000 in
theorem messages_walk (A : Option Addr) (L c : Nat) (zs : List Int) (w : World) (hr : Rd .u8 w w.heap.size A L zs) (hc : L ≤ c) (hm : c ≤ maxLen) :
    Calls Try.prog 4 #[.slice A L c] w fun e w' => e = .returned (.bool true) ∧ Below w.heap.size w w' := by
  unfold maxLen at hm
  obtain ⟨i0, hi, hz0, hz1, hzb⟩ := info_parts info_u8'
  have HR := Lib.hid hr
  have HLN := Lib.hid hr.len
  clear hr
  by_cases hL : 2000 < L
  · go_enter Try.func4, Try.ntmps4
    go_wp2_with (go_at_call 7; (with_reducible refine (alive2_c _).mono ?_); rintro e w1 ⟨rfl, hb1⟩)
    go_ret
    exact ⟨rfl, hb1⟩
  · go_enter Try.func4, Try.ntmps4
    go_wp2_with (first
        | (go_at_call 7; (with_reducible refine (alive2_c _).mono ?_); rintro e w1 ⟨rfl, hb1⟩)
        | (at_builtin; refine wpList_append_ints _ rfl (.tmp 13) (.tmp 14) 22 rfl w.heap.size 5 i0 _ 1 .u8 Try.underlying22 hi hz0 hz1 hzb rfl _ [] rfl (own_empty w1 5 .u8 hb1.size) w.heap.size A L c zs rfl ((HR.out.below hb1).alloc hb1.size _) (by simp [maxLen]; omega) (by simp; omega) (by have := hb1.size; simp; omega) ?_; intro v2 w2 hown2 hg2 _; have hb2 : Below w.heap.size w w2 := (own_empty w1 5 .u8 hb1.size).below_ (hb1.alloc hb1.size _) (by have := hb1.size; simp; omega) hg2; simp only [List.nil_append] at hown2; clear hg2; obtain ⟨A2, c2, rfl, hc2, _⟩ := hown2.form; have hrd2 := hown2.rd rfl; rw [HLN.out] at hrd2 hc2 ⊢; have HO2 := Lib.hid hrd2; clear hown2 hrd2)
        | (go_at_call 12; (with_reducible refine (pcut_c _ _ _ _ _ HO2.out hc2 (by omega)).mono ?_); rintro e w3 ⟨A3, c3, A4, c4, rfl, hr3, hr4, hc4, hb3⟩; have HR3 := Lib.hid hr3; have HR4 := Lib.hid hr4; clear hr3 hr4)
        | (go_at_call 13; (with_reducible refine (rcut_c _ _ _ zs _ (by exact (((HR.out.below hb2).mono hb2.size).below hb3).fit) hc (by omega)).mono ?_); rintro e w4 ⟨A5, c5, A6, c6, rfl, ho5, hr6, hc6, hb4⟩; have HO5 := Lib.hid (ho5.rd rfl); have HR6 := Lib.hid (hr6.below hb4); clear ho5 hr6))
    have HR3' := Lib.hid (HR3.out.below hb4)
    have HR4' := Lib.hid (HR4.out.below hb4)
    have HO2' := Lib.hid (((HO2.out.below hb3).mono hb3.size).below hb4)
    have HR' := Lib.hid (((((HR.out.below hb2).mono hb2.size).below hb3).mono hb3.size).below hb4)
    have hbw : Below w.heap.size w w4 := (hb2.trans (hb3.mono hb2.size)).trans (hb4.mono (by have := hb2.size; have := hb3.size; omega))
    have hs3 := hb3.size
    have hs4 := hb4.size
    have hql : (cutN zs (L / 64)).length = L / 64 := by simp [cutN]
    have HQL := Lib.hid hql
    have HBW := Lib.hid hbw
    clear hb1 hb2 hb3 hb4 hbw hql hi hz0 hz1 hzb i0 HLN HR HO2 HR3 HR4 hc4 hc6 hm
    go_region_with (first
        | (go_at_call 14; (with_reducible refine (ppad_c _ _ _ zs _ (by exact HO2'.out.drew.fit) hc2 (by omega)).mono ?_); rintro e w5 ⟨A7, c7, rfl, hr7, hc7, hbk⟩; have s7 := str_rd (c := c7) hr7; have HR7 := Lib.hid hr7; have HB5 : Hid (Below w4.heap.size w4 w5) := below_of_drew hbk; clear hr7 hbk)
        | (go_at_call 15; (with_reducible refine (rpad_c _ _ _ zs _ (by exact ((HR'.out.mono (by omega)).below HB5.out).fit) hc (by omega)).mono ?_); rintro e w6 ⟨A8, c8, rfl, ho8, hbk⟩; have s8 := str_rd (c := c8) (ho8.rd rfl); have s7' := str_rd (c := c7) (HR7.out.below hbk); have HB6 : Hid (Below w4.heap.size w4 w6) := belNext hbk HB5.out; clear ho8 hbk)
        | (go_at_call 16; (with_reducible refine (rsame_c _ _ _ _ _ _ _ (by exact ((HR3'.out.mono hs4).below HB6.out).mono HB6.out.size) (by exact (HO5.out.below HB6.out).mono HB6.out.size) (by rw [HQL.out]; omega)).mono ?_); rintro e w7 ⟨rfl, hbk⟩; have HB7 : Hid (Below w4.heap.size w4 w7) := belNext hbk HB6.out; have s9 := str_rd (c := c4) ((HR4'.out.mono hs4).below HB7.out); have s10 := str_rd (c := c6) ((HR6.out.mono hs4).below HB7.out); have s11 := str_rd (c := c2) ((HO2'.out.mono hs4).below HB7.out); have s12 := str_rd (c := c) ((HR'.out.mono (by omega)).below HB7.out); clear hbk))
    all_goals
      go_wp2
      go_ret
      exact ⟨rfl, HBW.out.trans (HB7.out.mono HBW.out.size)⟩
theorem walk (a0 : Option Addr) (n0 c0 : Nat) (z0 : List Int) (w : World) (rd0 : Rd .u8 w w.heap.size a0 n0 z0) (lc0 : n0 ≤ c0) (cm0 : c0 ≤ maxLen) (w0 : ∀ z ∈ z0, (Lit.int .u8 z).wf = true) :
    Calls Try.prog 4 #[.slice a0 n0 c0] w fun e w' => e = .returned (.bool true) ∧ Below w.heap.size w w' :=
  messages_walk a0 n0 c0 z0 w rd0 lc0 cm0


set_option maxRecDepth 100000 in
theorem lifted (os : Os) (started : os.Started) (H : Type) (enc : TypeId × Value → H) :
    ReturnsInHanded {} Try.checked os 4 .any (Rows.padMessagesSpec.pre6 enc Try.prog Try.f4 Rows.padMessagesRow.domain false) (Rows.padMessagesSpec.post enc Try.prog Try.f4 false true false false) := by
  refine returnsInHanded_of_change (C := Try.checked) own started (by kernel_rfl) Try.func4
    (ChangeSpec.witness6 (enc := enc) (C := Try.checked) false ⟨#[], #[.slice none 0 0], []⟩ 8 (by kernel_rfl) (by kernel_rfl) (by kernel_rfl) (by kernel_rfl)) ?_
  intro W base args ds gs before hval0 hW hcnd _
  have hval : ∀ (j : Nat) t v, Try.f4.params[j]? = some t → args[j]? = some v → Value.okWide Try.prog W .any base t v := hval0
  have hW' := hW
  obtain ⟨p, q, hA0, hV, rfl, hfz, hnd⟩ := hW
  have hA : DataW.TrodAll enc Try.prog W 0 (fun _ => true) true Try.f4.params.toList args.toList ds p := hA0
  rw [Try.params4] at hA hval
  obtain ⟨v0, vs0, d0, ds0, p0, q0, hargs, rfl, rfl, h0, r0⟩ := trodAll_cons hA
  obtain ⟨rfl, rfl, rfl⟩ := trodAll_nil r0
  obtain rfl : args = #[v0] := by cases args; simp_all
  obtain ⟨rfl, rfl⟩ := trodVars_none hV
  obtain ⟨a0, n0, c0, rfl⟩ := okWide_slice Try.underlying22 (hval 0 22 v0 rfl rfl)
  have k0 := h0
  have lt0 : ∀ x ∈ p0, x.block < W.heap.size := by obtain ⟨m, hm⟩ := k0; exact DataW.trod_lt m _ _ _ hm
  obtain ⟨z0, rd0, lc0, cm0, w0⟩ := open_rd Try.underlying22 Try.underlying5 (by kernel_rfl) h0
  clear hA0 hval0
  refine (walk a0 n0 c0 z0 W rd0 lc0 cm0 w0).mono fun e W' ⟨he, bel⟩ => ?_
  subst he
  exact ⟨_, rfl, _, _, _, [], _, [], hW', trodAll_mk1 (shut_bool Try.underlying4 _), (trodAll_cons_mk (Below.trod laidOut (by kernel_rfl) (of_decide_eq_true (by kernel_rfl)) k0 bel lt0) trodAll_mk0), rfl, bel.frame _, fun h => by cases h⟩

theorem over : Rows.padMessagesRow.holds Try.pinned (OpenSpec.ofChange Rows.padMessagesSpec) :=
  OpenClaim.holds_of_wide 4 Try.f4 rfl rfl rfl rfl rfl rfl rfl ⟨rfl, rfl, rfl, rfl, rfl⟩ rfl rfl rfl rfl rfl (by kernel_rfl) Try.func4 (by kernel_rfl)
    (of_decide_eq_true (by kernel_rfl)) (by unfold Func.isWrapper; first | (rw [if_pos (by decide +kernel)]; kernel_rfl) | (rw [if_neg (by decide +kernel)]; exact ⟨rfl, rfl⟩))
    (fun os started H enc _ => lifted os started H enc)

end Go.Proofs.Ytpconmnlppjkfaa.padMessages
namespace Go.Proofs.Ytpconmnlppjkfaa
theorem padMessages_holds : Rows.PadMessagesSaid := padMessages.over
#print axioms padMessages_holds
end Go.Proofs.Ytpconmnlppjkfaa

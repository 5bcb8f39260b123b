/-
  The tapes by which any place of any stakes leads are the document's, or refused, for their reason; of up to 300 stakes.
  Conditions: none.
-/
import Derived.Test.YtaaahgkpicjnoaaGc
import Derived.ShutString
import Derived.ChangeOld
namespace Go.Proofs.Ytaaahgkpicjnoaa.oddsStakes
open Go.ChangeShapes Go.WideShapes Go.ChangeAt Go.RowKit
set_option linter.unusedVariables false
set_option linter.unusedSimpArgs false
set_option maxRecDepth 100000

theorem own : ownKnob Try.prog.godebug = none := by kernel_rfl
theorem laidOut : laidOutB Try.prog = true := by kernel_rfl

set_option maxHeartbeats 16000000 in
theorem walk (i m : Int) (a : Option Addr) (n c : Nat) (zs : List Int) (w : World) (w0 : (Lit.int .i64 i).wf = true) (w1 : (Lit.int .i64 m).wf = true) (hrd : Rd .u64 w w.heap.size a n zs) (lc : n ≤ c) (cm : c ≤ maxLen) (hw : ∀ z ∈ zs, (Lit.int .u64 z).wf = true) :
    Calls Try.prog 4 #[.int .i64 i, .int .i64 m, .slice a n c] w fun e w' => e = .returned (.bool true) ∧ Below w.heap.size w w' := by
  have i0 : -9223372036854775808 ≤ i := by have := (bounds_i64 w0).1; omega
  have i1 : i < 9223372036854775808 := by have := (bounds_i64 w0).2; omega
  have m0 : -9223372036854775808 ≤ m := by have := (bounds_i64 w1).1; omega
  have m1 : m < 9223372036854775808 := by have := (bounds_i64 w1).2; omega
  have hz : ∀ z ∈ zs, 0 ≤ z ∧ z < 18446744073709551616 := fun z h => by
    obtain ⟨h1, h2⟩ := bounds_u64 (hw z h)
    omega
  have hlen := hrd.len
  have G0 : Hid (Fx [.rdb .u64 w.heap.size a n zs, .bel w] w) := Lib.hid ⟨⟨hrd, Nat.le_refl _⟩, Below.refl _ _, trivial⟩
  by_cases hg : 300 < n
  · have hg2 : (300 : Int) < (n : Int) := by omega
    clear hrd hw hz hlen hg i0 i1 m0 m1 w0 w1 lc cm
    go_enter Try.func4, Try.ntmps4
    go_wp2_with (first
      | (go_at_call 8; (with_reducible refine (alive16_c _).mono ?_); rintro e w1 ⟨rfl, hbw1⟩; have G2 := Lib.hid (Fx.below G0.out hbw1); clear G0; clear hbw1))
    go_ret
    exact ⟨rfl, (Fx.e1 G2.out)⟩
  have hg2 : (n : Int) ≤ 300 := by omega
  obtain ⟨e1, Z1, h1⟩ : ∃ e Z, leadR' i m zs = (e, Z) := ⟨_, _, rfl⟩
  obtain ⟨e2, Z2, h2⟩ : ∃ e Z, pickR' i m zs = (e, Z) := ⟨_, _, rfl⟩
  have l1 : Z1.length ≤ 1000 := by have := leadR'_len i m zs; rw [h1] at this; exact Nat.le_trans this (by omega)
  have l2 : Z2.length ≤ 1000 := by have := pickR'_len i m zs; rw [h2] at this; exact Nat.le_trans this (by omega)
  have HQ1 := Lib.hid (fun A c W h => ret_e (q16lead_c i i0 i1 m m0 m1 zs hz A n c (by omega) W h) h1)
  have HR1 := Lib.hid (fun A c W h => ret_e (r16lead_c i i0 i1 m m0 m1 zs hz A n c (by unfold maxLen; omega) W h) h1)
  have HQ2 := Lib.hid (fun A c W h => ret_e (q16pick_c i i0 i1 m m0 m1 zs hz A n c (by omega) W h) h2)
  have HR2 := Lib.hid (fun A c W h => ret_e (r16pick_c i i0 i1 m m0 m1 zs hz A n c (by unfold maxLen; omega) W h) h2)
  have HS1 := Lib.hid (fun A B c d W a b => same_n l1 A B c d W a b)
  have HS2 := Lib.hid (fun A B c d W a b => same_n l2 A B c d W a b)
  have hu := fun A B c d W h1 h2 => r9same_c zs zs A B n n c d (by unfold maxLen; omega) (by unfold maxLen; omega) W h1 h2
  rw [decide_eq_true (Eq.refl zs)] at hu
  have HU := Lib.hid hu
  have HLN := Lib.hid hlen
  have H5 : Hid (n ≤ 100000000) := Lib.hid (by omega)
  clear hu h1 h2 l1 l2 hrd hw hz hlen hg i0 i1 m0 m1 w0 w1 lc cm
  go_enter Try.func4, Try.ntmps4
  go_wp2_with (first
    | (go_at_call 8; (with_reducible refine (alive16_c _).mono ?_); rintro e w1 ⟨rfl, hbw1⟩; have G2 := Lib.hid (Fx.below G0.out hbw1); clear G0; clear hbw1)
    | (with_reducible refine at_any ?_; refine at_dst 23 rfl ?_; refine wpList_own_copy8 w1 rfl (.tmp 21) (.tmp 22) rfl rfl a n c zs rfl (Fx.r0 G2.out) H5.out ?_; intro A4 c5 w3 hbw3 hrw3 hlw3 hmw3; rw [HLN.out] at hrw3 hlw3 ⊢; have lc5 := Lib.hid hlw3.out; have mc5 := Lib.hid hmw3.out; have G6 := Lib.hid (Fx.addR G2.out hbw3 hrw3); clear G2; clear hrw3 hbw3 hlw3 hmw3)
    | (go_at_call 20; (with_reducible refine (HQ1.out _ _ _ (Fx.r0 G6.out)).mono ?_); rintro e w7 ⟨A8, c9, rfl, hlw7, hmw7, hrw7, hbw7⟩; have lc9 := Lib.hid hlw7; have mc9 := Lib.hid hmw7; have G10 := Lib.hid (Fx.addR G6.out hbw7 hrw7); clear G6; clear hrw7 hbw7 hlw7 hmw7)
    | (go_at_call 21; (with_reducible refine (HR1.out _ _ _ (Fx.r2 G10.out)).mono ?_); rintro e w11 ⟨A12, c13, rfl, hlw11, hmw11, hrw11, hbw11⟩; have lc13 := Lib.hid hlw11; have mc13 := Lib.hid hmw11; have G14 := Lib.hid (Fx.addR G10.out hbw11 hrw11); clear G10; clear hrw11 hbw11 hlw11 hmw11)
    | (go_at_call 22; (with_reducible refine (HQ2.out _ _ _ (Fx.r2 G14.out)).mono ?_); rintro e w15 ⟨A16, c17, rfl, hlw15, hmw15, hrw15, hbw15⟩; have lc17 := Lib.hid hlw15; have mc17 := Lib.hid hmw15; have G18 := Lib.hid (Fx.addR G14.out hbw15 hrw15); clear G14; clear hrw15 hbw15 hlw15 hmw15)
    | (go_at_call 23; (with_reducible refine (HR2.out _ _ _ (Fx.r4 G18.out)).mono ?_); rintro e w19 ⟨A20, c21, rfl, hlw19, hmw19, hrw19, hbw19⟩; have lc21 := Lib.hid hlw19; have mc21 := Lib.hid hmw19; have G22 := Lib.hid (Fx.addR G18.out hbw19 hrw19); clear G18; clear hrw19 hbw19 hlw19 hmw19)
    | (go_at_call 19; (with_reducible refine (HS1.out _ _ _ _ _ (Fx.r3 G22.out) (Fx.r2 G22.out)).mono ?_); rintro e w23 ⟨rfl, hbw23⟩; have G24 := Lib.hid (Fx.below G22.out hbw23); clear G22; clear hbw23)
    | (go_at_call 19; (with_reducible refine (HS2.out _ _ _ _ _ (Fx.r1 G24.out) (Fx.r0 G24.out)).mono ?_); rintro e w25 ⟨rfl, hbw25⟩; have G26 := Lib.hid (Fx.below G24.out hbw25); clear G24; clear hbw25)
    | (go_at_call 24; (with_reducible refine (HU.out _ _ _ _ _ (Fx.r4 G26.out) (Fx.r5 G26.out)).mono ?_); rintro e w27 ⟨rfl, hbw27⟩; have G28 := Lib.hid (Fx.below G26.out hbw27); clear G26; clear hbw27))
  go_ret
  exact ⟨rfl, (Fx.e6 G28.out)⟩


set_option maxRecDepth 100000 in
theorem lifted (os : Os) (started : os.Started) (H : Type) (enc : TypeId × Value → H) :
    ReturnsInHanded {} Try.checked os 4 .any (Rows.oddsStakesSpec.pre6 enc Try.prog Try.f4 Rows.oddsStakesRow.domain false) (Rows.oddsStakesSpec.post enc Try.prog Try.f4 false true false false) := by
  refine returnsInHanded_of_change (C := Try.checked) own started (by kernel_rfl) Try.func4
    (ChangeSpec.witness6 (enc := enc) (C := Try.checked) false ⟨#[], #[.int .i64 0, .int .i64 0, .slice none 0 0], []⟩ 8 (by kernel_rfl) (by kernel_rfl) (by kernel_rfl) (by kernel_rfl)) ?_
  intro W base args ds gs before hval0 hW hcnd _
  have hval : ∀ (j : Nat) t v, Try.f4.params[j]? = some t → args[j]? = some v → Value.okWide Try.prog W .any base t v := hval0
  have hW' := hW
  obtain ⟨p, q, hA0, hV, rfl, hfz, hnd⟩ := hW
  have hA : DataW.TrodAll enc Try.prog W 0 (fun _ => true) true Try.f4.params.toList args.toList ds p := hA0
  rw [Try.params4] at hA hval
  obtain ⟨v0, vs0, d0, ds0, p0, q0, hargs, rfl, rfl, h0, r0⟩ := trodAll_cons hA
  obtain ⟨v1, vs1, d1, ds1, p1, q1, rfl, rfl, rfl, h1, r1⟩ := trodAll_cons r0
  obtain ⟨v2, vs2, d2, ds2, p2, q2, rfl, rfl, rfl, h2, r2⟩ := trodAll_cons r1
  obtain ⟨rfl, rfl, rfl⟩ := trodAll_nil r2
  obtain rfl : args = #[v0, v1, v2] := by cases args; simp_all
  obtain ⟨rfl, rfl⟩ := trodVars_none hV
  obtain ⟨a0, rfl, rfl, rfl, w0⟩ := open_int Try.underlying3 (hval 0 3 v0 rfl rfl) h0
  obtain ⟨a1, rfl, rfl, rfl, w1⟩ := open_int Try.underlying3 (hval 1 3 v1 rfl rfl) h1
  obtain ⟨a2, n2, c2, rfl⟩ := okWide_slice Try.underlying34 (hval 2 34 v2 rfl rfl)
  have k2 := h2
  have lt2 : ∀ x ∈ p2, x.block < W.heap.size := by obtain ⟨m, hm⟩ := k2; exact DataW.trod_lt m _ _ _ hm
  obtain ⟨z2, rd2, lc2, cm2, w2⟩ := open_rd Try.underlying34 Try.underlying22 (by kernel_rfl) h2
  clear hA0 hval0
  refine (walk a0 a1 a2 n2 c2 z2 W w0 w1 rd2 lc2 cm2 w2).mono fun e W' ⟨he, bel⟩ => ?_
  subst he
  exact ⟨_, rfl, _, _, _, [], _, [], hW', trodAll_mk1 (shut_bool Try.underlying4 _), (trodAll_cons_mk (shut_int Try.underlying3 w0) (trodAll_cons_mk (shut_int Try.underlying3 w1) (trodAll_cons_mk (Below.trod laidOut (by kernel_rfl) (of_decide_eq_true (by kernel_rfl)) k2 bel lt2) trodAll_mk0))), rfl, bel.frame _, fun h => by cases h⟩

theorem over : Rows.oddsStakesRow.holds Try.pinned (OpenSpec.ofChange Rows.oddsStakesSpec) :=
  OpenClaim.holds_of_wide 4 Try.f4 rfl rfl rfl rfl rfl rfl rfl ⟨rfl, rfl, rfl, rfl, rfl⟩ rfl rfl rfl rfl rfl (by kernel_rfl) Try.func4 (by kernel_rfl)
    (of_decide_eq_true (by kernel_rfl)) (by unfold Func.isWrapper; first | (rw [if_pos (by decide +kernel)]; kernel_rfl) | (rw [if_neg (by decide +kernel)]; exact ⟨rfl, rfl⟩))
    (fun os started H enc _ => lifted os started H enc)

end Go.Proofs.Ytaaahgkpicjnoaa.oddsStakes
namespace Go.Proofs.Ytaaahgkpicjnoaa
theorem oddsStakes_holds : Rows.OddsStakesSaid := oddsStakes.over
#print axioms oddsStakes_holds
end Go.Proofs.Ytaaahgkpicjnoaa

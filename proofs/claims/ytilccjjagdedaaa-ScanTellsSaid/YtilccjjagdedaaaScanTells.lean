/-
  What any stakes tell of any ticket, and any place, is the document's, or refused; of up to 300.
  Conditions: none.
-/
import Derived.Test.YtilccjjagdedaaaLawQ
import Derived.Test.YtilccjjagdedaaaOpenA
import Derived.ShutString
import Derived.ChangeOld
namespace Go.Proofs.Ytilccjjagdedaaa.scanTells
open Go.ChangeShapes Go.WideShapes Go.ChangeAt Go.RowKit
set_option linter.unusedVariables false
set_option linter.unusedSimpArgs false
set_option maxRecDepth 100000

theorem own : ownKnob Try.prog.godebug = none := by kernel_rfl
theorem laidOut : laidOutB Try.prog = true := by kernel_rfl

set_option maxHeartbeats 8000000 in
theorem walk (t : Int) (i : Int) (a0 : Option Addr) (n c : Nat) (zs : List Int) (w : World) (w0 : (Lit.int .u64 t).wf = true) (w1 : (Lit.int .i64 i).wf = true) (hrd : Rd .u64 w w.heap.size a0 n zs) (lc : n ≤ c) (cm : c ≤ maxLen) (hw : ∀ z ∈ zs, (Lit.int .u64 z).wf = true) :
    Calls Try.prog 3 #[.int .u64 t, .int .i64 i, .slice a0 n c] w fun e w' => e = .returned (.bool true) ∧ Below w.heap.size w w' := by
  have G0 : Hid (Fx [.rdb .u64 w.heap.size a0 n zs, .bel w] w) := Lib.hid ⟨⟨hrd, Nat.le_refl _⟩, Below.refl _ _, trivial⟩
  have hlen := hrd.len
  have hz : ∀ z ∈ zs, 0 ≤ z ∧ z < 18446744073709551616 := fun z h => by
    obtain ⟨h1, h2⟩ := bounds_u64 (hw z h)
    omega
  have t0 : 0 ≤ t := (bounds_u64 w0).1
  have t1 : t < 18446744073709551616 := by have := (bounds_u64 w0).2; omega
  have i0 : -9223372036854775808 ≤ i := by have := (bounds_i64 w1).1; omega
  have i1 : i < 9223372036854775808 := by have := (bounds_i64 w1).2; omega
  by_cases hg : 300 < n
  · have hg2 : (300 : Int) < (n : Int) := by omega
    clear hrd hw hz hg
    go_enter Try.func3, Try.ntmps3
    go_wp2_with (first
      | (go_at_call 5; (with_reducible refine (alive12_c _).mono ?_); rintro e w1 ⟨rfl, hbw1⟩; have G2 := Lib.hid (Fx.below G0.out hbw1); clear G0; clear hbw1))
    go_ret
    exact ⟨rfl, (Fx.e1 G2.out)⟩
  have hg2 : (n : Int) ≤ 300 := by omega
  have hn5 : n ≤ 100000000 := by omega
  have hn6 : n ≤ 1000000 := by omega
  have hnm : n ≤ maxLen := by simp only [maxLen]; omega
  have hz0 : ∀ z ∈ zs, 0 ≤ z := fun z h => (hz z h).1
  have h1 := fun A c W h => q12owner_c zs hz A n c hn6 t t0 t1 W h
  have r1 := fun A c W h => r12owner_c zs hz t t0 t1 A n c hnm W h
  have h2 := fun A c W h => q12total_c zs hz A n c hn6 W h
  have r2 := fun A c W h => r12total_c zs hz A n c hnm W h
  have hwl : (witL zs i).length ≤ n := by
    unfold witL
    split
    · rw [List.length_set]; omega
    · exact Nat.zero_le _
  have h3 := fun A c W h => calls_lst (q12without_c zs hz A n c hn6 i i0 i1 W h) rfl rfl rfl
  have r3 := fun A c W h => calls_lst (r12without_c zs i i0 i1 A n c hn5 W h) rfl rfl rfl
  have h4 := fun A c W h => q12pos_c zs hz A n c hn6 W h
  have r4 := fun A c W h => r12pos_c zs hz A n c hnm W h
  obtain ⟨ov, hov⟩ : ∃ x, scoV zs t = x := ⟨_, rfl⟩
  obtain ⟨oe, hoe⟩ : ∃ x, scoE zs t = x := ⟨_, rfl⟩
  obtain ⟨sv, hsv⟩ : ∃ x, sumV zs = x := ⟨_, rfl⟩
  obtain ⟨se, hse⟩ : ∃ x, totE zs = x := ⟨_, rfl⟩
  obtain ⟨we, hwe⟩ : ∃ x, witE zs i = x := ⟨_, rfl⟩
  obtain ⟨wl, hwl2⟩ : ∃ x, witL zs i = x := ⟨_, rfl⟩
  obtain ⟨ps, hps⟩ : ∃ x, posL zs = x := ⟨_, rfl⟩
  rw [hov, hoe] at h1 r1
  rw [hsv, hse] at h2 r2
  rw [hwe, hwl2] at h3 r3
  rw [hwl2] at hwl
  rw [hps] at h4 r4
  obtain ⟨m, hm⟩ : ∃ x, wl.length = x := ⟨_, rfl⟩
  rw [hm] at h3 r3 hwl
  have H1 := Lib.hid h1
  have R1 := Lib.hid r1
  have H2 := Lib.hid h2
  have R2 := Lib.hid r2
  have H3 := Lib.hid h3
  have R3 := Lib.hid r3
  have H4 := Lib.hid h4
  have R4 := Lib.hid r4
  have S1 := Lib.hid (fun A B c d W h h' => calls_val (v' := .bool true) (r9same_c wl wl A B m m c d (by omega) (by omega) W h h') (congrArg Value.bool (decide_eq_true rfl)))
  have S2 := Lib.hid (fun A B c d W h h' => calls_val (v' := .bool true) (r9same_c zs zs A B n n c d hnm hnm W h h') (congrArg Value.bool (decide_eq_true rfl)))
  have H5 := Lib.hid hn5
  have HL := Lib.hid hlen
  clear h1 r1 h2 r2 h3 r3 h4 r4 hov hoe hsv hse hwe hwl2 hps hm hwl hrd hw hz hz0 hg hn5 hn6 hnm lc cm hlen w0 w1 t0 t1 i0 i1
  go_enter Try.func3, Try.ntmps3
  go_wp2_with (first
    | (go_at_call 5; (with_reducible refine (alive12_c _).mono ?_); rintro e w1 ⟨rfl, hbw1⟩; have G2 := Lib.hid (Fx.below G0.out hbw1); clear G0; clear hbw1)
    | (with_reducible refine at_any ?_; refine at_dst 27 rfl ?_; refine wpList_own_copy8 w1 rfl (.tmp 25) (.tmp 26) rfl rfl a0 n c zs rfl (Fx.r0 G2.out) H5.out ?_; intro A4 c5 w3 hbw3 hrw3 hlw3 hmw3; rw [HL.out] at hrw3 hlw3 ⊢; have lc5 := Lib.hid hlw3.out; have mc5 := Lib.hid hmw3.out; have G6 := Lib.hid (Fx.addR G2.out hbw3 hrw3); clear G2; clear hrw3 hbw3 hlw3 hmw3)
    | (go_at_call 6; (with_reducible refine (H1.out _ _ _ (Fx.r0 G6.out)).mono ?_); rintro e w7 ⟨rfl, hbw7⟩; have G8 := Lib.hid (Fx.below G6.out hbw7); clear G6; clear hbw7)
    | (go_at_call 7; (with_reducible refine (R1.out _ _ _ (Fx.r1 G8.out)).mono ?_); rintro e _ ⟨rfl, rfl⟩)
    | (go_at_call 8; (with_reducible refine (H2.out _ _ _ (Fx.r0 G8.out)).mono ?_); rintro e w9 ⟨rfl, hbw9⟩; have G10 := Lib.hid (Fx.below G8.out hbw9); clear G8; clear hbw9)
    | (go_at_call 9; (with_reducible refine (R2.out _ _ _ (Fx.r1 G10.out)).mono ?_); rintro e _ ⟨rfl, rfl⟩)
    | (go_at_call 10; (with_reducible refine (H3.out _ _ _ (Fx.r0 G10.out)).mono ?_); rintro e w11 ⟨A12, c13, rfl, hrw11, hlw11, hmw11, hbw11⟩; have lc13 := Lib.hid hlw11; have mc13 := Lib.hid hmw11; have G14 := Lib.hid (Fx.addR G10.out hbw11 hrw11); clear G10; clear hrw11 hbw11 hlw11 hmw11)
    | (go_at_call 11; (with_reducible refine (R3.out _ _ _ (Fx.r2 G14.out)).mono ?_); rintro e w15 ⟨A16, c17, rfl, hrw15, hlw15, hmw15, hbw15⟩; have lc17 := Lib.hid hlw15; have mc17 := Lib.hid hmw15; have G18 := Lib.hid (Fx.addR G14.out hbw15 hrw15); clear G14; clear hrw15 hbw15 hlw15 hmw15)
    | (go_at_call 12; (with_reducible refine (S1.out _ _ _ _ _ (Fx.r1 G18.out) (Fx.r0 G18.out)).mono ?_); rintro e w19 ⟨rfl, hbw19⟩; have G20 := Lib.hid (Fx.below G18.out hbw19); clear G18; clear hbw19)
    | (go_at_call 13; (with_reducible refine (H4.out _ _ _ (Fx.r2 G20.out)).mono ?_); rintro e w21 ⟨rfl, hbw21⟩; have G22 := Lib.hid (Fx.below G20.out hbw21); clear G20; clear hbw21)
    | (go_at_call 14; (with_reducible refine (R4.out _ _ _ (Fx.r3 G22.out)).mono ?_); rintro e _ ⟨rfl, rfl⟩)
    | (go_at_call 12; (with_reducible refine (S2.out _ _ _ _ _ (Fx.r2 G22.out) (Fx.r3 G22.out)).mono ?_); rintro e w23 ⟨rfl, hbw23⟩; have G24 := Lib.hid (Fx.below G22.out hbw23); clear G22; clear hbw23))
  go_ret
  exact ⟨rfl, (Fx.e4 G24.out)⟩


set_option maxRecDepth 100000 in
theorem lifted (os : Os) (started : os.Started) (H : Type) (enc : TypeId × Value → H) :
    ReturnsInHanded {} Try.checked os 3 .any (Rows.scanTellsSpec.pre6 enc Try.prog Try.f3 Rows.scanTellsRow.domain false) (Rows.scanTellsSpec.post enc Try.prog Try.f3 false true false false) := by
  refine returnsInHanded_of_change (C := Try.checked) own started (by kernel_rfl) Try.func3
    (ChangeSpec.witness6 (enc := enc) (C := Try.checked) false ⟨#[], #[.int .u64 0, .int .i64 0, .slice none 0 0], []⟩ 8 (by kernel_rfl) (by kernel_rfl) (by kernel_rfl) (by kernel_rfl)) ?_
  intro W base args ds gs before hval0 hW hcnd _
  have hval : ∀ (j : Nat) t v, Try.f3.params[j]? = some t → args[j]? = some v → Value.okWide Try.prog W .any base t v := hval0
  have hW' := hW
  obtain ⟨p, q, hA0, hV, rfl, hfz, hnd⟩ := hW
  have hA : DataW.TrodAll enc Try.prog W 0 (fun _ => true) true Try.f3.params.toList args.toList ds p := hA0
  rw [Try.params3] at hA hval
  obtain ⟨v0, vs0, d0, ds0, p0, q0, hargs, rfl, rfl, h0, r0⟩ := trodAll_cons hA
  obtain ⟨v1, vs1, d1, ds1, p1, q1, rfl, rfl, rfl, h1, r1⟩ := trodAll_cons r0
  obtain ⟨v2, vs2, d2, ds2, p2, q2, rfl, rfl, rfl, h2, r2⟩ := trodAll_cons r1
  obtain ⟨rfl, rfl, rfl⟩ := trodAll_nil r2
  obtain rfl : args = #[v0, v1, v2] := by cases args; simp_all
  obtain ⟨rfl, rfl⟩ := trodVars_none hV
  obtain ⟨a0, rfl, rfl, rfl, w0⟩ := open_int Try.underlying22 (hval 0 22 v0 rfl rfl) h0
  obtain ⟨a1, rfl, rfl, rfl, w1⟩ := open_int Try.underlying3 (hval 1 3 v1 rfl rfl) h1
  obtain ⟨a2, n2, c2, rfl⟩ := okWide_slice Try.underlying23 (hval 2 23 v2 rfl rfl)
  have k2 := h2
  have lt2 : ∀ x ∈ p2, x.block < W.heap.size := by obtain ⟨m, hm⟩ := k2; exact DataW.trod_lt m _ _ _ hm
  obtain ⟨z2, rd2, lc2, cm2, w2⟩ := open_rd Try.underlying23 Try.underlying22 (by kernel_rfl) h2
  clear hA0 hval0
  refine (walk a0 a1 a2 n2 c2 z2 W w0 w1 rd2 lc2 cm2 w2).mono fun e W' ⟨he, bel⟩ => ?_
  subst he
  exact ⟨_, rfl, _, _, _, [], _, [], hW', trodAll_mk1 (shut_bool Try.underlying4 _), (trodAll_cons_mk (shut_int Try.underlying22 w0) (trodAll_cons_mk (shut_int Try.underlying3 w1) (trodAll_cons_mk (Below.trod laidOut (by kernel_rfl) (of_decide_eq_true (by kernel_rfl)) k2 bel lt2) trodAll_mk0))), rfl, bel.frame _, fun h => by cases h⟩

theorem over : Rows.scanTellsRow.holds Try.pinned (OpenSpec.ofChange Rows.scanTellsSpec) :=
  OpenClaim.holds_of_wide 3 Try.f3 rfl rfl rfl rfl rfl rfl rfl ⟨rfl, rfl, rfl, rfl, rfl⟩ rfl rfl rfl rfl rfl (by kernel_rfl) Try.func3 (by kernel_rfl)
    (of_decide_eq_true (by kernel_rfl)) (by unfold Func.isWrapper; first | (rw [if_pos (by decide +kernel)]; kernel_rfl) | (rw [if_neg (by decide +kernel)]; exact ⟨rfl, rfl⟩))
    (fun os started H enc _ => lifted os started H enc)

end Go.Proofs.Ytilccjjagdedaaa.scanTells
namespace Go.Proofs.Ytilccjjagdedaaa
theorem scanTells_holds : Rows.ScanTellsSaid := scanTells.over
#print axioms scanTells_holds
end Go.Proofs.Ytilccjjagdedaaa

/-
  Any number's powers, those of 2, and any number's text, are the document's, or refused; of up to 60 limbs.
  Conditions: none.
-/
import Derived.Test.YtoimepmignlmkaaDoorLawM
import Derived.Test.YtoimepmignlmkaaDoorOpenA
import Derived.ShutString
import Derived.Test.YtoimepmignlmkaaDoorNatK
import Derived.Test.YtoimepmignlmkaaDoorTie
import Derived.Test.YtoimepmignlmkaaDoorCards
import Derived.SevenTiedAt
import Derived.ChangeOld
namespace Go.Proofs.YtoimepmignlmkaaDoor.natPowers
open Go.ChangeShapes Go.WideShapes Go.ChangeAt Go.RowKit
set_option linter.unusedVariables false
set_option linter.unusedSimpArgs false
set_option maxRecDepth 100000

theorem own : ownKnob Tryd.prog.godebug = none := by kernel_rfl
theorem laidOut : laidOutB Tryd.prog = true := by kernel_rfl

theorem lim_of {l : List Int} (h : ∀ z ∈ l, (Lit.int .u32 z).wf = true) : Lim l := fun z hz => by
  have := bounds_u32 (h z hz)
  omega
set_option maxHeartbeats 8000000 in
theorem walk (a0 : Option Addr) (n0 c0 : Nat) (z0 : List Int) (a1 : Int) (w : World) (hk : PowT w) (rd0 : Rd .u32 w w.heap.size a0 n0 z0) (lc0 : n0 ≤ c0) (cm0 : c0 ≤ maxLen) (w0 : ∀ z ∈ z0, (Lit.int .u32 z).wf = true) (w1 : (Lit.int .i64 a1).wf = true) :
    Calls Tryd.prog 5 #[.slice a0 n0 c0, .int .i64 a1] w fun e w' => e = .returned (.bool true) ∧ Below w.heap.size w w' := by
  have HPT := Lib.hid hk
  clear hk
  obtain rfl := rd0.len
  have li := lim_of w0
  obtain ⟨k0, k1⟩ := bounds_i64 w1
  have hzm : (z0.length : Int) ≤ 9223372036854775807 := by unfold maxLen at cm0; omega
  have G0 := Lib.hid (NFx.more (NFx.start w) rd0)
  by_cases hbig : 60 < z0.length
  · have i0 : (60 : Int) < (z0.length : Int) := by omega
    clear rd0 lc0 cm0 w0 w1 li hbig k0 k1
    go_enter Tryd.func5, Tryd.ntmps5
    go_wp2_with (first
      | (go_at_call 8; (with_reducible refine (alive10_c w HPT.out).mono ?_); rintro e w1 ⟨rfl, hbw1⟩; have G2 := Lib.hid (NFx.below G0.out hbw1); clear G0; clear hbw1))
    go_ret
    exact ⟨rfl, (NFx.bel G2.out)⟩
  · have i0 : (z0.length : Int) ≤ 60 := by omega
    have hqp := fun W h => q10pow_c z0 li a0 z0.length c0 lc0 cm0 a1 (by omega) (by omega) W h
    have hrp := fun W h => r10pow_c z0 li a0 z0.length c0 lc0 cm0 a1 (by omega) (by omega) W h
    have hqt := fun W => q10two_c a1 (by omega) (by omega) W
    have hrt := fun W => r10two_c a1 (by omega) (by omega) W
    have hqx := fun W (hb : Below w.heap.size w W) h => q10text_c z0 li a0 z0.length c0 lc0 cm0 W (HPT.out.below hb) h
    have hrx := fun W h => r10text_c z0 li a0 z0.length c0 lc0 cm0 W h
    obtain ⟨P, hP⟩ : ∃ P, powR z0 a1 = P := ⟨_, rfl⟩
    obtain ⟨Q, hQ⟩ : ∃ P, twoR a1 = P := ⟨_, rfl⟩
    obtain ⟨X, hX⟩ : ∃ P, strB (textR z0) = P := ⟨_, rfl⟩
    rw [hP] at hqp hrp
    rw [hQ] at hqt hrt
    rw [hX] at hqx hrx
    obtain ⟨pe, P⟩ := P
    obtain ⟨qe, Q⟩ := Q
    have HSP : Hid (∀ A B c1 c2 W, Rd .u32 W W.heap.size A P.length P → Rd .u32 W W.heap.size B P.length P → P.length ≤ maxLen → Calls Tryd.prog 14 #[.slice A P.length c1, .slice B P.length c2] W fun e w' => e = .returned (.bool true) ∧ Below W.heap.size W w') := Lib.hid (fun A B c1 c2 W h h' hm => by
      have h2 := r10same_c P P A B _ _ c1 c2 hm hm W h h'
      rw [decide_eq_true rfl] at h2
      exact h2)
    have HST : Hid (∀ A B c1 c2 W, Rd .u32 W W.heap.size A Q.length Q → Rd .u32 W W.heap.size B Q.length Q → Q.length ≤ maxLen → Calls Tryd.prog 14 #[.slice A Q.length c1, .slice B Q.length c2] W fun e w' => e = .returned (.bool true) ∧ Below W.heap.size W w') := Lib.hid (fun A B c1 c2 W h h' hm => by
      have h2 := r10same_c Q Q A B _ _ c1 c2 hm hm W h h'
      rw [decide_eq_true rfl] at h2
      exact h2)
    have HQP := Lib.hid hqp
    have HRP := Lib.hid hrp
    have HQT := Lib.hid hqt
    have HRT := Lib.hid hrt
    have HQX := Lib.hid hqx
    have HRX := Lib.hid hrx
    clear hqp hrp hqt hrt hqx hrx hP hQ hX rd0 lc0 cm0 w0 w1 li hbig k0 k1
    go_enter Tryd.func5, Tryd.ntmps5
    go_wp2_with (first
      | (go_at_call 8; (with_reducible refine (alive10_c w HPT.out).mono ?_); rintro e w1 ⟨rfl, hbw1⟩; have G2 := Lib.hid (NFx.below G0.out hbw1); clear G0; clear hbw1)
      | (go_at_call 26; (with_reducible refine (HQP.out _ (NFx.r0 G2.out)).mono ?_); rintro e w3 ⟨Ax, cx, rfl, hlw3, hmw3, hrw3, hbw3⟩; have Lx := Lib.hid hlw3; have Mx := Lib.hid hmw3; have G4 := Lib.hid (NFx.add G2.out hbw3 hrw3); clear G2; clear hrw3 hbw3 hlw3 hmw3)
      | (go_at_call 27; (with_reducible refine (HRP.out _ (NFx.r1 G4.out)).mono ?_); rintro e w5 ⟨Ay, cy, rfl, hlw5, hmw5, hrw5, hbw5⟩; have Ly := Lib.hid hlw5; have My := Lib.hid hmw5; have G6 := Lib.hid (NFx.add G4.out hbw5 hrw5); clear G4; clear hrw5 hbw5 hlw5 hmw5)
      | (go_at_call 28; (with_reducible refine (HQT.out _).mono ?_); rintro e w7 ⟨Au, cu, rfl, hlw7, hmw7, hrw7, hbw7⟩; have Lu := Lib.hid hlw7; have Mu := Lib.hid hmw7; have G8 := Lib.hid (NFx.add G6.out hbw7 hrw7); clear G6; clear hrw7 hbw7 hlw7 hmw7)
      | (go_at_call 29; (with_reducible refine (HRT.out _).mono ?_); rintro e w9 ⟨Av, cv, rfl, hlw9, hmw9, hrw9, hbw9⟩; have Lv := Lib.hid hlw9; have Mv := Lib.hid hmw9; have G10 := Lib.hid (NFx.add G8.out hbw9 hrw9); clear G8; clear hrw9 hbw9 hlw9 hmw9)
      | (go_at_call 14; (with_reducible refine (HSP.out _ _ _ _ _ (NFx.r3 G10.out) (NFx.r2 G10.out) (Nat.le_trans Lx.out Mx.out)).mono ?_); rintro e w11 ⟨rfl, hbw11⟩; have G12 := Lib.hid (NFx.below G10.out hbw11); clear G10; clear hbw11)
      | (go_at_call 14; (with_reducible refine (HST.out _ _ _ _ _ (NFx.r1 G12.out) (NFx.r0 G12.out) (Nat.le_trans Lu.out Mu.out)).mono ?_); rintro e w13 ⟨rfl, hbw13⟩; have G14 := Lib.hid (NFx.below G12.out hbw13); clear G12; clear hbw13)
      | (go_at_call 30; (with_reducible refine (HQX.out _ (NFx.bel G14.out) (NFx.r4 G14.out)).mono ?_); rintro e w15 ⟨rfl, hbw15⟩; have G16 := Lib.hid (NFx.below G14.out hbw15); clear G14; clear hbw15)
      | (go_at_call 31; (with_reducible refine (HRX.out _ (NFx.r4 G16.out)).mono ?_); rintro e w17 ⟨rfl, hbw17⟩; have G18 := Lib.hid (NFx.below G16.out hbw17); clear G16; clear hbw17))
    go_ret
    exact ⟨rfl, (NFx.bel G18.out)⟩


set_option maxRecDepth 100000 in
theorem lifted (os : Os) (started : os.Started) (H : Type) (enc : TypeId × Value → H) :
    ReturnsInHanded {} Tryd.checked os 5 .any (fun w args => (Rows.natPowersSpec.pre enc Tryd.prog Tryd.f5 [] false w args ∧ laidMetH Tryd.prog laidP w) ∧ sizedMet enc Tryd.prog Tryd.f5 (OpenSpec.ofChange Rows.natPowersSpec) false w args) (Rows.natPowersSpec.post enc Tryd.prog Tryd.f5 false true false false) := by
  refine returnsInHanded_of_change_and (C := Tryd.checked) (X := fun w _ => laidMetH Tryd.prog laidP w) (fun _ _ _ hh h => h.of_heap hh) own started (by kernel_rfl) Tryd.func5
    (ChangeSpec.witness_shaped (enc := enc) (C := Tryd.checked) (os := os) (X := fun w _ => laidMetH Tryd.prog laidP w) false (World.doorLaid Tryd.prog 400 os) #[.slice none 0 0, .int .i64 0] 8 rfl (World.shaped_of_RefB (by kernel_rfl) (by kernel_rfl)) (by kernel_rfl) (by kernel_rfl) (by kernel_rfl) (door_metP os _)) ?_
  intro W base args ds gs before hval0 hW _ _ hL _
  have hval : ∀ (j : Nat) t v, Tryd.f5.params[j]? = some t → args[j]? = some v → Value.okWide Tryd.prog W .any base t v := hval0
  have hW' := hW
  obtain ⟨p, q, hA0, hV, rfl, hfz, hnd⟩ := hW
  have hA : DataW.TrodAll enc Tryd.prog W 0 (fun _ => true) true Tryd.f5.params.toList args.toList ds p := hA0
  rw [Tryd.params5] at hA hval
  obtain ⟨v0, vs0, d0, ds0, p0, q0, hargs, rfl, rfl, h0, r0⟩ := trodAll_cons hA
  obtain ⟨v1, vs1, d1, ds1, p1, q1, rfl, rfl, rfl, h1, r1⟩ := trodAll_cons r0
  obtain ⟨rfl, rfl, rfl⟩ := trodAll_nil r1
  obtain rfl : args = #[v0, v1] := by cases args; simp_all
  obtain ⟨rfl, rfl⟩ := trodVars_none hV
  obtain ⟨a0, n0, c0, rfl⟩ := okWide_slice Tryd.underlying26 (hval 0 26 v0 rfl rfl)
  have k0 := h0
  have lt0 : ∀ x ∈ p0, x.block < W.heap.size := by obtain ⟨m, hm⟩ := k0; exact DataW.trod_lt m _ _ _ hm
  obtain ⟨z0, rd0, lc0, cm0, w0⟩ := open_rd Tryd.underlying26 Tryd.underlying45 (by kernel_rfl) h0
  obtain ⟨a1, rfl, rfl, rfl, w1⟩ := open_int Tryd.underlying3 (hval 1 3 v1 rfl rfl) h1
  clear hA0 hval0
  refine (walk a0 n0 c0 z0 a1 W (powT_of_laid hL) rd0 lc0 cm0 w0 w1).mono fun e W' ⟨he, bel⟩ => ?_
  subst he
  exact ⟨_, rfl, _, _, _, [], _, [], hW', trodAll_mk1 (shut_bool Tryd.underlying4 _), (trodAll_cons_mk (Below.trod laidOut (by kernel_rfl) (of_decide_eq_true (by kernel_rfl)) k0 bel lt0) (trodAll_cons_mk (shut_int Tryd.underlying3 w1) trodAll_mk0)), rfl, bel.frame _, fun h => by cases h⟩

theorem over : Rows.natPowersRow.holds Tryd.pinned (OpenSpec.ofChange Rows.natPowersSpec) :=
  OpenClaim.holds_of_wide 5 Tryd.f5 rfl rfl rfl rfl rfl rfl rfl ⟨rfl, rfl, rfl, rfl, rfl⟩ rfl rfl rfl rfl rfl (by kernel_rfl) Tryd.func5 (by kernel_rfl)
    (of_decide_eq_true (by kernel_rfl)) (by unfold Func.isWrapper; first | (rw [if_pos (by decide +kernel)]; kernel_rfl) | (rw [if_neg (by decide +kernel)]; exact ⟨rfl, rfl⟩))
    (fun os started H enc _ => lifted os started H enc)

end Go.Proofs.YtoimepmignlmkaaDoor.natPowers
namespace Go.Proofs.YtoimepmignlmkaaDoor
theorem natPowers_holds : Rows.NatPowersCardSaid :=
  Claim7.holds_tied_plain_at .later [] [.data, .data, .data] true _ false
    natPowers.over (fun _ h => by cases h) (by kernel_rfl) (fun _ h => by cases h) natPowers_row_tie rfl ⟨rfl, rfl⟩ (by kernel_rfl) rfl
    (fun f fn hf hfn => by
      obtain rfl : f = 5 := Option.some.inj ((show Tryd.prog.funcNamed "drawlot/drawlotlaw10.NatPowers" = some 5 by kernel_rfl).symm.trans hf) |>.symm
      obtain rfl : fn = Tryd.f5 := (Option.some.inj (Tryd.func5.symm.trans hfn)).symm
      exact ⟨by kernel_rfl, fun j t ht => by
        rw [Tryd.params5] at ht
        have hm : t ∈ [26, 3] := by simpa using Array.mem_of_getElem? ht
        have hall : ([26, 3].all fun u => !Tryd.prog.wantsStandIn u) = true := by kernel_rfl
        exact (show Tryd.prog.wantsStandIn t = false by simpa using List.all_eq_true.1 hall t hm)⟩)
    (by kernel_rfl)
#print axioms natPowers_holds
end Go.Proofs.YtoimepmignlmkaaDoor

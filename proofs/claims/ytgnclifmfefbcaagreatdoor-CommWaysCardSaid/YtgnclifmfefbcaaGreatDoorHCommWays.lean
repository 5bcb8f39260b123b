/-
  The ways of any members are the document's, or refused, for their reason; of up to 60 stakes.
  Conditions: the program's tables read, when the call begins, as its text lays them (the card ties that).
-/
import Derived.Test.YtgnclifmfefbcaaGreatDoorHGf
import Derived.ShutString
import Derived.Test.YtgnclifmfefbcaaGreatDoorTie
import Derived.Test.YtgnclifmfefbcaaGreatDoorCards
import Derived.SevenTiedAt
import Derived.ChangeOld
namespace Go.Proofs.YtgnclifmfefbcaaGreatDoor.commWays
open Go.ChangeShapes Go.WideShapes Go.ChangeAt Go.RowKit
set_option linter.unusedVariables false
set_option linter.unusedSimpArgs false
set_option maxRecDepth 100000

theorem own : ownKnob Tryz.prog.godebug = none := by kernel_rfl
theorem laidOut : laidOutB Tryz.prog = true := by kernel_rfl

set_option maxHeartbeats 16000000 in
theorem walk (a0 : Option Addr) (n0 c0 : Nat) (M : List Int) (tw : List Int) (a2 : Option Addr) (n c : Nat) (zs : List Int) (w : World) (hrm : Rd .i64 w w.heap.size a0 n0 M) (lc0 : n0 ≤ c0) (cm0 : c0 ≤ maxLen) (hwm : ∀ z ∈ M, (Lit.int .i64 z).wf = true) (ltw : tw.length = 2) (wtw : ∀ z ∈ tw, (Lit.int .i64 z).wf = true) (hrd : Rd .u64 w w.heap.size a2 n zs) (lc : n ≤ c) (cm : c ≤ maxLen) (hw : ∀ z ∈ zs, (Lit.int .u64 z).wf = true) (hkst : Kst w) :
    Calls Tryz.prog 6 #[.slice a0 n0 c0, .agg (tw.map (Value.int .i64)).toArray, .slice a2 n c] w fun e w' => e = .returned (.bool true) ∧ Below w.heap.size w w' := by
  have HKS := Lib.hid hkst
  have G0 : Hid (Fx [.rdb .u64 w.heap.size a2 n zs, .rdb .i64 w.heap.size a0 n0 M, .bel w] w) := Lib.hid ⟨⟨hrd, Nat.le_refl _⟩, ⟨hrm, Nat.le_refl _⟩, Below.refl _ _, trivial⟩
  have hlm := hrm.len
  have hnm : (n : Int) ≤ 9223372036854775807 := by unfold maxLen at cm; omega
  have hnm0 : (n0 : Int) ≤ 9223372036854775807 := by unfold maxLen at cm0; omega
  obtain ⟨x1, x2, rfl⟩ : ∃ x y, tw = [x, y] := by
    match tw, ltw with
    | [x, y], _ => exact ⟨x, y, rfl⟩
  have u1 := bounds_i64 (wtw x1 (by simp))
  have u2 := bounds_i64 (wtw x2 (by simp))
  obtain ⟨V2, hV2⟩ : ∃ V, ([x1, x2].map (Value.int .i64)).toArray = V := ⟨_, rfl⟩
  rw [hV2]
  by_cases hg : 60 < n
  · have hg2 : (60 : Int) < (n : Int) := by omega
    clear hrd hrm hw hg hkst wtw hwm
    go_enter Tryz.func6, Tryz.ntmps6
    go_wp2_with (first
      | (with_reducible refine at_any ?_; refine at_dst 4 rfl ?_; refine wpList_box_any rfl 47 (.tmp 1) rfl V2 rfl ?_; intro w0 hk0 hs0 hb0; have G1 := Lib.hid (Fx.newB G0.out hk0.out hb0); clear G0; clear hk0 hs0 hb0)
      | (go_at_call 8; (with_reducible refine (alive17_c _ (HKS.out.below (Fx.e3 G1.out))).mono ?_); rintro e w1 ⟨rfl, hbw1⟩; have G2 := Lib.hid (Fx.below G1.out hbw1); clear G1; clear hbw1))
    go_ret
    exact ⟨rfl, (Fx.e3 G2.out)⟩
  have hg2 : (n : Int) ≤ 60 := by omega
  by_cases hg3 : 30 < n0
  · have hg4 : (30 : Int) < (n0 : Int) := by omega
    clear hrd hrm hw hg hkst wtw hwm
    go_enter Tryz.func6, Tryz.ntmps6
    go_wp2_with (first
      | (with_reducible refine at_any ?_; refine at_dst 4 rfl ?_; refine wpList_box_any rfl 47 (.tmp 1) rfl V2 rfl ?_; intro w0 hk0 hs0 hb0; have G1 := Lib.hid (Fx.newB G0.out hk0.out hb0); clear G0; clear hk0 hs0 hb0)
      | (go_at_call 8; (with_reducible refine (alive17_c _ (HKS.out.below (Fx.e3 G1.out))).mono ?_); rintro e w1 ⟨rfl, hbw1⟩; have G2 := Lib.hid (Fx.below G1.out hbw1); clear G1; clear hbw1))
    go_ret
    exact ⟨rfl, (Fx.e3 G2.out)⟩
  have hg4 : (n0 : Int) ≤ 30 := by omega
  have hM : ∀ z ∈ M, -9223372036854775808 ≤ z ∧ z < 9223372036854775808 := fun z h => by have := bounds_i64 (hwm z h); omega
  have hz : ∀ z ∈ zs, 0 ≤ z ∧ z < 18446744073709551616 := fun z h => by have := bounds_u64 (hw z h); omega
  have HV1 := Lib.hid (fun (W : World) (g : Nat) (h : Blk W g 47 V2) => (show W.cell? ⟨g, 0, none⟩ = some (.int .i64 x1) ∧ W.cell? ⟨g, 1, none⟩ = some (.int .i64 x2) by rw [h.cell 0, h.cell 1, ← hV2]; exact ⟨rfl, rfl⟩))
  have hq := fun AM d W h1 h2 (k : Kst W) (h4 : n0 ≤ d) (h5 : d ≤ maxLen) => q17ways_c M hM AM n0 d h4 h5 x1 x2 (by omega) (by omega) (by omega) (by omega) zs hz a2 n c (by omega) W h1 h2
  have hr := fun AM d W h1 h2 => r17ways_c M hM AM n0 d (by unfold maxLen; omega) x1 x2 (by omega) (by omega) (by omega) (by omega) zs hz a2 n c (by omega) W h1 h2
  obtain ⟨rr, hrr⟩ : ∃ r, wayR M x1 x2 zs = r := ⟨_, rfl⟩
  rw [hrr] at hq hr
  obtain ⟨e, WL⟩ := rr
  unfold RetNE at hq hr
  dsimp only at hq hr
  obtain ⟨LW, hLW⟩ : ∃ x, WL.length = x := ⟨_, rfl⟩
  rw [hLW] at hq hr
  have hsn := fun A B c d (hL : LW ≤ maxLen) (W : World) (h1 : Rd .u32 W W.heap.size A LW WL) (h2 : Rd .u32 W W.heap.size B LW WL) => r10same_c WL WL A B LW LW c d hL hL W h1 h2
  rw [decide_eq_true rfl] at hsn
  have hsm := fun A B c d (W : World) (h1 : Rd .i64 W W.heap.size A n0 M) (h2 : Rd .i64 W W.heap.size B n0 M) => r17same_c M M A B n0 n0 c d (by unfold maxLen; omega) (by unfold maxLen; omega) W h1 h2
  rw [decide_eq_true rfl] at hsm
  have HW := Lib.hid hq
  have HR := Lib.hid hr
  have HSN := Lib.hid hsn
  have HSM := Lib.hid hsm
  have HLM := Lib.hid hlm
  have H5 : Hid (n0 ≤ 100000000) := Lib.hid (by omega)
  have te : (e == e) = true := by simp
  clear hq hr hsn hsm hrr hLW hrd hrm hw hwm lc cm lc0 cm0 hlm wtw hV2 u1 u2 hkst hg hg3 hM hz
  go_enter Tryz.func6, Tryz.ntmps6
  go_wp2_with (first
    | (with_reducible refine at_any ?_; refine at_dst 4 rfl ?_; refine wpList_box_any rfl 47 (.tmp 1) rfl V2 rfl ?_; intro w0 hk0 hs0 hb0; have G1 := Lib.hid (Fx.newB G0.out hk0.out hb0); clear G0; clear hk0 hs0 hb0)
    | (go_at_call 8; (with_reducible refine (alive17_c _ (HKS.out.below (Fx.e3 G1.out))).mono ?_); rintro e w1 ⟨rfl, hbw1⟩; have G2 := Lib.hid (Fx.below G1.out hbw1); clear G1; clear hbw1)
    | (with_reducible refine at_any ?_; refine at_dst 24 rfl ?_; refine wpList_own_copy8i w1 rfl (.tmp 22) (.tmp 23) rfl rfl a0 n0 c0 M rfl (Fx.r2 G2.out) H5.out ?_; intro A4 c5 w3 hbw3 hrw3 hlw3 hmw3; rw [HLM.out] at hrw3 hlw3 ⊢; have lc5 := Lib.hid hlw3.out; have mc5 := Lib.hid hmw3.out; have G6 := Lib.hid (Fx.addR G2.out hbw3 hrw3); clear G2; clear hrw3 hbw3 hlw3 hmw3; obtain ⟨hx1, hx2⟩ := HV1.out _ _ (Fx.b1 G6.out))
    | (go_at_call 19; (with_reducible refine (HW.out _ _ _ (Fx.r0 G6.out) (Fx.r2 G6.out) (HKS.out.below (Fx.e4 G6.out)) lc5.out mc5.out).mono ?_); rintro e w7 ⟨A8, c9, rfl, hlw7, hmw7, hrw7, hbw7⟩; have lc9 := Lib.hid hlw7; have mc9 := Lib.hid hmw7; have G10 := Lib.hid (Fx.addR G6.out hbw7 hrw7); clear G6; clear hrw7 hbw7 hlw7 hmw7; clear hx1 hx2; obtain ⟨hx1, hx2⟩ := HV1.out _ _ (Fx.b2 G10.out))
    | (go_at_call 20; (with_reducible refine (HR.out _ _ _ (Fx.r4 G10.out) (Fx.r3 G10.out)).mono ?_); rintro e w11 ⟨A12, c13, rfl, hlw11, hmw11, hrw11, hbw11⟩; have lc13 := Lib.hid hlw11; have mc13 := Lib.hid hmw11; have G14 := Lib.hid (Fx.addR G10.out hbw11 hrw11); clear G10; clear hrw11 hbw11 hlw11 hmw11)
    | (go_at_call 21; (with_reducible refine (HSN.out _ _ _ _ (Nat.le_trans lc9.out mc9.out) _ (Fx.r1 G14.out) (Fx.r0 G14.out)).mono ?_); rintro e w15 ⟨rfl, hbw15⟩; have G16 := Lib.hid (Fx.below G14.out hbw15); clear G14; clear hbw15)
    | (go_at_call 12; (with_reducible refine (HSM.out _ _ _ _ _ (Fx.r2 G16.out) (Fx.r5 G16.out)).mono ?_); rintro e w17 ⟨rfl, hbw17⟩; have G18 := Lib.hid (Fx.below G16.out hbw17); clear G16; clear hbw17))
  go_ret
  exact ⟨rfl, (Fx.e6 G18.out)⟩


set_option maxRecDepth 100000 in
theorem lifted (os : Os) (started : os.Started) (H : Type) (enc : TypeId × Value → H) :
    ReturnsInHanded {} Tryz.checked os 6 .any (fun w args => (Rows.commWaysSpec.pre enc Tryz.prog Tryz.f6 [] false w args ∧ laidMetH Tryz.prog laidK w) ∧ sizedMet enc Tryz.prog Tryz.f6 (OpenSpec.ofChange Rows.commWaysSpec) false w args) (Rows.commWaysSpec.post enc Tryz.prog Tryz.f6 false true false false) := by
  refine returnsInHanded_of_change_and (C := Tryz.checked) (X := fun w _ => laidMetH Tryz.prog laidK w) (fun _ _ _ hh h => h.of_heap hh) own started (by kernel_rfl) Tryz.func6
    (ChangeSpec.witness_shaped (enc := enc) (C := Tryz.checked) (os := os) (X := fun w _ => laidMetH Tryz.prog laidK w) false (World.doorLaid Tryz.prog 400 os) #[.slice none 0 0, .agg #[.int .i64 0, .int .i64 0], .slice none 0 0] 8 rfl (World.shaped_of_RefB (by kernel_rfl) (by kernel_rfl)) (by kernel_rfl) (by kernel_rfl) (by kernel_rfl) (door_met os _)) ?_
  intro W base args ds gs before hval0 hW _ _ hL _
  have hval : ∀ (j : Nat) t v, Tryz.f6.params[j]? = some t → args[j]? = some v → Value.okWide Tryz.prog W .any base t v := hval0
  have hW' := hW
  obtain ⟨p, q, hA0, hV, rfl, hfz, hnd⟩ := hW
  have hA : DataW.TrodAll enc Tryz.prog W 0 (fun _ => true) true Tryz.f6.params.toList args.toList ds p := hA0
  rw [Tryz.params6] at hA hval
  obtain ⟨v0, vs0, d0, ds0, p0, q0, hargs, rfl, rfl, h0, r0⟩ := trodAll_cons hA
  obtain ⟨v1, vs1, d1, ds1, p1, q1, rfl, rfl, rfl, h1, r1⟩ := trodAll_cons r0
  obtain ⟨v2, vs2, d2, ds2, p2, q2, rfl, rfl, rfl, h2, r2⟩ := trodAll_cons r1
  obtain ⟨rfl, rfl, rfl⟩ := trodAll_nil r2
  obtain rfl : args = #[v0, v1, v2] := by cases args; simp_all
  obtain ⟨rfl, rfl⟩ := trodVars_none hV
  obtain ⟨a0, n0, c0, rfl⟩ := okWide_slice Tryz.underlying31 (hval 0 31 v0 rfl rfl)
  have k0 := h0
  have lt0 : ∀ x ∈ p0, x.block < W.heap.size := by obtain ⟨m, hm⟩ := k0; exact DataW.trod_lt m _ _ _ hm
  obtain ⟨z0, rd0, lc0, cm0, w0⟩ := open_rd Tryz.underlying31 Tryz.underlying3 (by kernel_rfl) h0
  obtain ⟨a1, l1, rfl, rfl, rfl, w1⟩ := open_arr_ints Tryz.underlying47 Tryz.underlying3 (by kernel_rfl) (by kernel_rfl) (hval 1 47 v1 rfl rfl) h1
  obtain ⟨a2, n2, c2, rfl⟩ := okWide_slice Tryz.underlying22 (hval 2 22 v2 rfl rfl)
  have k2 := h2
  have lt2 : ∀ x ∈ p2, x.block < W.heap.size := by obtain ⟨m, hm⟩ := k2; exact DataW.trod_lt m _ _ _ hm
  obtain ⟨z2, rd2, lc2, cm2, w2⟩ := open_rd Tryz.underlying22 Tryz.underlying24 (by kernel_rfl) h2
  clear hA0 hval0
  refine (walk a0 n0 c0 z0 a1 a2 n2 c2 z2 W rd0 lc0 cm0 w0 l1 w1 rd2 lc2 cm2 w2 (kst_of_laid hL)).mono fun e W' ⟨he, bel⟩ => ?_
  subst he
  exact ⟨_, rfl, _, _, _, [], _, [], hW', trodAll_mk1 (shut_bool Tryz.underlying4 _), (trodAll_cons_mk (Below.trod laidOut (by kernel_rfl) (of_decide_eq_true (by kernel_rfl)) k0 bel lt0) (trodAll_cons_mk (shut_arr_ints Tryz.underlying47 Tryz.underlying3 (by kernel_rfl) (by kernel_rfl) l1 w1) (trodAll_cons_mk (Below.trod laidOut (by kernel_rfl) (of_decide_eq_true (by kernel_rfl)) k2 bel lt2) trodAll_mk0))), rfl, bel.frame _, fun h => by cases h⟩

theorem over : Rows.commWaysRow.holds Tryz.pinned (OpenSpec.ofChange Rows.commWaysSpec) :=
  OpenClaim.holds_of_wide 6 Tryz.f6 rfl rfl rfl rfl rfl rfl rfl ⟨rfl, rfl, rfl, rfl, rfl⟩ rfl rfl rfl rfl rfl (by kernel_rfl) Tryz.func6 (by kernel_rfl)
    (of_decide_eq_true (by kernel_rfl)) (by unfold Func.isWrapper; first | (rw [if_pos (by decide +kernel)]; kernel_rfl) | (rw [if_neg (by decide +kernel)]; exact ⟨rfl, rfl⟩))
    (fun os started H enc _ => lifted os started H enc)

end Go.Proofs.YtgnclifmfefbcaaGreatDoor.commWays
namespace Go.Proofs.YtgnclifmfefbcaaGreatDoor
theorem commWays_holds : Rows.CommWaysCardSaid :=
  Claim7.holds_tied_plain_at .later [] kindsK true _ false
    commWays.over (fun _ h => by cases h) (by kernel_rfl) (fun _ h => by cases h) commWays_row_tie rfl ⟨rfl, rfl⟩ (by kernel_rfl) rfl
    (fun f fn hf hfn => by
      obtain rfl : f = 6 := Option.some.inj ((show Tryz.prog.funcNamed "drawlot/drawlotlaw17.CommWays" = some 6 by kernel_rfl).symm.trans hf) |>.symm
      obtain rfl : fn = Tryz.f6 := (Option.some.inj (Tryz.func6.symm.trans hfn)).symm
      exact ⟨by kernel_rfl, fun j t ht => by
        rw [Tryz.params6] at ht
        have hm : t ∈ [31, 47, 22] := by simpa using Array.mem_of_getElem? ht
        have hall : ([31, 47, 22].all fun u => !Tryz.prog.wantsStandIn u) = true := by kernel_rfl
        exact (show Tryz.prog.wantsStandIn t = false by simpa using List.all_eq_true.1 hall t hm)⟩)
    (by kernel_rfl)
#print axioms commWays_holds
end Go.Proofs.YtgnclifmfefbcaaGreatDoor

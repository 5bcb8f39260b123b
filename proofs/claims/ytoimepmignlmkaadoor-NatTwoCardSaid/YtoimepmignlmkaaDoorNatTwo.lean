/-
  Any two numbers' difference, and order, and what any division tells, are the document's, or refused; of up to 260 limbs.
  Conditions: none.
-/
import Derived.Test.YtoimepmignlmkaaDoorLawN
import Derived.Test.YtoimepmignlmkaaDoorOpenA
import Derived.ShutString
import Derived.Test.YtoimepmignlmkaaDoorNatK
import Derived.Test.YtoimepmignlmkaaDoorTie
import Derived.Test.YtoimepmignlmkaaDoorCards
import Derived.SevenTiedAt
import Derived.ChangeOld
namespace Go.Proofs.YtoimepmignlmkaaDoor.natTwo
open Go.ChangeShapes Go.WideShapes Go.ChangeAt Go.RowKit
set_option linter.unusedVariables false
set_option linter.unusedSimpArgs false
set_option maxRecDepth 100000

theorem own : ownKnob Tryd.prog.godebug = none := by kernel_rfl
theorem laidOut : laidOutB Tryd.prog = true := by kernel_rfl

theorem lim_of {l : List Int} (h : ∀ z ∈ l, (Lit.int .u32 z).wf = true) : Lim l := fun z hz => by
  have := bounds_u32 (h z hz)
  omega
set_option maxHeartbeats 8000000 in
theorem walk2 (Aa : Option Addr) (ca : Nat) (za : List Int) (Ab : Option Addr) (cb : Nat) (zb : List Int) (d : Int) (w : World) (hk : PowT w) (rda : Rd .u32 w w.heap.size Aa za.length za) (lca : za.length ≤ ca) (cma : ca ≤ maxLen) (lia : Lim za) (rdb : Rd .u32 w w.heap.size Ab zb.length zb) (lcb : zb.length ≤ cb) (cmb : cb ≤ maxLen) (lib : Lim zb) (d0 : 0 ≤ d) (d1 : d < 18446744073709551616) :
    Calls Tryd.prog 4 #[.slice Aa za.length ca, .slice Ab zb.length cb, .int .u64 d] w fun e w' => e = .returned (.bool true) ∧ Below w.heap.size w w' := by
  have HPT := Lib.hid hk
  clear hk
  have G0 := Lib.hid (NFx.more (NFx.more (NFx.start w) rdb) rda)
  have La := Lib.hid lca
  have Lb := Lib.hid lcb
  have Ma := Lib.hid cma
  have Mb := Lib.hid cmb
  have LIa := Lib.hid lia
  have LIb := Lib.hid lib
  have hgr := fun A B c1 c2 Q W (h : RdNs W W.heap.size Q 2 [rowN A za c1, rowN B zb c2]) => great_c _ Q 2 2 (by simp [maxLen]) W h
  have e0 : ∀ A B c1 c2, greatN [rowN A za c1, rowN B zb c2] = greatN [rowN none za 0, rowN none zb 0] := fun _ _ _ _ => rfl
  simp only [e0] at hgr
  cases hG : greatN [rowN none za 0, rowN none zb 0] with
  | true =>
    rw [hG] at hgr
    have HGR := Lib.hid hgr
    clear hgr e0 hG rda rdb lca lcb cma cmb lia lib d0 d1
    go_enter Tryd.func4, Tryd.ntmps4
    go_wp2_with (first
      | (go_at_call 8; (with_reducible refine (alive10_c w HPT.out).mono ?_); rintro e w1 ⟨rfl, hbw1⟩; have G2 := Lib.hid (NFx.below G0.out hbw1); clear G0; clear hbw1)
      | (go_at_call 9; (with_reducible refine (HGR.out _ _ _ _ _ _ (rdNs_two (NFx.r0 G2.out) (NFx.r1 G2.out) La.out Lb.out Ma.out Mb.out LIa.out LIb.out)).mono ?_); rintro e _ ⟨rfl, rfl⟩; have G3 := Lib.hid (NFx.alloc G2.out (.cells #[.slice Aa za.length ca, .slice Ab zb.length cb] 26)); clear G2))
    go_ret
    exact ⟨rfl, (NFx.bel G3.out)⟩
  | false =>
    rw [hG] at hgr
    have HGR := Lib.hid hgr
    have ma : za.length ≤ maxLen := Nat.le_trans lca cma
    have mb : zb.length ≤ maxLen := Nat.le_trans lcb cmb
    have hqs := fun W h h' => q10sub_c za zb lia lib Aa Ab za.length zb.length ca cb ma mb W h h'
    have hrs := fun W h h' => r10sub_c za zb lia lib Aa Ab za.length zb.length ca cb ma mb W h h'
    have hqd := fun W h => q10div_c za lia Aa za.length ca ma d d0 (by omega) W h
    have hrd := fun W h => r10div_c za lia Aa za.length ca ma d d0 (by omega) W h
    have hqc := fun W h h' => q10cmp_c za zb lia lib Aa Ab za.length zb.length ca cb ma mb W h h'
    have hrc := fun W h h' => r10cmp_c za zb lia lib Aa Ab za.length zb.length ca cb ma mb W h h'
    have hqe := fun W h h' => q10same_c za zb Aa Ab za.length zb.length ca cb ma mb W h h'
    have hre := fun W h h' => r10same_c za zb Aa Ab za.length zb.length ca cb ma mb W h h'
    have hqr := fun W h => q10right_c za Aa za.length ca ma W h
    have hrr := fun W h => r10right_c za Aa za.length ca ma W h
    have hqo := fun W => q10of_c d d0 (by omega) W
    have hro := fun W => r10of_c d d0 (by omega) W
    obtain ⟨X, hX⟩ : ∃ P, subR za zb = P := ⟨_, rfl⟩
    obtain ⟨Q, hQ⟩ : ∃ P, natL (divV za d) = P := ⟨_, rfl⟩
    obtain ⟨L, hL⟩ : ∃ P, divL za d = P := ⟨_, rfl⟩
    obtain ⟨E, hE⟩ : ∃ P, divE za d = P := ⟨_, rfl⟩
    obtain ⟨C, hC⟩ : ∃ P, cmpR za zb = P := ⟨_, rfl⟩
    obtain ⟨D, hD⟩ : ∃ P, decide (za = zb) = P := ⟨_, rfl⟩
    obtain ⟨R, hR⟩ : ∃ P, rightN za = P := ⟨_, rfl⟩
    obtain ⟨N, hN⟩ : ∃ P, natL d.toNat = P := ⟨_, rfl⟩
    rw [hX] at hqs hrs
    rw [hQ, hL, hE] at hqd hrd
    rw [hC] at hqc hrc
    rw [hD] at hqe hre
    rw [hR] at hqr hrr
    rw [hN] at hqo hro
    obtain ⟨xe, X⟩ := X
    have HSX : Hid (∀ A B c1 c2 W, Rd .u32 W W.heap.size A X.length X → Rd .u32 W W.heap.size B X.length X → X.length ≤ maxLen → Calls Tryd.prog 14 #[.slice A X.length c1, .slice B X.length c2] W fun e w' => e = .returned (.bool true) ∧ Below W.heap.size W w') := Lib.hid (fun A B c1 c2 W h h' hm => by
      have h2 := r10same_c X X A B _ _ c1 c2 hm hm W h h'
      rw [decide_eq_true rfl] at h2
      exact h2)
    have HSQ : Hid (∀ A B c1 c2 W, Rd .u32 W W.heap.size A Q.length Q → Rd .u32 W W.heap.size B Q.length Q → Q.length ≤ maxLen → Calls Tryd.prog 14 #[.slice A Q.length c1, .slice B Q.length c2] W fun e w' => e = .returned (.bool true) ∧ Below W.heap.size W w') := Lib.hid (fun A B c1 c2 W h h' hm => by
      have h2 := r10same_c Q Q A B _ _ c1 c2 hm hm W h h'
      rw [decide_eq_true rfl] at h2
      exact h2)
    have HSO : Hid (∀ A B c1 c2 W, Rd .u32 W W.heap.size A N.length N → Rd .u32 W W.heap.size B N.length N → N.length ≤ maxLen → Calls Tryd.prog 14 #[.slice A N.length c1, .slice B N.length c2] W fun e w' => e = .returned (.bool true) ∧ Below W.heap.size W w') := Lib.hid (fun A B c1 c2 W h h' hm => by
      have h2 := r10same_c N N A B _ _ c1 c2 hm hm W h h'
      rw [decide_eq_true rfl] at h2
      exact h2)
    have HQS := Lib.hid hqs
    have HRS := Lib.hid hrs
    have HQD := Lib.hid hqd
    have HRD := Lib.hid hrd
    have HQC := Lib.hid hqc
    have HRC := Lib.hid hrc
    have HQE := Lib.hid hqe
    have HRE := Lib.hid hre
    have HQR := Lib.hid hqr
    have HRR := Lib.hid hrr
    have HQO := Lib.hid hqo
    have HRO := Lib.hid hro
    clear hqs hrs hqd hrd hqc hrc hqe hre hqr hrr hqo hro hX hQ hL hE hC hD hR hN ma mb hgr e0 hG rda rdb lca lcb cma cmb lia lib d0 d1
    go_enter Tryd.func4, Tryd.ntmps4
    go_wp2_with (first
      | (go_at_call 8; (with_reducible refine (alive10_c w HPT.out).mono ?_); rintro e w1 ⟨rfl, hbw1⟩; have G2 := Lib.hid (NFx.below G0.out hbw1); clear G0; clear hbw1)
      | (go_at_call 9; (with_reducible refine (HGR.out _ _ _ _ _ _ (rdNs_two (NFx.r0 G2.out) (NFx.r1 G2.out) La.out Lb.out Ma.out Mb.out LIa.out LIb.out)).mono ?_); rintro e _ ⟨rfl, rfl⟩; have G3 := Lib.hid (NFx.alloc G2.out (.cells #[.slice Aa za.length ca, .slice Ab zb.length cb] 26)); clear G2)
      | (go_at_call 15; (with_reducible refine (HQS.out _ (NFx.r0 G3.out) (NFx.r1 G3.out)).mono ?_); rintro e w4 ⟨Ax, cx, rfl, hlw4, hmw4, hrw4, hbw4⟩; have Lx := Lib.hid hlw4; have Mx := Lib.hid hmw4; have G5 := Lib.hid (NFx.add G3.out hbw4 hrw4); clear G3; clear hrw4 hbw4 hlw4 hmw4)
      | (go_at_call 16; (with_reducible refine (HRS.out _ (NFx.r1 G5.out) (NFx.r2 G5.out)).mono ?_); rintro e w6 ⟨Ay, cy, rfl, hlw6, hmw6, hrw6, hbw6⟩; have Ly := Lib.hid hlw6; have My := Lib.hid hmw6; have G7 := Lib.hid (NFx.add G5.out hbw6 hrw6); clear G5; clear hrw6 hbw6 hlw6 hmw6)
      | (go_at_call 17; (with_reducible refine (HQD.out _ (NFx.r2 G7.out)).mono ?_); rintro e w8 ⟨Aq, cq, rfl, hlw8, hmw8, hrw8, hbw8⟩; have Lq := Lib.hid hlw8; have Mq := Lib.hid hmw8; have G9 := Lib.hid (NFx.add G7.out hbw8 hrw8); clear G7; clear hrw8 hbw8 hlw8 hmw8)
      | (go_at_call 18; (with_reducible refine (HRD.out _ (NFx.r3 G9.out)).mono ?_); rintro e w10 ⟨Ap, cp, rfl, hlw10, hmw10, hrw10, hbw10⟩; have Lp := Lib.hid hlw10; have Mp := Lib.hid hmw10; have G11 := Lib.hid (NFx.add G9.out hbw10 hrw10); clear G9; clear hrw10 hbw10 hlw10 hmw10)
      | (go_at_call 14; (with_reducible refine (HSX.out _ _ _ _ _ (NFx.r3 G11.out) (NFx.r2 G11.out) (Nat.le_trans Lx.out Mx.out)).mono ?_); rintro e w12 ⟨rfl, hbw12⟩; have G13 := Lib.hid (NFx.below G11.out hbw12); clear G11; clear hbw12)
      | (go_at_call 14; (with_reducible refine (HSQ.out _ _ _ _ _ (NFx.r1 G13.out) (NFx.r0 G13.out) (Nat.le_trans Lq.out Mq.out)).mono ?_); rintro e w14 ⟨rfl, hbw14⟩; have G15 := Lib.hid (NFx.below G13.out hbw14); clear G13; clear hbw14)
      | (go_at_call 19; (with_reducible refine (HQC.out _ (NFx.r4 G15.out) (NFx.r5 G15.out)).mono ?_); rintro e w16 ⟨rfl, hbw16⟩; have G17 := Lib.hid (NFx.below G15.out hbw16); clear G15; clear hbw16)
      | (go_at_call 20; (with_reducible refine (HRC.out _ (NFx.r4 G17.out) (NFx.r5 G17.out)).mono ?_); rintro e w18 ⟨rfl, hbw18⟩; have G19 := Lib.hid (NFx.below G17.out hbw18); clear G17; clear hbw18)
      | (go_at_call 21; (with_reducible refine (HQE.out _ (NFx.r4 G19.out) (NFx.r5 G19.out)).mono ?_); rintro e w20 ⟨rfl, hbw20⟩; have G21 := Lib.hid (NFx.below G19.out hbw20); clear G19; clear hbw20)
      | (go_at_call 14; (with_reducible refine (HRE.out _ (NFx.r4 G21.out) (NFx.r5 G21.out)).mono ?_); rintro e w22 ⟨rfl, hbw22⟩; have G23 := Lib.hid (NFx.below G21.out hbw22); clear G21; clear hbw22)
      | (go_at_call 22; (with_reducible refine (HQR.out _ (NFx.r4 G23.out)).mono ?_); rintro e _ ⟨rfl, rfl⟩)
      | (go_at_call 23; (with_reducible refine (HRR.out _ (NFx.r4 G23.out)).mono ?_); rintro e _ ⟨rfl, rfl⟩)
      | (go_at_call 24; (with_reducible refine (HQO.out _).mono ?_); rintro e w24 ⟨Am, cm, rfl, hlw24, hmw24, hrw24, hbw24⟩; have Lm := Lib.hid hlw24; have Mm := Lib.hid hmw24; have G25 := Lib.hid (NFx.add G23.out hbw24 hrw24); clear G23; clear hrw24 hbw24 hlw24 hmw24)
      | (go_at_call 25; (with_reducible refine (HRO.out _).mono ?_); rintro e w26 ⟨Ao, co, rfl, hlw26, hmw26, hrw26, hbw26⟩; have Lo := Lib.hid hlw26; have Mo := Lib.hid hmw26; have G27 := Lib.hid (NFx.add G25.out hbw26 hrw26); clear G25; clear hrw26 hbw26 hlw26 hmw26)
      | (go_at_call 14; (with_reducible refine (HSO.out _ _ _ _ _ (NFx.r1 G27.out) (NFx.r0 G27.out) (Nat.le_trans Lm.out Mm.out)).mono ?_); rintro e w28 ⟨rfl, hbw28⟩; have G29 := Lib.hid (NFx.below G27.out hbw28); clear G27; clear hbw28))
    go_ret
    exact ⟨rfl, (NFx.bel G29.out)⟩
theorem walk (a0 : Option Addr) (n0 c0 : Nat) (z0 : List Int) (a1 : Option Addr) (n1 c1 : Nat) (z1 : List Int) (a2 : Int) (w : World) (hk : PowT w) (rd0 : Rd .u32 w w.heap.size a0 n0 z0) (lc0 : n0 ≤ c0) (cm0 : c0 ≤ maxLen) (w0 : ∀ z ∈ z0, (Lit.int .u32 z).wf = true) (rd1 : Rd .u32 w w.heap.size a1 n1 z1) (lc1 : n1 ≤ c1) (cm1 : c1 ≤ maxLen) (w1 : ∀ z ∈ z1, (Lit.int .u32 z).wf = true) (w2 : (Lit.int .u64 a2).wf = true) :
    Calls Tryd.prog 4 #[.slice a0 n0 c0, .slice a1 n1 c1, .int .u64 a2] w fun e w' => e = .returned (.bool true) ∧ Below w.heap.size w w' := by
  have HPT := Lib.hid hk
  clear hk
  obtain rfl := rd0.len
  obtain rfl := rd1.len
  have hd := bounds_u64 w2
  exact walk2 a0 c0 z0 a1 c1 z1 a2 w HPT.out rd0 lc0 cm0 (lim_of w0) rd1 lc1 cm1 (lim_of w1) (by omega) (by omega)


set_option maxRecDepth 100000 in
theorem lifted (os : Os) (started : os.Started) (H : Type) (enc : TypeId × Value → H) :
    ReturnsInHanded {} Tryd.checked os 4 .any (fun w args => (Rows.natTwoSpec.pre enc Tryd.prog Tryd.f4 [] false w args ∧ laidMetH Tryd.prog laidP w) ∧ sizedMet enc Tryd.prog Tryd.f4 (OpenSpec.ofChange Rows.natTwoSpec) false w args) (Rows.natTwoSpec.post enc Tryd.prog Tryd.f4 false true false false) := by
  refine returnsInHanded_of_change_and (C := Tryd.checked) (X := fun w _ => laidMetH Tryd.prog laidP w) (fun _ _ _ hh h => h.of_heap hh) own started (by kernel_rfl) Tryd.func4
    (ChangeSpec.witness_shaped (enc := enc) (C := Tryd.checked) (os := os) (X := fun w _ => laidMetH Tryd.prog laidP w) false (World.doorLaid Tryd.prog 400 os) #[.slice none 0 0, .slice none 0 0, .int .u64 0] 8 rfl (World.shaped_of_RefB (by kernel_rfl) (by kernel_rfl)) (by kernel_rfl) (by kernel_rfl) (by kernel_rfl) (door_metP os _)) ?_
  intro W base args ds gs before hval0 hW _ _ hL _
  have hval : ∀ (j : Nat) t v, Tryd.f4.params[j]? = some t → args[j]? = some v → Value.okWide Tryd.prog W .any base t v := hval0
  have hW' := hW
  obtain ⟨p, q, hA0, hV, rfl, hfz, hnd⟩ := hW
  have hA : DataW.TrodAll enc Tryd.prog W 0 (fun _ => true) true Tryd.f4.params.toList args.toList ds p := hA0
  rw [Tryd.params4] at hA hval
  obtain ⟨v0, vs0, d0, ds0, p0, q0, hargs, rfl, rfl, h0, r0⟩ := trodAll_cons hA
  obtain ⟨v1, vs1, d1, ds1, p1, q1, rfl, rfl, rfl, h1, r1⟩ := trodAll_cons r0
  obtain ⟨v2, vs2, d2, ds2, p2, q2, rfl, rfl, rfl, h2, r2⟩ := trodAll_cons r1
  obtain ⟨rfl, rfl, rfl⟩ := trodAll_nil r2
  obtain rfl : args = #[v0, v1, v2] := by cases args; simp_all
  obtain ⟨rfl, rfl⟩ := trodVars_none hV
  obtain ⟨a0, n0, c0, rfl⟩ := okWide_slice Tryd.underlying26 (hval 0 26 v0 rfl rfl)
  have k0 := h0
  have lt0 : ∀ x ∈ p0, x.block < W.heap.size := by obtain ⟨m, hm⟩ := k0; exact DataW.trod_lt m _ _ _ hm
  obtain ⟨z0, rd0, lc0, cm0, w0⟩ := open_rd Tryd.underlying26 Tryd.underlying45 (by kernel_rfl) h0
  obtain ⟨a1, n1, c1, rfl⟩ := okWide_slice Tryd.underlying26 (hval 1 26 v1 rfl rfl)
  have k1 := h1
  have lt1 : ∀ x ∈ p1, x.block < W.heap.size := by obtain ⟨m, hm⟩ := k1; exact DataW.trod_lt m _ _ _ hm
  obtain ⟨z1, rd1, lc1, cm1, w1⟩ := open_rd Tryd.underlying26 Tryd.underlying45 (by kernel_rfl) h1
  obtain ⟨a2, rfl, rfl, rfl, w2⟩ := open_int Tryd.underlying32 (hval 2 32 v2 rfl rfl) h2
  clear hA0 hval0
  refine (walk a0 n0 c0 z0 a1 n1 c1 z1 a2 W (powT_of_laid hL) rd0 lc0 cm0 w0 rd1 lc1 cm1 w1 w2).mono fun e W' ⟨he, bel⟩ => ?_
  subst he
  exact ⟨_, rfl, _, _, _, [], _, [], hW', trodAll_mk1 (shut_bool Tryd.underlying4 _), (trodAll_cons_mk (Below.trod laidOut (by kernel_rfl) (of_decide_eq_true (by kernel_rfl)) k0 bel lt0) (trodAll_cons_mk (Below.trod laidOut (by kernel_rfl) (of_decide_eq_true (by kernel_rfl)) k1 bel lt1) (trodAll_cons_mk (shut_int Tryd.underlying32 w2) trodAll_mk0))), rfl, bel.frame _, fun h => by cases h⟩

theorem over : Rows.natTwoRow.holds Tryd.pinned (OpenSpec.ofChange Rows.natTwoSpec) :=
  OpenClaim.holds_of_wide 4 Tryd.f4 rfl rfl rfl rfl rfl rfl rfl ⟨rfl, rfl, rfl, rfl, rfl⟩ rfl rfl rfl rfl rfl (by kernel_rfl) Tryd.func4 (by kernel_rfl)
    (of_decide_eq_true (by kernel_rfl)) (by unfold Func.isWrapper; first | (rw [if_pos (by decide +kernel)]; kernel_rfl) | (rw [if_neg (by decide +kernel)]; exact ⟨rfl, rfl⟩))
    (fun os started H enc _ => lifted os started H enc)

end Go.Proofs.YtoimepmignlmkaaDoor.natTwo
namespace Go.Proofs.YtoimepmignlmkaaDoor
theorem natTwo_holds : Rows.NatTwoCardSaid :=
  Claim7.holds_tied_plain_at .later [] [.data, .data, .data] true _ false
    natTwo.over (fun _ h => by cases h) (by kernel_rfl) (fun _ h => by cases h) natTwo_row_tie rfl ⟨rfl, rfl⟩ (by kernel_rfl) rfl
    (fun f fn hf hfn => by
      obtain rfl : f = 4 := Option.some.inj ((show Tryd.prog.funcNamed "drawlot/drawlotlaw10.NatTwo" = some 4 by kernel_rfl).symm.trans hf) |>.symm
      obtain rfl : fn = Tryd.f4 := (Option.some.inj (Tryd.func4.symm.trans hfn)).symm
      exact ⟨by kernel_rfl, fun j t ht => by
        rw [Tryd.params4] at ht
        have hm : t ∈ [26, 26, 32] := by simpa using Array.mem_of_getElem? ht
        have hall : ([26, 26, 32].all fun u => !Tryd.prog.wantsStandIn u) = true := by kernel_rfl
        exact (show Tryd.prog.wantsStandIn t = false by simpa using List.all_eq_true.1 hall t hm)⟩)
    (by kernel_rfl)
#print axioms natTwo_holds
end Go.Proofs.YtoimepmignlmkaaDoor

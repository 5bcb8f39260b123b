/-
  Any block's plan, and any words' block, are the document's.
  Conditions: none.
-/
import Derived.Test.YthipfbbjdghldaaLawD
import Derived.Deep.RegionHeld3
import Derived.ShutString
import Derived.ChangeOld
namespace Go.Proofs.Ythipfbbjdghldaa.planOf
open Go.ChangeShapes Go.WideShapes Go.ChangeAt Go.RowKit
set_option linter.unusedVariables false

theorem own : ownKnob Try.prog.godebug = none := by kernel_rfl
theorem laidOut : laidOutB Try.prog = true := by kernel_rfl

set_option maxHeartbeats 1000000 in
theorem of_walk (b l : List Int) (w : World) (hbl : b.length = 64) (hb : ∀ z ∈ b, 0 ≤ z ∧ z < 256) (hll : l.length = 16) (hl : ∀ z ∈ l, 0 ≤ z ∧ z < 4294967296) :
    Calls Try.prog 4 #[.agg (intsA .u8 b), .agg (intsA .u32 l)] w fun e w' => e = .returned (.bool true) ∧ Below w.heap.size w w' := by
  go_enter Try.func4, Try.ntmps4
  go_wp2_with (first
    | (with_reducible refine at_any ?_; refine at_dst 2 rfl ?_; refine wpList_box_ints rfl 26 (.tmp 0) rfl .u8 b rfl ?_; intro w1 hk1 hs1 hb1)
    | (with_reducible refine at_any ?_; refine at_dst 3 rfl ?_; refine wpList_box_ints rfl 27 (.tmp 1) rfl .u32 l rfl ?_; intro w2 hk2 hs2 hb2)
    | (go_at_call 7; (with_reducible refine (alive3_c _).mono ?_); rintro e w3 ⟨rfl, hb3⟩))
  have HK : K2 w w.heap.size w1.heap.size b l w3 := by
    have q1 := hs1.out
    have q2 := hs2.out
    exact ⟨(hk1.out.below hb2 (by omega)).below hb3 (by omega), hk2.out.below hb3 (by omega), hb1.trans ((hb2.mono (by omega)).trans (hb3.mono (by omega)))⟩
  obtain ⟨g1, hg1⟩ : ∃ g, w.heap.size = g := ⟨_, rfl⟩
  obtain ⟨g2, hg2⟩ : ∃ g, w1.heap.size = g := ⟨_, rfl⟩
  have HW := Lib.hid hg1
  rw [hg1, hg2] at HK
  rw [hg1, hg2]
  clear hk1 hs1 hb1 hk2 hs2 hb2 hb3 hg2
  have P1 := fun W => pof_c b hbl hb W
  have R1 := fun W => rof_c b hbl hb W
  have P2 := fun W => pback_c l hll hl W
  have R2 := fun W => rback_c l hll hl W
  have E1 := fun W => eq_planB (planL b) (planL_len b) W
  have E2 := fun W => eq_blockB (backL l) (backL_len l) W
  refine wp_region_held_drew (S := K2 w g1 g2 b l) (by kernel_rfl) HK.drew (fun hH => ?_)
  refine held_load 0 rfl (by kernel_rfl) (by kernel_rfl) (by kernel_rfl) (fun _ _ _ _ h => h) (by rfl) 26 (.tmp 2) rfl g1 (by kernel_rfl) 26 .u8 b (fun _ h => h.1) _ Try.underlying26 rfl (by rw [hbl]; exact size_b64) hH ?_
  refine held_load 2 rfl (by kernel_rfl) (by kernel_rfl) (by kernel_rfl) (fun _ _ _ _ h => h) (by rfl) 26 (.tmp 2) rfl g1 (by kernel_rfl) 26 .u8 b (fun _ h => h.1) _ Try.underlying26 rfl (by rw [hbl]; exact size_b64) hH ?_
  refine wpAnyH_ready (rs := [1]) (by kernel_rfl) (by decide) ?_
  refine AllReadyH.cons rfl (fun K hK => ?_) AllReadyH.nil
  go_simp
  refine (P1 _).mono ?_
  rintro e w4 ⟨rfl, hbw4⟩
  refine hK.out _ _ (hH.below hbw4) (fun h4 => ?_)
  clear hK K
  refine wpAnyH_ready (rs := [3]) (by kernel_rfl) (by decide) ?_
  refine AllReadyH.cons rfl (fun K hK => ?_) AllReadyH.nil
  go_simp
  refine (R1 _).mono ?_
  rintro e w5 ⟨rfl, hbw5⟩
  refine hK.out _ _ (h4.below hbw5) (fun h5 => ?_)
  clear hK K
  refine held_val 4 rfl (by kernel_rfl) (by kernel_rfl) (by kernel_rfl) (fun _ _ _ _ h => h) (by rfl) (.bool true) (fun W _ => by go_simp) h5 ?_
  refine held_val 5 rfl (by kernel_rfl) (by kernel_rfl) (by kernel_rfl) (fun _ _ _ _ h => h) (by rfl) (.bool true) (fun W _ => by go_simp) h5 ?_
  refine held_load 6 rfl (by kernel_rfl) (by kernel_rfl) (by kernel_rfl) (fun _ _ _ _ h => h) (by rfl) 27 (.tmp 3) rfl g2 (by kernel_rfl) 27 .u32 l (fun _ h => h.2.1) _ Try.underlying27 rfl (by rw [hll]; exact size_w16) h5 ?_
  refine held_load 8 rfl (by kernel_rfl) (by kernel_rfl) (by kernel_rfl) (fun _ _ _ _ h => h) (by rfl) 27 (.tmp 3) rfl g2 (by kernel_rfl) 27 .u32 l (fun _ h => h.2.1) _ Try.underlying27 rfl (by rw [hll]; exact size_w16) h5 ?_
  refine wpAnyH_ready (rs := [7]) (by kernel_rfl) (by decide) ?_
  refine AllReadyH.cons rfl (fun K hK => ?_) AllReadyH.nil
  go_simp
  refine (P2 _).mono ?_
  rintro e w6 ⟨rfl, hbw6⟩
  refine hK.out _ _ (h5.below hbw6) (fun h6 => ?_)
  clear hK K
  refine wpAnyH_ready (rs := [9]) (by kernel_rfl) (by decide) ?_
  refine AllReadyH.cons rfl (fun K hK => ?_) AllReadyH.nil
  go_simp
  refine (R2 _).mono ?_
  rintro e w7 ⟨rfl, hbw7⟩
  refine hK.out _ _ (h6.below hbw7) (fun h7 => ?_)
  clear hK K
  refine held_val 10 rfl (by kernel_rfl) (by kernel_rfl) (by kernel_rfl) (fun _ _ _ _ h => h) (by rfl) (.bool true) (fun W _ => by go_simp) h7 ?_
  refine held_val 11 rfl (by kernel_rfl) (by kernel_rfl) (by kernel_rfl) (fun _ _ _ _ h => h) (by rfl) (.bool true) (fun W _ => by go_simp) h7 ?_
  refine held_val 12 rfl (by kernel_rfl) (by kernel_rfl) (by kernel_rfl) (fun _ _ _ _ h => h) (by rfl) (.bool true) (fun W _ => by go_simp) h7 ?_
  refine wpAnyH_done (by kernel_rfl) ?_ _
  go_wp2
  go_ret
  refine ⟨rfl, ?_⟩
  first | exact h7.2.2 | (rw [← HW.out]; exact h7.2.2)
theorem walk (a0 : List Int) (a1 : List Int) (w : World) (l0 : a0.length = 64) (w0 : ∀ z ∈ a0, (Lit.int .u8 z).wf = true) (l1 : a1.length = 16) (w1 : ∀ z ∈ a1, (Lit.int .u32 z).wf = true) :
    Calls Try.prog 4 #[.agg (a0.map (Value.int .u8)).toArray, .agg (a1.map (Value.int .u32)).toArray] w fun e w' => e = .returned (.bool true) ∧ Below w.heap.size w w' :=
  of_walk a0 a1 w l0 (u8_in w0) l1 (u32_in w1)


set_option maxRecDepth 100000 in
theorem lifted (os : Os) (started : os.Started) (H : Type) (enc : TypeId × Value → H) :
    ReturnsInHanded {} Try.checked os 4 .any (Rows.planOfSpec.pre6 enc Try.prog Try.f4 Rows.planOfRow.domain false) (Rows.planOfSpec.post enc Try.prog Try.f4 false true false false) := by
  refine returnsInHanded_of_change (C := Try.checked) own started (by kernel_rfl) Try.func4
    (ChangeSpec.witness6 (enc := enc) (C := Try.checked) false ⟨#[], #[.agg #[.int .u8 0, .int .u8 0, .int .u8 0, .int .u8 0, .int .u8 0, .int .u8 0, .int .u8 0, .int .u8 0, .int .u8 0, .int .u8 0, .int .u8 0, .int .u8 0, .int .u8 0, .int .u8 0, .int .u8 0, .int .u8 0, .int .u8 0, .int .u8 0, .int .u8 0, .int .u8 0, .int .u8 0, .int .u8 0, .int .u8 0, .int .u8 0, .int .u8 0, .int .u8 0, .int .u8 0, .int .u8 0, .int .u8 0, .int .u8 0, .int .u8 0, .int .u8 0, .int .u8 0, .int .u8 0, .int .u8 0, .int .u8 0, .int .u8 0, .int .u8 0, .int .u8 0, .int .u8 0, .int .u8 0, .int .u8 0, .int .u8 0, .int .u8 0, .int .u8 0, .int .u8 0, .int .u8 0, .int .u8 0, .int .u8 0, .int .u8 0, .int .u8 0, .int .u8 0, .int .u8 0, .int .u8 0, .int .u8 0, .int .u8 0, .int .u8 0, .int .u8 0, .int .u8 0, .int .u8 0, .int .u8 0, .int .u8 0, .int .u8 0, .int .u8 0], .agg #[.int .u32 0, .int .u32 0, .int .u32 0, .int .u32 0, .int .u32 0, .int .u32 0, .int .u32 0, .int .u32 0, .int .u32 0, .int .u32 0, .int .u32 0, .int .u32 0, .int .u32 0, .int .u32 0, .int .u32 0, .int .u32 0]], []⟩ 8 (by kernel_rfl) (by kernel_rfl) (by kernel_rfl) (by kernel_rfl)) ?_
  intro W base args ds gs before hval0 hW hcnd _
  have hval : ∀ (j : Nat) t v, Try.f4.params[j]? = some t → args[j]? = some v → Value.okWide Try.prog W .any base t v := hval0
  have hW' := hW
  obtain ⟨p, q, hA0, hV, rfl, hfz, hnd⟩ := hW
  have hA : DataW.TrodAll enc Try.prog W 0 (fun _ => true) true Try.f4.params.toList args.toList ds p := hA0
  rw [Try.params4] at hA hval
  obtain ⟨v0, vs0, d0, ds0, p0, q0, hargs, rfl, rfl, h0, r0⟩ := trodAll_cons hA
  obtain ⟨v1, vs1, d1, ds1, p1, q1, rfl, rfl, rfl, h1, r1⟩ := trodAll_cons r0
  obtain ⟨rfl, rfl, rfl⟩ := trodAll_nil r1
  obtain rfl : args = #[v0, v1] := by cases args; simp_all
  obtain ⟨rfl, rfl⟩ := trodVars_none hV
  obtain ⟨a0, l0, rfl, rfl, rfl, w0⟩ := open_arr_ints Try.underlying26 Try.underlying5 (by kernel_rfl) (by kernel_rfl) (hval 0 26 v0 rfl rfl) h0
  obtain ⟨a1, l1, rfl, rfl, rfl, w1⟩ := open_arr_ints Try.underlying27 Try.underlying22 (by kernel_rfl) (by kernel_rfl) (hval 1 27 v1 rfl rfl) h1
  clear hA0 hval0
  refine (walk a0 a1 W l0 w0 l1 w1).mono fun e W' ⟨he, bel⟩ => ?_
  subst he
  exact ⟨_, rfl, _, _, _, [], _, [], hW', trodAll_mk1 (shut_bool Try.underlying4 _), (trodAll_cons_mk (shut_arr_ints Try.underlying26 Try.underlying5 (by kernel_rfl) (by kernel_rfl) l0 w0) (trodAll_cons_mk (shut_arr_ints Try.underlying27 Try.underlying22 (by kernel_rfl) (by kernel_rfl) l1 w1) trodAll_mk0)), rfl, bel.frame _, fun h => by cases h⟩

theorem over : Rows.planOfRow.holds Try.pinned (OpenSpec.ofChange Rows.planOfSpec) :=
  OpenClaim.holds_of_wide 4 Try.f4 rfl rfl rfl rfl rfl rfl rfl ⟨rfl, rfl, rfl, rfl, rfl⟩ rfl rfl rfl rfl rfl (by kernel_rfl) Try.func4 (by kernel_rfl)
    (of_decide_eq_true (by kernel_rfl)) (by unfold Func.isWrapper; first | (rw [if_pos (by decide +kernel)]; kernel_rfl) | (rw [if_neg (by decide +kernel)]; exact ⟨rfl, rfl⟩))
    (fun os started H enc _ => lifted os started H enc)

end Go.Proofs.Ythipfbbjdghldaa.planOf
namespace Go.Proofs.Ythipfbbjdghldaa
theorem planOf_holds : Rows.PlanOfSaid := planOf.over
#print axioms planOf_holds
end Go.Proofs.Ythipfbbjdghldaa

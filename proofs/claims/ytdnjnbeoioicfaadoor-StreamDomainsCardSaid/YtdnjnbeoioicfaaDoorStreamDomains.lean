/-
  Unlike kinds and indexes are unlike domains, which come back.
  Conditions: the program's table of constants reads, when the call begins, as its text lays it (the card ties that).
-/
import Derived.Test.YtdnjnbeoioicfaaDoorLawI
import Derived.ShutString
import Derived.Test.YtdnjnbeoioicfaaDoorCompK
import Derived.Test.YtdnjnbeoioicfaaDoorTie
import Derived.Test.YtdnjnbeoioicfaaDoorCards
import Derived.SevenTiedAt
import Derived.ChangeOld
namespace Go.Proofs.YtdnjnbeoioicfaaDoor.streamDomains
open Go.ChangeShapes Go.WideShapes Go.ChangeAt Go.RowKit
set_option linter.unusedVariables false
set_option linter.unusedSimpArgs false

theorem own : ownKnob Tryd.prog.godebug = none := by kernel_rfl
theorem laidOut : laidOutB Tryd.prog = true := by kernel_rfl

theorem info_w2 : (Tryd.prog.info? 32).map (fun i => (i.zero, i.size, i.bytes)) = some (some (.int .u32 0), 1, 4) := by kernel_rfl
theorem size_w2 : (Tryd.prog.info? 33).map (·.size) = some 2 := by kernel_rfl
theorem eq_w2 (zs ys : List Int) (hz : zs.length = 2) (hy : ys.length = 2) (w : World) : (Op.equalIn 10000 33 (.agg (intsA .u32 zs)) (.agg (intsA .u32 ys))).run Tryd.prog w = .ok (decide (zs = ys)) w := by
  obtain ⟨i0, hi, _, hs, _⟩ := info_parts info_w2
  exact run_equal_ints Tryd.underlying33 Tryd.underlying32 hi hs (by kernel_rfl) zs ys hz hy w
set_option maxHeartbeats 4000000 in
theorem of_walk (a b : List Int) (x0 x1 y0 y1 : Int) (ha : a = [x0, x1]) (hb : b = [y0, y1]) (x00 : 0 ≤ x0) (x01 : x0 < 4294967296) (x10 : 0 ≤ x1) (x11 : x1 < 4294967296) (y00 : 0 ≤ y0) (y01 : y0 < 4294967296) (y10 : 0 ≤ y1) (y11 : y1 < 4294967296) (w : World) (hkst : Kst w) :
    Calls Tryd.prog 5 #[.agg (intsA .u32 a), .agg (intsA .u32 b)] w fun e w' => e = .returned (.bool true) ∧ Below w.heap.size w w' := by
  have hx := fun W => (qdom_c x0 x1 x00 x01 x10 x11 W).mono fun e w' (h : _ ∧ _) => And.intro h.1 h.2.symm
  have hy := fun W => (qdom_c y0 y1 y00 y01 y10 y11 W).mono fun e w' (h : _ ∧ _) => And.intro h.1 h.2.symm
  have hr := fun W => (rdom_c x0 x1 x00 x01 x10 x11 W).mono fun e w' (h : _ ∧ _) => And.intro h.1 h.2.symm
  have hsp := fun W => qsplit_c (x0 * 4294967296 + x1) (by omega) (by omega) W
  rw [show (x0 * 4294967296 + x1) / 4294967296 = x0 by omega, show (x0 * 4294967296 + x1) % 4294967296 = x1 by omega] at hsp
  have key : a = b ↔ x0 * 4294967296 + x1 = y0 * 4294967296 + y1 := by
    rw [ha, hb]
    constructor
    · intro h
      injection h with h1 h2
      injection h2 with h2 _
      rw [h1, h2]
    · intro h
      rw [show x0 = y0 by omega, show x1 = y1 by omega]
  have hal : a.length = 2 := by rw [ha]; rfl
  have hbl : b.length = 2 := by rw [hb]; rfl
  have ca : ∀ (W : World) g, BlkI W g 33 .u32 a → W.cell? ⟨g, 0, none⟩ = some (.int .u32 x0) ∧ W.cell? ⟨g, 1, none⟩ = some (.int .u32 x1) := fun W g h => ⟨by rw [h.cell (by omega), ha]; rfl, by rw [h.cell (by omega), ha]; rfl⟩
  have cb : ∀ (W : World) g, BlkI W g 33 .u32 b → W.cell? ⟨g, 0, none⟩ = some (.int .u32 y0) ∧ W.cell? ⟨g, 1, none⟩ = some (.int .u32 y1) := fun W g h => ⟨by rw [h.cell (by omega), hb]; rfl, by rw [h.cell (by omega), hb]; rfl⟩
  obtain ⟨X, hX⟩ : ∃ X, x0 * 4294967296 + x1 = X := ⟨_, rfl⟩
  obtain ⟨Y, hY⟩ : ∃ Y, y0 * 4294967296 + y1 = Y := ⟨_, rfl⟩
  rw [hX] at hx hr hsp key
  rw [hY] at hy key
  have HX := Lib.hid hx
  have HY := Lib.hid hy
  have HR := Lib.hid hr
  have HSP := Lib.hid (fun W => (hsp W).mono fun e w' (h : _ ∧ _) => And.intro h.1 h.2.symm)
  have HEY := Lib.hid (fun h : a = b => (show (X == Y) = true by rw [beq_iff_eq]; exact key.1 h))
  have HEN := Lib.hid (fun h : ¬ a = b => (show (X == Y) = false by rw [beq_eq_false_iff_ne]; exact fun e => h (key.2 e)))
  have HET := Lib.hid (fun (h : a = b) W => (show (Op.equalIn 10000 33 (.agg (intsA .u32 a)) (.agg (intsA .u32 b))).run Tryd.prog W = .ok true W by rw [eq_w2 a b hal hbl, decide_eq_true h]))
  have HEF := Lib.hid (fun (h : ¬ a = b) W => (show (Op.equalIn 10000 33 (.agg (intsA .u32 a)) (.agg (intsA .u32 b))).run Tryd.prog W = .ok false W by rw [eq_w2 a b hal hbl, decide_eq_false h]))
  have SA := Lib.hid (show (Tryd.prog.info? 33).map (·.size) = some (intsA .u32 a).size by rw [intsA_size, hal]; exact size_w2)
  have SB := Lib.hid (show (Tryd.prog.info? 33).map (·.size) = some (intsA .u32 b).size by rw [intsA_size, hbl]; exact size_w2)
  have SAL := Lib.hid (show (Tryd.prog.info? 33).map (·.size) = some a.length by rw [hal]; exact size_w2)
  have SBL := Lib.hid (show (Tryd.prog.info? 33).map (·.size) = some b.length by rw [hbl]; exact size_w2)
  have HCA := Lib.hid ca
  have HCB := Lib.hid cb
  have HKS := Lib.hid hkst
  clear hx hy hr hsp key hal hbl ca cb hX hY ha hb hkst
  go_enter Tryd.func5, Tryd.ntmps5
  go_wp2_with (first
    | (with_reducible refine at_any ?_; refine at_dst 2 rfl ?_; refine wpList_box_ints rfl 33 (.tmp 0) rfl .u32 a rfl ?_; intro w1 hk1 hs1 hb1; have F1 := Lib.hid (Fx.box hk1.out hb1); clear hk1 hs1 hb1)
    | (with_reducible refine at_any ?_; refine at_dst 3 rfl ?_; refine wpList_box_ints rfl 33 (.tmp 1) rfl .u32 b rfl ?_; intro w2 hk2 hs2 hb2; have F2 := Lib.hid (Fx.new F1.out hk2.out hb2); clear hk2 hs2 hb2)
    | (go_at_call 7; (with_reducible refine (alive6_c _ (HKS.out.below (Fx.bel3 F2.out))).mono ?_); rintro e w3 ⟨rfl, hb3⟩; have F3 := Lib.hid (F2.out.below hb3); clear F1 F2 hb3))
  obtain ⟨g2, hg2⟩ : ∃ g, w.heap.size = g := ⟨_, rfl⟩
  obtain ⟨g3, hg3⟩ : ∃ g, w1.heap.size = g := ⟨_, rfl⟩
  rw [hg2, hg3] at F3
  rw [hg2, hg3]
  clear hg2 hg3
  have HA0 := Lib.hid (fun W (h : (Fx [.blk g3 33 (intsA .u32 b), .blk g2 33 (intsA .u32 a), .bel w]) W) => (HCA.out W g2 h.2.1).1)
  have HA1 := Lib.hid (fun W (h : (Fx [.blk g3 33 (intsA .u32 b), .blk g2 33 (intsA .u32 a), .bel w]) W) => (HCA.out W g2 h.2.1).2)
  have HB0 := Lib.hid (fun W (h : (Fx [.blk g3 33 (intsA .u32 b), .blk g2 33 (intsA .u32 a), .bel w]) W) => (HCB.out W g3 h.1).1)
  have HB1 := Lib.hid (fun W (h : (Fx [.blk g3 33 (intsA .u32 b), .blk g2 33 (intsA .u32 a), .bel w]) W) => (HCB.out W g3 h.1).2)
  refine wp_region_held_drew (S := (Fx [.blk g3 33 (intsA .u32 b), .blk g2 33 (intsA .u32 a), .bel w])) (by kernel_rfl) (F3.out.drew) (fun hH => ?_)
  refine wpAnyH_letter #[false, false, false, false, false, false, false, false, false, false, false, false] (by kernel_rfl) (fun _ _ d _ _ h => by cases d <;> exact h) (fun QL HQ1 HQ2 => ?_)
  refine held_v 0 (some 11) rfl (by kernel_rfl) (by kernel_rfl) (by kernel_rfl) (by kernel_rfl) (fun c a v w h => HQ2.out c a _ v w h) (by kernel_rfl) (.pointer (some ⟨g2, 0, none⟩)) (fun W h => by go_simp) hH ?_
  try simp only [Act.put, List.setIfInBounds_toArray, List.set_cons_zero, List.set_cons_succ]
  refine held_v 1 (some 12) rfl (by kernel_rfl) (by kernel_rfl) (by kernel_rfl) (by kernel_rfl) (fun c a v w h => HQ2.out c a _ v w h) (by kernel_rfl) (.int .u32 x0) (fun W h => by have p := HA0.out W h; go_simp) hH ?_
  try simp only [Act.put, List.setIfInBounds_toArray, List.set_cons_zero, List.set_cons_succ]
  refine held_v 2 (some 13) rfl (by kernel_rfl) (by kernel_rfl) (by kernel_rfl) (by kernel_rfl) (fun c a v w h => HQ2.out c a _ v w h) (by kernel_rfl) (.pointer (some ⟨g2, 1, none⟩)) (fun W h => by go_simp) hH ?_
  try simp only [Act.put, List.setIfInBounds_toArray, List.set_cons_zero, List.set_cons_succ]
  refine held_v 3 (some 14) rfl (by kernel_rfl) (by kernel_rfl) (by kernel_rfl) (by kernel_rfl) (fun c a v w h => HQ2.out c a _ v w h) (by kernel_rfl) (.int .u32 x1) (fun W h => by have p := HA1.out W h; go_simp) hH ?_
  try simp only [Act.put, List.setIfInBounds_toArray, List.set_cons_zero, List.set_cons_succ]
  refine held_v 5 (some 16) rfl (by kernel_rfl) (by kernel_rfl) (by kernel_rfl) (by kernel_rfl) (fun c a v w h => HQ2.out c a _ v w h) (by kernel_rfl) (.pointer (some ⟨g3, 0, none⟩)) (fun W h => by go_simp) hH ?_
  try simp only [Act.put, List.setIfInBounds_toArray, List.set_cons_zero, List.set_cons_succ]
  refine held_v 6 (some 17) rfl (by kernel_rfl) (by kernel_rfl) (by kernel_rfl) (by kernel_rfl) (fun c a v w h => HQ2.out c a _ v w h) (by kernel_rfl) (.int .u32 y0) (fun W h => by have p := HB0.out W h; go_simp) hH ?_
  try simp only [Act.put, List.setIfInBounds_toArray, List.set_cons_zero, List.set_cons_succ]
  refine held_v 7 (some 18) rfl (by kernel_rfl) (by kernel_rfl) (by kernel_rfl) (by kernel_rfl) (fun c a v w h => HQ2.out c a _ v w h) (by kernel_rfl) (.pointer (some ⟨g3, 1, none⟩)) (fun W h => by go_simp) hH ?_
  try simp only [Act.put, List.setIfInBounds_toArray, List.set_cons_zero, List.set_cons_succ]
  refine held_v 8 (some 19) rfl (by kernel_rfl) (by kernel_rfl) (by kernel_rfl) (by kernel_rfl) (fun c a v w h => HQ2.out c a _ v w h) (by kernel_rfl) (.int .u32 y1) (fun W h => by have p := HB1.out W h; go_simp) hH ?_
  try simp only [Act.put, List.setIfInBounds_toArray, List.set_cons_zero, List.set_cons_succ]
  refine wpAnyH_ready (rs := [4]) (by kernel_rfl) (by decide) ?_
  refine AllReadyH.cons rfl (fun K hK => ?_) AllReadyH.nil
  refine step_call (some 15) (by kernel_rfl) (by kernel_rfl) _ _ (by kernel_rfl) _ (HX.out _) ?_
  rintro e _ ⟨rfl, rfl⟩
  refine ⟨_, rfl, ?_⟩
  refine hK.out _ _ hH (fun _ => ?_)
  clear hK K
  try simp only [Act.put, List.setIfInBounds_toArray, List.set_cons_zero, List.set_cons_succ]
  refine wpAnyH_ready (rs := [9]) (by kernel_rfl) (by decide) ?_
  refine AllReadyH.cons rfl (fun K hK => ?_) AllReadyH.nil
  refine step_call (some 20) (by kernel_rfl) (by kernel_rfl) _ _ (by kernel_rfl) _ (HY.out _) ?_
  rintro e _ ⟨rfl, rfl⟩
  refine ⟨_, rfl, ?_⟩
  refine hK.out _ _ hH (fun _ => ?_)
  clear hK K
  try simp only [Act.put, List.setIfInBounds_toArray, List.set_cons_zero, List.set_cons_succ]
  refine held_v 10 (some 5) rfl (by kernel_rfl) (by kernel_rfl) (by kernel_rfl) (by kernel_rfl) (fun c a v w h => HQ2.out c a _ v w h) (by kernel_rfl) (.int .u64 X) (fun W h => by kernel_rfl) hH ?_
  try simp only [Act.put, List.setIfInBounds_toArray, List.set_cons_zero, List.set_cons_succ]
  refine held_v 11 (some 6) rfl (by kernel_rfl) (by kernel_rfl) (by kernel_rfl) (by kernel_rfl) (fun c a v w h => HQ2.out c a _ v w h) (by kernel_rfl) (.int .u64 Y) (fun W h => by kernel_rfl) hH ?_
  try simp only [Act.put, List.setIfInBounds_toArray, List.set_cons_zero, List.set_cons_succ]
  refine wpAnyH_done (by kernel_rfl) ?_ _
  refine HQ1.out _ _ ?_
  clear HQ1 HQ2
  have FA := Lib.hid hH
  have c0 := HA0.out _ FA.out
  have c1 := HA1.out _ FA.out
  by_cases hab : a = b
  · have HXY := Lib.hid (HEY.out hab)
    have HAB := Lib.hid (HET.out hab)
    clear hab
    have p1 := HXY.out
    have p2 := HAB.out
    go_wp2_with (first
      | (go_at_call 15; (with_reducible refine (HSP.out _).mono ?_); rintro e _ ⟨rfl, rfl⟩)
      | (go_at_call 16; (with_reducible refine (HR.out _).mono ?_); rintro e _ ⟨rfl, rfl⟩)
      | (with_reducible refine at_any ?_; refine at_dst 49 rfl ?_; refine wpList_load_gd (by kernel_rfl) 33 (.tmp 2) rfl g2 rfl 33 .u32 a (Fx.snd FA.out) _ Tryd.underlying33 rfl SAL.out ?_)
      | (with_reducible refine at_any ?_; refine at_dst 50 rfl ?_; refine wpList_load_gd (by kernel_rfl) 33 (.tmp 3) rfl g3 rfl 33 .u32 b (Fx.fst FA.out) _ Tryd.underlying33 rfl SBL.out ?_))
    go_ret
    exact ⟨rfl, Fx.bel3 FA.out⟩
  · have HXY := Lib.hid (HEN.out hab)
    have HAB := Lib.hid (HEF.out hab)
    clear hab
    have p1 := HXY.out
    have p2 := HAB.out
    go_wp2_with (first
      | (go_at_call 15; (with_reducible refine (HSP.out _).mono ?_); rintro e _ ⟨rfl, rfl⟩)
      | (go_at_call 16; (with_reducible refine (HR.out _).mono ?_); rintro e _ ⟨rfl, rfl⟩)
      | (with_reducible refine at_any ?_; refine at_dst 49 rfl ?_; refine wpList_load_gd (by kernel_rfl) 33 (.tmp 2) rfl g2 rfl 33 .u32 a (Fx.snd FA.out) _ Tryd.underlying33 rfl SAL.out ?_)
      | (with_reducible refine at_any ?_; refine at_dst 50 rfl ?_; refine wpList_load_gd (by kernel_rfl) 33 (.tmp 3) rfl g3 rfl 33 .u32 b (Fx.fst FA.out) _ Tryd.underlying33 rfl SBL.out ?_))
    go_ret
    exact ⟨rfl, Fx.bel3 FA.out⟩
theorem walk (a0 a1 : List Int) (w : World) (l0 : a0.length = 2) (w0 : ∀ z ∈ a0, (Lit.int .u32 z).wf = true) (l1 : a1.length = 2) (w1 : ∀ z ∈ a1, (Lit.int .u32 z).wf = true) (hkst : Kst w) :
    Calls Tryd.prog 5 #[.agg (intsA .u32 a0), .agg (intsA .u32 a1)] w fun e w' => e = .returned (.bool true) ∧ Below w.heap.size w w' := by
  obtain ⟨x0, x1, rfl⟩ : ∃ x0 x1, a0 = [x0, x1] := by
    match a0, l0 with
    | [x0, x1], _ => exact ⟨x0, x1, rfl⟩
  obtain ⟨y0, y1, rfl⟩ : ∃ y0 y1, a1 = [y0, y1] := by
    match a1, l1 with
    | [y0, y1], _ => exact ⟨y0, y1, rfl⟩
  have h0 := bounds_u32 (w0 x0 (by simp))
  have h1 := bounds_u32 (w0 x1 (by simp))
  have h2 := bounds_u32 (w1 y0 (by simp))
  have h3 := bounds_u32 (w1 y1 (by simp))
  exact of_walk _ _ x0 x1 y0 y1 rfl rfl (by omega) (by omega) (by omega) (by omega) (by omega) (by omega) (by omega) (by omega) w hkst


set_option maxRecDepth 100000 in
theorem lifted (os : Os) (started : os.Started) (H : Type) (enc : TypeId × Value → H) :
    ReturnsInHanded {} Tryd.checked os 5 .any (fun w args => (Rows.streamDomainsSpec.pre enc Tryd.prog Tryd.f5 [] false w args ∧ laidMetH Tryd.prog laidK w) ∧ sizedMet enc Tryd.prog Tryd.f5 (OpenSpec.ofChange Rows.streamDomainsSpec) false w args) (Rows.streamDomainsSpec.post enc Tryd.prog Tryd.f5 false true false false) := by
  refine returnsInHanded_of_change_and (C := Tryd.checked) (X := fun w _ => laidMetH Tryd.prog laidK w) (fun _ _ _ hh h => h.of_heap hh) own started (by kernel_rfl) Tryd.func5
    (ChangeSpec.witness_shaped (enc := enc) (C := Tryd.checked) (os := os) (X := fun w _ => laidMetH Tryd.prog laidK w) false (World.doorLaid Tryd.prog 400 os) #[.agg #[.int .u32 0, .int .u32 0], .agg #[.int .u32 0, .int .u32 0]] 8 rfl (World.shaped_of_RefB (by kernel_rfl) (by kernel_rfl)) (by kernel_rfl) (by kernel_rfl) (by kernel_rfl) (door_met os _)) ?_
  intro W base args ds gs before hval0 hW _ _ hL _
  have hval : ∀ (j : Nat) t v, Tryd.f5.params[j]? = some t → args[j]? = some v → Value.okWide Tryd.prog W .any base t v := hval0
  have hW' := hW
  obtain ⟨p, q, hA0, hV, rfl, hfz, hnd⟩ := hW
  have hA : DataW.TrodAll enc Tryd.prog W 0 (fun _ => true) true Tryd.f5.params.toList args.toList ds p := hA0
  rw [Tryd.params5] at hA hval
  obtain ⟨v0, vs0, d0, ds0, p0, q0, hargs, rfl, rfl, h0, r0⟩ := trodAll_cons hA
  obtain ⟨v1, vs1, d1, ds1, p1, q1, rfl, rfl, rfl, h1, r1⟩ := trodAll_cons r0
  obtain ⟨rfl, rfl, rfl⟩ := trodAll_nil r1
  obtain rfl : args = #[v0, v1] := by cases args; simp_all
  obtain ⟨rfl, rfl⟩ := trodVars_none hV
  obtain ⟨a0, l0, rfl, rfl, rfl, w0⟩ := open_arr_ints Tryd.underlying33 Tryd.underlying32 (by kernel_rfl) (by kernel_rfl) (hval 0 33 v0 rfl rfl) h0
  obtain ⟨a1, l1, rfl, rfl, rfl, w1⟩ := open_arr_ints Tryd.underlying33 Tryd.underlying32 (by kernel_rfl) (by kernel_rfl) (hval 1 33 v1 rfl rfl) h1
  clear hA0 hval0
  refine (walk a0 a1 W l0 w0 l1 w1 (kst_of_laid hL)).mono fun e W' ⟨he, bel⟩ => ?_
  subst he
  exact ⟨_, rfl, _, _, _, [], _, [], hW', trodAll_mk1 (shut_bool Tryd.underlying4 _), (trodAll_cons_mk (shut_arr_ints Tryd.underlying33 Tryd.underlying32 (by kernel_rfl) (by kernel_rfl) l0 w0) (trodAll_cons_mk (shut_arr_ints Tryd.underlying33 Tryd.underlying32 (by kernel_rfl) (by kernel_rfl) l1 w1) trodAll_mk0)), rfl, bel.frame _, fun h => by cases h⟩

theorem over : Rows.streamDomainsRow.holds Tryd.pinned (OpenSpec.ofChange Rows.streamDomainsSpec) :=
  OpenClaim.holds_of_wide 5 Tryd.f5 rfl rfl rfl rfl rfl rfl rfl ⟨rfl, rfl, rfl, rfl, rfl⟩ rfl rfl rfl rfl rfl (by kernel_rfl) Tryd.func5 (by kernel_rfl)
    (of_decide_eq_true (by kernel_rfl)) (by unfold Func.isWrapper; first | (rw [if_pos (by decide +kernel)]; kernel_rfl) | (rw [if_neg (by decide +kernel)]; exact ⟨rfl, rfl⟩))
    (fun os started H enc _ => lifted os started H enc)

end Go.Proofs.YtdnjnbeoioicfaaDoor.streamDomains
namespace Go.Proofs.YtdnjnbeoioicfaaDoor
theorem streamDomains_holds : Rows.StreamDomainsCardSaid :=
  Claim7.holds_tied_plain_at .later [] [.data] true _ false
    streamDomains.over (fun _ h => by cases h) (by kernel_rfl) (fun _ h => by cases h) streamDomains_row_tie rfl ⟨rfl, rfl⟩ (by kernel_rfl) rfl
    (fun f fn hf hfn => by
      obtain rfl : f = 5 := Option.some.inj ((show Tryd.prog.funcNamed "drawlot/drawlotlaw06.StreamDomains" = some 5 by kernel_rfl).symm.trans hf) |>.symm
      obtain rfl : fn = Tryd.f5 := (Option.some.inj (Tryd.func5.symm.trans hfn)).symm
      exact ⟨by kernel_rfl, fun j t ht => by
        rw [Tryd.params5] at ht
        have hm : t ∈ [33, 33] := by simpa using Array.mem_of_getElem? ht
        have hall : ([33, 33].all fun u => !Tryd.prog.wantsStandIn u) = true := by kernel_rfl
        exact (show Tryd.prog.wantsStandIn t = false by simpa using List.all_eq_true.1 hall t hm)⟩)
    (by kernel_rfl)
#print axioms streamDomains_holds
end Go.Proofs.YtdnjnbeoioicfaaDoor

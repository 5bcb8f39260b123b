/-
  The owner of a ticket in a list is that in its tree; of up to 300 stakes.
  Conditions: none.
-/
import Derived.Test.YtilccjjagdedaaaDoorLawQ
import Derived.Test.YtilccjjagdedaaaDoorOpenA
import Derived.Test.YtilccjjagdedaaaDoorFenA
import Derived.ShutString
import Derived.Test.YtilccjjagdedaaaDoorFenK
import Derived.Test.YtilccjjagdedaaaDoorTie
import Derived.Test.YtilccjjagdedaaaDoorCards
import Derived.SevenTiedAt
import Derived.ChangeOld
namespace Go.Proofs.YtilccjjagdedaaaDoor.scanTrees
open Go.ChangeShapes Go.WideShapes Go.ChangeAt Go.RowKit
set_option linter.unusedVariables false
set_option linter.unusedSimpArgs false
set_option maxRecDepth 100000

theorem own : ownKnob Tryd.prog.godebug = none := by kernel_rfl
theorem laidOut : laidOutB Tryd.prog = true := by kernel_rfl

set_option maxHeartbeats 8000000 in
theorem walk (t : Int) (a0 : Option Addr) (n c : Nat) (zs : List Int) (w : World) (hT : TzT w) (w0 : (Lit.int .u64 t).wf = true) (hrd : Rd .u64 w w.heap.size a0 n zs) (lc : n ≤ c) (cm : c ≤ maxLen) (hw : ∀ z ∈ zs, (Lit.int .u64 z).wf = true) :
    Calls Tryd.prog 3 #[.int .u64 t, .slice a0 n c] w fun e w' => e = .returned (.bool true) ∧ Below w.heap.size w w' := by
  have HTT := Lib.hid hT
  clear hT
  have G0 : Hid (Fx [.rdb .u64 w.heap.size a0 n zs, .bel w] w) := Lib.hid ⟨⟨hrd, Nat.le_refl _⟩, Below.refl _ _, trivial⟩
  have hlen := hrd.len
  have hz : ∀ z ∈ zs, 0 ≤ z ∧ z < 18446744073709551616 := fun z h => by
    obtain ⟨h1, h2⟩ := bounds_u64 (hw z h)
    omega
  have t0 : 0 ≤ t := (bounds_u64 w0).1
  have t1 : t < 18446744073709551616 := by have := (bounds_u64 w0).2; omega
  by_cases hg : 300 < n
  · have hg2 : (300 : Int) < (n : Int) := by omega
    clear hrd hw hz hg
    go_enter Tryd.func3, Tryd.ntmps3
    go_wp2_with (first
      | (go_at_call 4; (with_reducible refine (alive12_c _).mono ?_); rintro e w1 ⟨rfl, hbw1⟩; have G2 := Lib.hid (Fx.below G0.out hbw1); clear G0; clear hbw1))
    go_ret
    exact ⟨rfl, (Fx.e1 G2.out)⟩
  have hg2 : (n : Int) ≤ 300 := by omega
  have hn5 : n ≤ 100000000 := by omega
  have hn6 : n ≤ 1000000 := by omega
  have hnm : n ≤ maxLen := by simp only [maxLen]; omega
  have hz0 : ∀ z ∈ zs, 0 ≤ z := fun z h => (hz z h).1
  by_cases hs : sumL zs < 9223372036854775808
  · have e := bldE_ok (l := zs) (by omega) hs
    have h1 := fun A c W hT h => calls_fen (q11build_c zs hz A n c hnm W hT h) e.2 e.1 ((treeL_len zs).trans hlen)
    have h2 := fun A c W h => calls_val (q12owner_c zs hz A n c hn6 t t0 t1 W h) (tup_ii (sco_ok t hs).1 (sco_ok t hs).2)
    have h3 := fun A c (hc : n ≤ c) (hm : c ≤ maxLen) W hT h => q11owner_c zs hz0 hs (by omega) A n c hlen hc hm t t0 t1 W hT h
    obtain ⟨ts, hts⟩ : ∃ x, treeL zs = x := ⟨_, rfl⟩
    obtain ⟨ov, hov⟩ : ∃ x, ownV zs t = x := ⟨_, rfl⟩
    obtain ⟨oe, hoe⟩ : ∃ x, ownE zs t = x := ⟨_, rfl⟩
    rw [hts] at h1 h3
    rw [hov, hoe] at h2 h3
    have H1 := Lib.hid h1
    have H2 := Lib.hid h2
    have H3 := Lib.hid h3
    clear h1 h2 h3 hts hov hoe e hs hrd hw hz hz0 hg hn5 hn6 hnm lc cm hlen w0 t0 t1
    go_enter Tryd.func3, Tryd.ntmps3
    go_wp2_with (first
      | (go_at_call 4; (with_reducible refine (alive12_c _).mono ?_); rintro e w1 ⟨rfl, hbw1⟩; have G2 := Lib.hid (Fx.below G0.out hbw1); clear G0; clear hbw1)
      | (go_at_call 5; (with_reducible refine (H1.out _ _ _ (HTT.out.below (Fx.e1 G2.out)) (Fx.r0 G2.out)).mono ?_); rintro e w3 ⟨A4, c5, rfl, hrw3, hlw3, hmw3, hbw3⟩; have lc5 := Lib.hid hlw3; have mc5 := Lib.hid hmw3; have G6 := Lib.hid (Fx.addR G2.out hbw3 hrw3); clear G2; clear hrw3 hbw3 hlw3 hmw3)
      | (with_reducible refine at_any ?_; refine at_dst 5 rfl ?_; refine wpList_alloc_any rfl 26 rfl #[.slice none 0 0] zero_fen ?_; intro w7 hkw7 hsw7 hbw7; have U8 := Lib.hid (Fx.under_new G6.out rfl); have G9 := Lib.hid (Fx.newB G6.out hkw7.out hbw7); clear G6; clear hkw7 hsw7 hbw7)
      | (with_reducible refine at_any ?_; refine at_store 5 rfl ?_; refine wpList_store_any rfl 26 (.tmp 5) (.tmp 19) rfl w3.heap.size rfl 26 #[.slice none 0 0] (#[.slice A4 n c5]) (Fx.b0 G9.out) rfl (size1 _ _) (sizedF _) (fen_ones _ _ _) ?_; intro w10 hkw10 hsw10 hbw10 how10; have G11 := Lib.hid (Fx.put1B G9.out U8.out hkw10.out hsw10.out hbw10 how10); clear G9; clear hkw10 hsw10 hbw10 how10)
      | (go_at_call 6; (with_reducible refine (H2.out _ _ _ (Fx.r2 G11.out)).mono ?_); rintro e w12 ⟨rfl, hbw12⟩; have G13 := Lib.hid (Fx.below G11.out hbw12); clear G11; clear hbw12)
      | (with_reducible refine at_any ?_; refine at_dst 37 rfl ?_; refine wpList_load_fen (by kernel_rfl) (.tmp 5) rfl w3.heap.size rfl 26 (.slice A4 n c5) (Fx.b0 G13.out) ?_)
      | (go_at_call 7; (with_reducible refine (H3.out _ _ lc5.out mc5.out _ (HTT.out.below (Fx.e3 G13.out)) (Fx.r1 G13.out)).mono ?_); rintro e w14 ⟨rfl, hbw14⟩; have G15 := Lib.hid (Fx.below G13.out hbw14); clear G13; clear hbw14))
    go_ret
    exact ⟨rfl, (Fx.e3 G15.out)⟩
  · have e := bldE_big (l := zs) (by omega) hs
    have H1 := Lib.hid (fun A c W hT h => calls_fen (q11build_c zs hz A n c hnm W hT h) e.2 e.1 (n := 0) rfl)
    have H2 := Lib.hid (fun A c W h => calls_val (q12owner_c zs hz A n c hn6 t t0 t1 W h) (tup_ii (sco_no t hs).1 (sco_no t hs).2))
    clear e hs hrd hw hz hz0 hg hn5 hn6 hnm lc cm hlen w0 t0 t1
    go_enter Tryd.func3, Tryd.ntmps3
    go_wp2_with (first
      | (go_at_call 4; (with_reducible refine (alive12_c _).mono ?_); rintro e w1 ⟨rfl, hbw1⟩; have G2 := Lib.hid (Fx.below G0.out hbw1); clear G0; clear hbw1)
      | (go_at_call 5; (with_reducible refine (H1.out _ _ _ (HTT.out.below (Fx.e1 G2.out)) (Fx.r0 G2.out)).mono ?_); rintro e w3 ⟨A4, c5, rfl, hrw3, hlw3, hmw3, hbw3⟩; have lc5 := Lib.hid hlw3; have mc5 := Lib.hid hmw3; have G6 := Lib.hid (Fx.addR G2.out hbw3 hrw3); clear G2; clear hrw3 hbw3 hlw3 hmw3)
      | (with_reducible refine at_any ?_; refine at_dst 5 rfl ?_; refine wpList_alloc_any rfl 26 rfl #[.slice none 0 0] zero_fen ?_; intro w7 hkw7 hsw7 hbw7; have U8 := Lib.hid (Fx.under_new G6.out rfl); have G9 := Lib.hid (Fx.newB G6.out hkw7.out hbw7); clear G6; clear hkw7 hsw7 hbw7)
      | (with_reducible refine at_any ?_; refine at_store 5 rfl ?_; refine wpList_store_any rfl 26 (.tmp 5) (.tmp 19) rfl w3.heap.size rfl 26 #[.slice none 0 0] (#[.slice A4 0 c5]) (Fx.b0 G9.out) rfl (size1 _ _) (sizedF _) (fen_ones _ _ _) ?_; intro w10 hkw10 hsw10 hbw10 how10; have G11 := Lib.hid (Fx.put1B G9.out U8.out hkw10.out hsw10.out hbw10 how10); clear G9; clear hkw10 hsw10 hbw10 how10)
      | (go_at_call 6; (with_reducible refine (H2.out _ _ _ (Fx.r2 G11.out)).mono ?_); rintro e w12 ⟨rfl, hbw12⟩; have G13 := Lib.hid (Fx.below G11.out hbw12); clear G11; clear hbw12))
    go_ret
    exact ⟨rfl, (Fx.e3 G13.out)⟩


set_option maxRecDepth 100000 in
theorem lifted (os : Os) (started : os.Started) (H : Type) (enc : TypeId × Value → H) :
    ReturnsInHanded {} Tryd.checked os 3 .any (fun w args => (Rows.scanTreesSpec.pre enc Tryd.prog Tryd.f3 [] false w args ∧ laidMetH Tryd.prog laidT w) ∧ sizedMet enc Tryd.prog Tryd.f3 (OpenSpec.ofChange Rows.scanTreesSpec) false w args) (Rows.scanTreesSpec.post enc Tryd.prog Tryd.f3 false true false false) := by
  refine returnsInHanded_of_change_and (C := Tryd.checked) (X := fun w _ => laidMetH Tryd.prog laidT w) (fun _ _ _ hh h => h.of_heap hh) own started (by kernel_rfl) Tryd.func3
    (ChangeSpec.witness_shaped (enc := enc) (C := Tryd.checked) (os := os) (X := fun w _ => laidMetH Tryd.prog laidT w) false (World.doorLaid Tryd.prog 400 os) #[.int .u64 0, .slice none 0 0] 8 rfl (World.shaped_of_RefB (by kernel_rfl) (by kernel_rfl)) (by kernel_rfl) (by kernel_rfl) (by kernel_rfl) (door_metT os _)) ?_
  intro W base args ds gs before hval0 hW _ _ hL _
  have hval : ∀ (j : Nat) t v, Tryd.f3.params[j]? = some t → args[j]? = some v → Value.okWide Tryd.prog W .any base t v := hval0
  have hW' := hW
  obtain ⟨p, q, hA0, hV, rfl, hfz, hnd⟩ := hW
  have hA : DataW.TrodAll enc Tryd.prog W 0 (fun _ => true) true Tryd.f3.params.toList args.toList ds p := hA0
  rw [Tryd.params3] at hA hval
  obtain ⟨v0, vs0, d0, ds0, p0, q0, hargs, rfl, rfl, h0, r0⟩ := trodAll_cons hA
  obtain ⟨v1, vs1, d1, ds1, p1, q1, rfl, rfl, rfl, h1, r1⟩ := trodAll_cons r0
  obtain ⟨rfl, rfl, rfl⟩ := trodAll_nil r1
  obtain rfl : args = #[v0, v1] := by cases args; simp_all
  obtain ⟨rfl, rfl⟩ := trodVars_none hV
  obtain ⟨a0, rfl, rfl, rfl, w0⟩ := open_int Tryd.underlying22 (hval 0 22 v0 rfl rfl) h0
  obtain ⟨a1, n1, c1, rfl⟩ := okWide_slice Tryd.underlying23 (hval 1 23 v1 rfl rfl)
  have k1 := h1
  have lt1 : ∀ x ∈ p1, x.block < W.heap.size := by obtain ⟨m, hm⟩ := k1; exact DataW.trod_lt m _ _ _ hm
  obtain ⟨z1, rd1, lc1, cm1, w1⟩ := open_rd Tryd.underlying23 Tryd.underlying22 (by kernel_rfl) h1
  clear hA0 hval0
  refine (walk a0 a1 n1 c1 z1 W (tzT_of_laid hL) w0 rd1 lc1 cm1 w1).mono fun e W' ⟨he, bel⟩ => ?_
  subst he
  exact ⟨_, rfl, _, _, _, [], _, [], hW', trodAll_mk1 (shut_bool Tryd.underlying4 _), (trodAll_cons_mk (shut_int Tryd.underlying22 w0) (trodAll_cons_mk (Below.trod laidOut (by kernel_rfl) (of_decide_eq_true (by kernel_rfl)) k1 bel lt1) trodAll_mk0)), rfl, bel.frame _, fun h => by cases h⟩

theorem over : Rows.scanTreesRow.holds Tryd.pinned (OpenSpec.ofChange Rows.scanTreesSpec) :=
  OpenClaim.holds_of_wide 3 Tryd.f3 rfl rfl rfl rfl rfl rfl rfl ⟨rfl, rfl, rfl, rfl, rfl⟩ rfl rfl rfl rfl rfl (by kernel_rfl) Tryd.func3 (by kernel_rfl)
    (of_decide_eq_true (by kernel_rfl)) (by unfold Func.isWrapper; first | (rw [if_pos (by decide +kernel)]; kernel_rfl) | (rw [if_neg (by decide +kernel)]; exact ⟨rfl, rfl⟩))
    (fun os started H enc _ => lifted os started H enc)

end Go.Proofs.YtilccjjagdedaaaDoor.scanTrees
namespace Go.Proofs.YtilccjjagdedaaaDoor
theorem scanTrees_holds : Rows.ScanTreesCardSaid :=
  Claim7.holds_tied_plain_at .later [] [.data, .data] true _ false
    scanTrees.over (fun _ h => by cases h) (by kernel_rfl) (fun _ h => by cases h) scanTrees_row_tie rfl ⟨rfl, rfl⟩ (by kernel_rfl) rfl
    (fun f fn hf hfn => by
      obtain rfl : f = 3 := Option.some.inj ((show Tryd.prog.funcNamed "drawlot/drawlotlaw12.ScanTrees" = some 3 by kernel_rfl).symm.trans hf) |>.symm
      obtain rfl : fn = Tryd.f3 := (Option.some.inj (Tryd.func3.symm.trans hfn)).symm
      exact ⟨by kernel_rfl, fun j t ht => by
        rw [Tryd.params3] at ht
        have hm : t ∈ [22, 23] := by simpa using Array.mem_of_getElem? ht
        have hall : ([22, 23].all fun u => !Tryd.prog.wantsStandIn u) = true := by kernel_rfl
        exact (show Tryd.prog.wantsStandIn t = false by simpa using List.all_eq_true.1 hall t hm)⟩)
    (by kernel_rfl)
#print axioms scanTrees_holds
end Go.Proofs.YtilccjjagdedaaaDoor

/-
  Who leads, by any table and any source, is the document's, or refused, for its reason; of up to 200 cells.
  Conditions: the program's table of constants reads, when the call begins, as its text lays it (the card ties that).
-/
import Derived.Test.YtomkidgmpbjgeaaGreatDoorGf
import Derived.ShutString
import Derived.Test.YtomkidgmpbjgeaaGreatDoorTie
import Derived.Test.YtomkidgmpbjgeaaGreatDoorCards
import Derived.SevenTiedAt
import Derived.ChangeOld
namespace Go.Proofs.YtomkidgmpbjgeaaGreatDoor.pickDraws
open Go.ChangeShapes Go.WideShapes Go.ChangeAt Go.RowKit
set_option linter.unusedVariables false
set_option linter.unusedSimpArgs false
set_option maxRecDepth 100000

theorem own : ownKnob Tryz.prog.godebug = none := by kernel_rfl
theorem laidOut : laidOutB Tryz.prog = true := by kernel_rfl

set_option maxHeartbeats 16000000 in
theorem walk (T : Int) (a0 : Option Addr) (n c : Nat) (ts : List (Int × Int)) (s : Src) (A : Option Addr) (d : Nat) (a : Int) (w : World) (hrp : RdPr .u64 .i64 w w.heap.size a0 n ts) (lc : n ≤ c) (cm : c ≤ maxLen) (wt : (Lit.int .u64 T).wf = true) (hw : ∀ q ∈ ts, (Lit.int .u64 q.1).wf = true ∧ (Lit.int .i64 q.2).wf = true) (ok0 : s.tape.length ≤ 140737488355328 → s.Ok) (hrs : Rd .u8 w w.heap.size A s.tape.length s.tape) (ld : s.tape.length ≤ d) (dm : d ≤ maxLen) (sl : s.seed.length = 32) (w2 : (Lit.int .i64 a).wf = true) (hkst : Kst w) :
    Calls Tryz.prog 3 #[.agg #[.int .u64 T, .slice a0 n c], .agg (srcV s A d), .int .i64 a] w fun e w' => e = .returned (.bool true) ∧ Below w.heap.size w w' := by
  have HZ0 := Lib.hid zero_src
  have HZL := Lib.hid (show Src.zero.seed.length = 32 from rfl)
  have HKS := Lib.hid hkst
  have HLs := Lib.hid sl
  have G0 : Hid (Fx [.kept w.heap.size (fun W => RdPr .u64 .i64 W W.heap.size a0 n ts), .rdb .u8 w.heap.size A s.tape.length s.tape, .bel w] w) := Lib.hid ⟨RdPr.kept hrp, ⟨hrs, Nat.le_refl _⟩, Below.refl _ _, trivial⟩
  have hts := prOk_wf hw
  have hT := bounds_u64 wt
  have b0 : -9223372036854775808 ≤ a := by have := (bounds_i64 w2).1; omega
  have b1 : a < 9223372036854775808 := by have := (bounds_i64 w2).2; omega
  have HCT := Lib.hid (fun (W : World) (g : Nat) (h : Blk W g 30 (srcV s A d)) => (h.cell 1).trans (srcV_tape s A d))
  have hnm : (n : Int) ≤ 9223372036854775807 := by unfold maxLen at cm; omega
  have hLm : (s.tape.length : Int) ≤ 9223372036854775807 := by unfold maxLen at dm; omega
  by_cases hg : 200 < n
  · have hg2 : (200 : Int) < (n : Int) := by omega
    clear hrp hw hrs hts hT hkst ok0 sl b0 b1 hg lc cm ld dm wt w2
    go_enter Tryz.func3, Tryz.ntmps3
    go_wp2_with (first
      | (with_reducible refine at_any ?_; refine at_dst 3 rfl ?_; refine wpList_box_any rfl 25 (.tmp 0) rfl #[.int .u64 T, .slice a0 n c] rfl ?_; intro w1 hkw1 hsw1 hbw1; have G2 := Lib.hid (Fx.newB G0.out hkw1.out hbw1); clear G0; clear hkw1 hsw1 hbw1)
      | (with_reducible refine at_any ?_; refine at_dst 4 rfl ?_; refine wpList_box_any rfl 30 (.tmp 1) rfl (srcV s A d) rfl ?_; intro w3 hkw3 hsw3 hbw3; have G4 := Lib.hid (Fx.newB G2.out hkw3.out hbw3); clear G2; clear hkw3 hsw3 hbw3)
      | (go_at_call 5; (with_reducible refine (alive15_c _ (HKS.out.below (Fx.e4 G4.out))).mono ?_); rintro e w5 ⟨rfl, hbw5⟩; have G6 := Lib.hid (Fx.below G4.out hbw5); clear G4; clear hbw5; have cz7a := tab_c0 (Fx.b1 G6.out); have cz7b := tab_c1 (Fx.b1 G6.out); have zt := HCT.out _ _ (Fx.b0 G6.out)))
    go_ret
    exact ⟨rfl, (Fx.e4 G6.out)⟩
  have hg2 : (n : Int) ≤ 200 := by omega
  by_cases hl : 500 < s.tape.length
  · have hl2 : (500 : Int) < (s.tape.length : Int) := by omega
    clear hrp hw hrs hts hT hkst ok0 sl b0 b1 hg hl lc cm ld dm wt w2
    go_enter Tryz.func3, Tryz.ntmps3
    go_wp2_with (first
      | (with_reducible refine at_any ?_; refine at_dst 3 rfl ?_; refine wpList_box_any rfl 25 (.tmp 0) rfl #[.int .u64 T, .slice a0 n c] rfl ?_; intro w1 hkw1 hsw1 hbw1; have G2 := Lib.hid (Fx.newB G0.out hkw1.out hbw1); clear G0; clear hkw1 hsw1 hbw1)
      | (with_reducible refine at_any ?_; refine at_dst 4 rfl ?_; refine wpList_box_any rfl 30 (.tmp 1) rfl (srcV s A d) rfl ?_; intro w3 hkw3 hsw3 hbw3; have G4 := Lib.hid (Fx.newB G2.out hkw3.out hbw3); clear G2; clear hkw3 hsw3 hbw3)
      | (go_at_call 5; (with_reducible refine (alive15_c _ (HKS.out.below (Fx.e4 G4.out))).mono ?_); rintro e w5 ⟨rfl, hbw5⟩; have G6 := Lib.hid (Fx.below G4.out hbw5); clear G4; clear hbw5; have cz7a := tab_c0 (Fx.b1 G6.out); have cz7b := tab_c1 (Fx.b1 G6.out); have zt := HCT.out _ _ (Fx.b0 G6.out)))
    go_ret
    exact ⟨rfl, (Fx.e4 G6.out)⟩
  have hl2 : (s.tape.length : Int) ≤ 500 := by omega
  have oks : s.Ok := ok0 (by omega)
  obtain ⟨okX, hXt⟩ := pikT_in T ts s a oks
  have hq := fun W h1 h2 k => q15draw_c T (by omega) (by omega) ts hts a0 n c (by omega) lc cm s oks a b0 b1 A d ld dm W h1 h2 k
  have hr := fun W h1 h2 => r15draw_c T (by omega) (by omega) ts hts a0 n c (by omega) s oks a b0 b1 A d ld dm W h1 h2
  obtain ⟨r, hrr⟩ : ∃ r, pikT T ts s a = r := ⟨_, rfl⟩
  rw [hrr] at okX hXt hq hr
  obtain ⟨x, X, e⟩ := r
  have HQ := Lib.hid (fun W h1 h2 k => (hq W h1 h2 k).mono fun _ _ h => led_uP rfl rfl rfl h)
  have HR := Lib.hid (fun W h1 h2 => (hr W h1 h2).mono fun _ _ h => led_uP rfl rfl rfl h)
  dsimp only at okX hXt HQ HR
  have HLX := Lib.hid okX.sl
  have HSX := Lib.hid (fun A B c d W h h' => calls_val (v' := .bool true) (rssame_c X X okX okX A B c d W (by rw [hXt]; exact h) (by rw [hXt]; exact h')) (congrArg Value.bool (sameS_refl X)))
  clear hq hr hrr okX hXt hrp hw hrs hts hT hkst ok0 sl b0 b1 hg hl lc cm ld dm wt w2 oks
  go_enter Tryz.func3, Tryz.ntmps3
  go_wp2_with (first
    | (with_reducible refine at_any ?_; refine at_dst 3 rfl ?_; refine wpList_box_any rfl 25 (.tmp 0) rfl #[.int .u64 T, .slice a0 n c] rfl ?_; intro w1 hkw1 hsw1 hbw1; have G2 := Lib.hid (Fx.newB G0.out hkw1.out hbw1); clear G0; clear hkw1 hsw1 hbw1)
    | (with_reducible refine at_any ?_; refine at_dst 4 rfl ?_; refine wpList_box_any rfl 30 (.tmp 1) rfl (srcV s A d) rfl ?_; intro w3 hkw3 hsw3 hbw3; have G4 := Lib.hid (Fx.newB G2.out hkw3.out hbw3); clear G2; clear hkw3 hsw3 hbw3)
    | (go_at_call 5; (with_reducible refine (alive15_c _ (HKS.out.below (Fx.e4 G4.out))).mono ?_); rintro e w5 ⟨rfl, hbw5⟩; have G6 := Lib.hid (Fx.below G4.out hbw5); clear G4; clear hbw5; have cz7a := tab_c0 (Fx.b1 G6.out); have cz7b := tab_c1 (Fx.b1 G6.out); have zt := HCT.out _ _ (Fx.b0 G6.out))
    | (with_reducible refine at_any ?_; refine at_dst 26 rfl ?_; refine wpList_load_tab (by kernel_rfl) (.tmp 3) rfl w.heap.size rfl 25 (.int .u64 T) (.slice a0 n c) (Fx.b1 G6.out) ?_)
    | (with_reducible refine at_any ?_; refine at_dst 27 rfl ?_; refine wpList_load_blk rfl 30 (.tmp 4) rfl w1.heap.size rfl 30 (srcV s A d) (Fx.b0 G6.out) _ Tryz.underlying30 rfl (sizedS s HLs.out _ _) ?_)
    | (go_at_call 6; (with_reducible refine (HQ.out _ (Fx.k2 G6.out) (Fx.r3 G6.out) (HKS.out.below (Fx.e4 G6.out))).mono ?_); rintro e w8 ⟨A9, c10, rfl, hrw8, hlw8, hmw8, _, hbw8⟩; have lc10 := Lib.hid hlw8; have mc10 := Lib.hid hmw8; have G11 := Lib.hid (Fx.addR G6.out hbw8 hrw8); clear G6; clear hrw8 hbw8 hlw8 hmw8)
    | (with_reducible refine at_any ?_; refine at_dst 8 rfl ?_; refine wpList_alloc_any rfl 30 rfl (srcV Src.zero none 0) HZ0.out ?_; intro w12 hkw12 hsw12 hbw12; have U13 := Lib.hid (Fx.under_new G11.out rfl); have G14 := Lib.hid (Fx.newB G11.out hkw12.out hbw12); clear G11; clear hkw12 hsw12 hbw12)
    | (with_reducible refine at_any ?_; refine at_store 8 rfl ?_; refine wpList_store_any rfl 30 (.tmp 8) (.tmp 31) rfl w8.heap.size rfl 30 (srcV Src.zero none 0) (srcV X A9 c10) (Fx.b0 G14.out) rfl (srcV_same _ X HZL.out HLX.out _ _ _ _) (sizedS X HLX.out _ _) (srcV_ones _ _ _) ?_; intro w15 hkw15 hsw15 hbw15 how15; have G16 := Lib.hid (Fx.put1B G14.out U13.out hkw15.out hsw15.out hbw15 how15); clear G14; clear hkw15 hsw15 hbw15 how15)
    | (with_reducible refine at_any ?_; refine at_dst 34 rfl ?_; refine wpList_load_tab (by kernel_rfl) (.tmp 3) rfl w.heap.size rfl 25 (.int .u64 T) (.slice a0 n c) (Fx.b3 G16.out) ?_)
    | (with_reducible refine at_any ?_; refine at_dst 35 rfl ?_; refine wpList_load_blk rfl 30 (.tmp 4) rfl w1.heap.size rfl 30 (srcV s A d) (Fx.b2 G16.out) _ Tryz.underlying30 rfl (sizedS s HLs.out _ _) ?_)
    | (go_at_call 7; (with_reducible refine (HR.out _ (Fx.k4 G16.out) (Fx.r5 G16.out)).mono ?_); rintro e w17 ⟨A18, c19, rfl, hrw17, hlw17, hmw17, _, hbw17⟩; have lc19 := Lib.hid hlw17; have mc19 := Lib.hid hmw17; have G20 := Lib.hid (Fx.addR G16.out hbw17 hrw17); clear G16; clear hrw17 hbw17 hlw17 hmw17)
    | (with_reducible refine at_any ?_; refine at_dst 11 rfl ?_; refine wpList_alloc_any rfl 30 rfl (srcV Src.zero none 0) HZ0.out ?_; intro w21 hkw21 hsw21 hbw21; have U22 := Lib.hid (Fx.under_new G20.out rfl); have G23 := Lib.hid (Fx.newB G20.out hkw21.out hbw21); clear G20; clear hkw21 hsw21 hbw21)
    | (with_reducible refine at_any ?_; refine at_store 11 rfl ?_; refine wpList_store_any rfl 30 (.tmp 11) (.tmp 39) rfl w17.heap.size rfl 30 (srcV Src.zero none 0) (srcV X A18 c19) (Fx.b0 G23.out) rfl (srcV_same _ X HZL.out HLX.out _ _ _ _) (sizedS X HLX.out _ _) (srcV_ones _ _ _) ?_; intro w24 hkw24 hsw24 hbw24 how24; have G25 := Lib.hid (Fx.put1B G23.out U22.out hkw24.out hsw24.out hbw24 how24); clear G23; clear hkw24 hsw24 hbw24 how24)
    | (with_reducible refine at_any ?_; refine at_dst 45 rfl ?_; refine wpList_load_gdb (by kernel_rfl) 30 (.tmp 8) rfl w8.heap.size rfl 30 (srcV X A9 c10) (Fx.b2 G25.out) _ Tryz.underlying30 rfl (sizedS X HLX.out _ _) ?_)
    | (with_reducible refine at_any ?_; refine at_dst 46 rfl ?_; refine wpList_load_gdb (by kernel_rfl) 30 (.tmp 11) rfl w17.heap.size rfl 30 (srcV X A18 c19) (Fx.b0 G25.out) _ Tryz.underlying30 rfl (sizedS X HLX.out _ _) ?_)
    | (go_at_call 8; (with_reducible refine (HSX.out _ _ _ _ _ (Fx.r3 G25.out) (Fx.r1 G25.out)).mono ?_); rintro e w26 ⟨rfl, hbw26⟩; have G27 := Lib.hid (Fx.below G25.out hbw26); clear G25; clear hbw26))
  go_ret
  exact ⟨rfl, (Fx.e8 G27.out)⟩


set_option maxRecDepth 100000 in
theorem lifted (os : Os) (started : os.Started) (H : Type) (enc : TypeId × Value → H) :
    ReturnsInHanded {} Tryz.checked os 3 .any (fun w args => (Rows.pickDrawsSpec.pre enc Tryz.prog Tryz.f3 [] false w args ∧ laidMetH Tryz.prog laidK w) ∧ sizedMet enc Tryz.prog Tryz.f3 (OpenSpec.ofChange Rows.pickDrawsSpec) false w args) (Rows.pickDrawsSpec.post enc Tryz.prog Tryz.f3 false true false false) := by
  refine returnsInHanded_of_change_and (C := Tryz.checked) (X := fun w _ => laidMetH Tryz.prog laidK w) (fun _ _ _ hh h => h.of_heap hh) own started (by kernel_rfl) Tryz.func3
    (ChangeSpec.witness_shaped (enc := enc) (C := Tryz.checked) (os := os) (X := fun w _ => laidMetH Tryz.prog laidK w) false (World.doorLaid Tryz.prog 400 os) #[.agg #[.int .u64 0, .slice none 0 0], .agg #[.int .i64 0, .slice none 0 0, .int .u64 0, .int .u8 0, .int .u8 0, .int .u8 0, .int .u8 0, .int .u8 0, .int .u8 0, .int .u8 0, .int .u8 0, .int .u8 0, .int .u8 0, .int .u8 0, .int .u8 0, .int .u8 0, .int .u8 0, .int .u8 0, .int .u8 0, .int .u8 0, .int .u8 0, .int .u8 0, .int .u8 0, .int .u8 0, .int .u8 0, .int .u8 0, .int .u8 0, .int .u8 0, .int .u8 0, .int .u8 0, .int .u8 0, .int .u8 0, .int .u8 0, .int .u8 0, .int .u8 0, .int .u64 0, .int .u64 0], .int .i64 0] 8 rfl (World.shaped_of_RefB (by kernel_rfl) (by kernel_rfl)) (by kernel_rfl) (by kernel_rfl) (by kernel_rfl) (door_met os _)) ?_
  intro W base args ds gs before hval0 hW _ _ hL _
  have hval : ∀ (j : Nat) t v, Tryz.f3.params[j]? = some t → args[j]? = some v → Value.okWide Tryz.prog W .any base t v := hval0
  have hW' := hW
  obtain ⟨p, q, hA0, hV, rfl, hfz, hnd⟩ := hW
  have hA : DataW.TrodAll enc Tryz.prog W 0 (fun _ => true) true Tryz.f3.params.toList args.toList ds p := hA0
  rw [Tryz.params3] at hA hval
  obtain ⟨v0, vs0, d0, ds0, p0, q0, hargs, rfl, rfl, h0, r0⟩ := trodAll_cons hA
  obtain ⟨v1, vs1, d1, ds1, p1, q1, rfl, rfl, rfl, h1, r1⟩ := trodAll_cons r0
  obtain ⟨v2, vs2, d2, ds2, p2, q2, rfl, rfl, rfl, h2, r2⟩ := trodAll_cons r1
  obtain ⟨rfl, rfl, rfl⟩ := trodAll_nil r2
  obtain rfl : args = #[v0, v1, v2] := by cases args; simp_all
  obtain ⟨rfl, rfl⟩ := trodVars_none hV
  have k0 := h0
  have lt0 : ∀ x ∈ p0, x.block < W.heap.size := by obtain ⟨m, hm⟩ := k0; exact DataW.trod_lt m _ _ _ hm
  obtain ⟨t0, a0, n0, c0, z0, rfl, rd0, lc0, cm0, wt0, w0⟩ := open_tab (hval 0 25 v0 rfl rfl) h0
  have k1 := h1
  have lt1 : ∀ x ∈ p1, x.block < W.heap.size := by obtain ⟨m, hm⟩ := k1; exact DataW.trod_lt m _ _ _ hm
  obtain ⟨s1, a1, c1, rfl, ok1, rd1, lc1, cm1, sl1⟩ := open_src (hval 1 30 v1 rfl rfl) h1
  obtain ⟨a2, rfl, rfl, rfl, w2⟩ := open_int Tryz.underlying3 (hval 2 3 v2 rfl rfl) h2
  clear hA0 hval0
  refine (walk t0 a0 n0 c0 z0 s1 a1 c1 a2 W rd0 lc0 cm0 wt0 w0 ok1 rd1 lc1 cm1 sl1 w2 (kst_of_laid hL)).mono fun e W' ⟨he, bel⟩ => ?_
  subst he
  exact ⟨_, rfl, _, _, _, [], _, [], hW', trodAll_mk1 (shut_bool Tryz.underlying4 _), (trodAll_cons_mk (Below.trod laidOut (by kernel_rfl) (of_decide_eq_true (by kernel_rfl)) k0 bel lt0) (trodAll_cons_mk (Below.trod laidOut (by kernel_rfl) (of_decide_eq_true (by kernel_rfl)) k1 bel lt1) (trodAll_cons_mk (shut_int Tryz.underlying3 w2) trodAll_mk0))), rfl, bel.frame _, fun h => by cases h⟩

theorem over : Rows.pickDrawsRow.holds Tryz.pinned (OpenSpec.ofChange Rows.pickDrawsSpec) :=
  OpenClaim.holds_of_wide 3 Tryz.f3 rfl rfl rfl rfl rfl rfl rfl ⟨rfl, rfl, rfl, rfl, rfl⟩ rfl rfl rfl rfl rfl (by kernel_rfl) Tryz.func3 (by kernel_rfl)
    (of_decide_eq_true (by kernel_rfl)) (by unfold Func.isWrapper; first | (rw [if_pos (by decide +kernel)]; kernel_rfl) | (rw [if_neg (by decide +kernel)]; exact ⟨rfl, rfl⟩))
    (fun os started H enc _ => lifted os started H enc)

end Go.Proofs.YtomkidgmpbjgeaaGreatDoor.pickDraws
namespace Go.Proofs.YtomkidgmpbjgeaaGreatDoor
theorem pickDraws_holds : Rows.PickDrawsCardSaid :=
  Claim7.holds_tied_plain_at .later [] kindsK true _ false
    pickDraws.over (fun _ h => by cases h) (by kernel_rfl) (fun _ h => by cases h) pickDraws_row_tie rfl ⟨rfl, rfl⟩ (by kernel_rfl) rfl
    (fun f fn hf hfn => by
      obtain rfl : f = 3 := Option.some.inj ((show Tryz.prog.funcNamed "drawlot/drawlotlaw15.PickDraws" = some 3 by kernel_rfl).symm.trans hf) |>.symm
      obtain rfl : fn = Tryz.f3 := (Option.some.inj (Tryz.func3.symm.trans hfn)).symm
      exact ⟨by kernel_rfl, fun j t ht => by
        rw [Tryz.params3] at ht
        have hm : t ∈ [25, 30, 3] := by simpa using Array.mem_of_getElem? ht
        have hall : ([25, 30, 3].all fun u => !Tryz.prog.wantsStandIn u) = true := by kernel_rfl
        exact (show Tryz.prog.wantsStandIn t = false by simpa using List.all_eq_true.1 hall t hm)⟩)
    (by kernel_rfl)
#print axioms pickDraws_holds
end Go.Proofs.YtomkidgmpbjgeaaGreatDoor

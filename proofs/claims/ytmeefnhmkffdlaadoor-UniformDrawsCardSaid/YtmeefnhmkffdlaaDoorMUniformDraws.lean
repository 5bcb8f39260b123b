/-
  What is drawn of any source, below any bound, is the document's, or refused, for its reason; of up to 500 bytes.
  Conditions: the program's table of constants reads, when the call begins, as its text lays it (the card ties that).
-/
import Derived.Test.YtmeefnhmkffdlaaDoorGe
import Derived.ShutString
import Derived.Test.YtmeefnhmkffdlaaDoorTie
import Derived.Test.YtmeefnhmkffdlaaDoorCards
import Derived.SevenTiedAt
import Derived.ChangeOld
namespace Go.Proofs.YtmeefnhmkffdlaaDoor.uniformDraws
open Go.ChangeShapes Go.WideShapes Go.ChangeAt Go.RowKit
set_option linter.unusedVariables false
set_option linter.unusedSimpArgs false
set_option maxRecDepth 100000

theorem own : ownKnob Tryd.prog.godebug = none := by kernel_rfl
theorem laidOut : laidOutB Tryd.prog = true := by kernel_rfl

theorem size_of (s : Src) (l : s.tape.length ≤ 500) (ok : s.tape.length ≤ 140737488355328 → s.Ok) : s.Ok := ok (Nat.le_trans l (by decide))
theorem draw_u {s : Src} {n a : Int} {A : Option Addr} {x e : Int} {X : Src} (hx : drawV s n a = x) (hX : drawT s n a = X) (he : drawE s n a = e) {w w' : World} {en : Ending} (h : RetDraw w s A (drawR s n a) en w') :
    ∃ A' c', en = .returned (.tuple #[.int .u64 x, .agg (srcV X A' c'), .int .i64 e]) ∧ Rd .u8 w' w'.heap.size A' s.tape.length s.tape ∧ s.tape.length ≤ c' ∧ c' ≤ maxLen ∧ Sep w A A' ∧ Below w.heap.size w w' := by
  subst hx hX he
  exact h
set_option maxHeartbeats 8000000 in
theorem great_walk (s : Src) (A : Option Addr) (c : Nat) (n a : Int) (sl : s.seed.length = 32) (w : World) (hg : (500 : Int) < (s.tape.length : Int)) (hkst : Kst w) :
    Calls Tryd.prog 3 #[.agg (srcV s A c), .int .u64 n, .int .i64 a] w fun e w' => e = .returned (.bool true) ∧ Below w.heap.size w w' := by
  have HKS := Lib.hid hkst
  have HCS := Lib.hid (fun (W : World) (g : Nat) (h : Blk W g 27 (srcV s A c)) => (h.cell 1).trans (srcV_tape s A c))
  obtain ⟨L, hL⟩ : ∃ x, s.tape.length = x := ⟨_, rfl⟩
  rw [hL] at HCS hg
  clear hL sl hkst
  go_enter Tryd.func3, Tryd.ntmps3
  go_wp2_with (first
    | (with_reducible refine at_any ?_; refine at_dst 3 rfl ?_; refine wpList_box_any rfl 27 (.tmp 0) rfl (srcV s A c) rfl ?_; intro w1 hk1 hs1 hb1; have F1 := Lib.hid (Fx.newB (Fx.bel0 w) hk1.out hb1); clear hk1 hs1 hb1)
    | (go_at_call 7; (with_reducible refine (alive8_c _ (HKS.out.below (Fx.e1 F1.out))).mono ?_); rintro e wa ⟨rfl, hba⟩; have G0 := Lib.hid (F1.out.below hba); have cs0 := HCS.out _ _ (Fx.b0 G0.out); clear F1 hba))
  go_ret
  exact ⟨rfl, Fx.e1 G0.out⟩
set_option maxHeartbeats 8000000 in
theorem main_walk (s : Src) (A : Option Addr) (c : Nat) (n a : Int) (oks : s.Ok) (w : World) (hrs : Rd .u8 w w.heap.size A s.tape.length s.tape) (lc : s.tape.length ≤ c) (mc : c ≤ maxLen) (n0 : 0 ≤ n) (n1 : n < 18446744073709551616) (a0 : -9223372036854775808 ≤ a) (a1 : a < 9223372036854775808) (hg : s.tape.length ≤ 500) (hkst : Kst w) :
    Calls Tryd.prog 3 #[.agg (srcV s A c), .int .u64 n, .int .i64 a] w fun e w' => e = .returned (.bool true) ∧ Below w.heap.size w w' := by
  have H500 := Lib.hid (show s.tape.length ≤ 100000000 by omega)
  have HKS := Lib.hid hkst
  have HRS := Lib.hid hrs
  have HLs := Lib.hid oks.sl
  have okX := drawT_ok s n a oks
  have hXt := drawT_tape s n a
  obtain ⟨x, hx⟩ : ∃ x, drawV s n a = x := ⟨_, rfl⟩
  obtain ⟨X, hX⟩ : ∃ x, drawT s n a = x := ⟨_, rfl⟩
  obtain ⟨e, he⟩ : ∃ x, drawE s n a = x := ⟨_, rfl⟩
  obtain ⟨k, hk⟩ : ∃ k, needN n = k := ⟨_, rfl⟩
  rw [hX] at okX hXt
  have HLX := Lib.hid okX.sl
  have HQ := Lib.hid (fun W h k' => (q8draw_c s oks n n0 n1 a a0 a1 A c lc mc W h k').mono fun _ _ h => draw_u hx hX he h)
  have HR := Lib.hid (fun W h => (r8draw_c s oks n n0 n1 a a0 a1 A c lc mc W h).mono fun _ _ h => draw_u hx hX he h)
  have hsx := fun A B c d W h1 h2 => rssame_c X X okX okX A B c d W h1 h2
  rw [sameS_refl, hXt] at hsx
  have HSX := Lib.hid hsx
  have hnq := fun W => q8need_c n n0 n1 W
  have hnr := fun W => r8need_c n n0 n1 W
  rw [hk] at hnq hnr
  have HNQ := Lib.hid hnq
  have HNR := Lib.hid hnr
  have HCS := Lib.hid (fun (W : World) (g : Nat) (h : Blk W g 27 (srcV s A c)) => (h.cell 1).trans (srcV_tape s A c))
  have hl : (s.tape.length : Int) ≤ 500 := by omega
  have HZ0 := Lib.hid zero_src
  have HZL := Lib.hid (show Src.zero.seed.length = 32 from rfl)
  clear hsx okX hXt hx hX he hnq hnr hk hrs hkst oks n0 n1 a0 a1 lc mc
  go_enter Tryd.func3, Tryd.ntmps3
  go_wp2_with (first
    | (with_reducible refine at_any ?_; refine at_dst 3 rfl ?_; refine wpList_box_any rfl 27 (.tmp 0) rfl (srcV s A c) rfl ?_; intro w1 hk1 hs1 hb1; have F1 := Lib.hid (Fx.newB (Fx.bel0 w) hk1.out hb1); clear hk1 hs1 hb1)
    | (go_at_call 7; (with_reducible refine (alive8_c _ (HKS.out.below (Fx.e1 F1.out))).mono ?_); rintro e wa ⟨rfl, hba⟩; have G0 := Lib.hid (F1.out.below hba); have cs0 := HCS.out _ _ (Fx.b0 G0.out); clear F1 hba; have cs1 := HCS.out _ _ (Blk.alloc (Fx.b0 G0.out) (.cells #[] 5)))
    | (with_reducible refine at_any ?_; refine at_dst 23 rfl ?_; refine wpList_own_copy wa rfl (.tmp 20) (.tmp 22) rfl rfl A s.tape.length c s.tape rfl ((HRS.out.below (Fx.e1 G0.out)).mono (Below.size (Fx.e1 G0.out))) H500.out ?_; intro A7 c7 w51 hbw51 hrw51 hcw51 hmw51; have G52 := Lib.hid (Fx.addR G0.out hbw51 hrw51); clear G0; clear hrw51 hbw51 hcw51 hmw51)
    | (with_reducible refine at_any ?_; refine at_dst 25 rfl ?_; refine wpList_load_blk rfl 27 (.tmp 3) rfl w.heap.size rfl 27 (srcV s A c) (Fx.b1 G52.out) _ Tryd.underlying27 rfl (sizedS s HLs.out _ _) ?_)
    | (go_at_call 8; (with_reducible refine (HQ.out _ ((HRS.out.below (Fx.e2 G52.out)).mono (Below.size (Fx.e2 G52.out))) (HKS.out.below (Fx.e2 G52.out))).mono ?_); rintro e w53 ⟨A54, c55, rfl, hrw53, hlw53, hmw53, _, hbw53⟩; have lc55 := Lib.hid hlw53; have mc55 := Lib.hid hmw53; have G56 := Lib.hid (Fx.addR G52.out hbw53 hrw53); clear G52; clear hrw53 hbw53 hlw53 hmw53)
    | (with_reducible refine at_any ?_; refine at_dst 9 rfl ?_; refine wpList_alloc_any rfl 27 rfl (srcV Src.zero none 0) HZ0.out ?_; intro w57 hkw57 hsw57 hbw57; have U58 := Lib.hid (Fx.under_new G56.out rfl); have G59 := Lib.hid (Fx.newB G56.out hkw57.out hbw57); clear G56; clear hkw57 hsw57 hbw57)
    | (with_reducible refine at_any ?_; refine at_store 9 rfl ?_; refine wpList_store_any rfl 27 (.tmp 9) (.tmp 30) rfl w53.heap.size rfl 27 (srcV Src.zero none 0) (srcV X A54 c55) (Fx.b0 G59.out) rfl (srcV_same _ X HZL.out HLX.out _ _ _ _) (sizedS X HLX.out _ _) (srcV_ones _ _ _) ?_; intro w60 hkw60 hsw60 hbw60 how60; have G61 := Lib.hid (Fx.put1B G59.out U58.out hkw60.out hsw60.out hbw60 how60); clear G59; clear hkw60 hsw60 hbw60 how60)
    | (with_reducible refine at_any ?_; refine at_dst 33 rfl ?_; refine wpList_load_blk rfl 27 (.tmp 3) rfl w.heap.size rfl 27 (srcV s A c) (Fx.b3 G61.out) _ Tryd.underlying27 rfl (sizedS s HLs.out _ _) ?_)
    | (go_at_call 9; (with_reducible refine (HR.out _ ((HRS.out.below (Fx.e4 G61.out)).mono (Below.size (Fx.e4 G61.out)))).mono ?_); rintro e w62 ⟨A63, c64, rfl, hrw62, hlw62, hmw62, _, hbw62⟩; have lc64 := Lib.hid hlw62; have mc64 := Lib.hid hmw62; have G65 := Lib.hid (Fx.addR G61.out hbw62 hrw62); clear G61; clear hrw62 hbw62 hlw62 hmw62)
    | (with_reducible refine at_any ?_; refine at_dst 12 rfl ?_; refine wpList_alloc_any rfl 27 rfl (srcV Src.zero none 0) HZ0.out ?_; intro w66 hkw66 hsw66 hbw66; have U67 := Lib.hid (Fx.under_new G65.out rfl); have G68 := Lib.hid (Fx.newB G65.out hkw66.out hbw66); clear G65; clear hkw66 hsw66 hbw66)
    | (with_reducible refine at_any ?_; refine at_store 12 rfl ?_; refine wpList_store_any rfl 27 (.tmp 12) (.tmp 38) rfl w62.heap.size rfl 27 (srcV Src.zero none 0) (srcV X A63 c64) (Fx.b0 G68.out) rfl (srcV_same _ X HZL.out HLX.out _ _ _ _) (sizedS X HLX.out _ _) (srcV_ones _ _ _) ?_; intro w69 hkw69 hsw69 hbw69 how69; have G70 := Lib.hid (Fx.put1B G68.out U67.out hkw69.out hsw69.out hbw69 how69); clear G68; clear hkw69 hsw69 hbw69 how69)
    | (with_reducible refine at_any ?_; refine at_dst 44 rfl ?_; refine wpList_load_gdb (by kernel_rfl) 27 (.tmp 9) rfl w53.heap.size rfl 27 (srcV X A54 c55) (Fx.b2 G70.out) _ Tryd.underlying27 rfl (sizedS X HLX.out _ _) ?_)
    | (with_reducible refine at_any ?_; refine at_dst 45 rfl ?_; refine wpList_load_gdb (by kernel_rfl) 27 (.tmp 12) rfl w62.heap.size rfl 27 (srcV X A63 c64) (Fx.b0 G70.out) _ Tryd.underlying27 rfl (sizedS X HLX.out _ _) ?_)
    | (go_at_call 10; (with_reducible refine (HSX.out A54 A63 c55 c64 _ (Fx.r3 G70.out) (Fx.r1 G70.out)).mono ?_); rintro e w71 ⟨rfl, hbw71⟩; have G72 := Lib.hid (Fx.below G70.out hbw71); clear G70; clear hbw71; have x7 := str_rd5 (c := c7) (Fx.r4 G72.out); have xs := str_rd5 (c := c) ((HRS.out.below (Fx.e6 G72.out)).mono (Below.size (Fx.e6 G72.out))); have cs2 := HCS.out _ _ (Fx.b5 G72.out))
    | (go_at_call 11; (with_reducible refine (HNQ.out _).mono ?_); rintro e _ ⟨rfl, rfl⟩)
    | (go_at_call 12; (with_reducible refine (HNR.out _).mono ?_); rintro e _ ⟨rfl, rfl⟩))
  go_ret
  exact ⟨rfl, (Fx.e6 G72.out)⟩
theorem walk (s0 : Src) (a0 : Option Addr) (c0 : Nat) (a1 a2 : Int) (w : World) (ok0 : s0.tape.length ≤ 140737488355328 → s0.Ok) (rd0 : Rd .u8 w w.heap.size a0 s0.tape.length s0.tape) (lc0 : s0.tape.length ≤ c0) (cm0 : c0 ≤ maxLen) (sl0 : s0.seed.length = 32) (w1 : (Lit.int .u64 a1).wf = true) (w2 : (Lit.int .i64 a2).wf = true) (hkst : Kst w) :
    Calls Tryd.prog 3 #[.agg (srcV s0 a0 c0), .int .u64 a1, .int .i64 a2] w fun e w' => e = .returned (.bool true) ∧ Below w.heap.size w w' := by
  have h1 := bounds_u64 w1
  have h2 := bounds_i64 w2
  by_cases h : s0.tape.length ≤ 500
  · exact main_walk s0 a0 c0 a1 a2 (size_of s0 h ok0) w rd0 lc0 cm0 (by omega) (by omega) (by omega) (by omega) h hkst
  · exact great_walk s0 a0 c0 a1 a2 sl0 w (by omega) hkst


set_option maxRecDepth 100000 in
theorem lifted (os : Os) (started : os.Started) (H : Type) (enc : TypeId × Value → H) :
    ReturnsInHanded {} Tryd.checked os 3 .any (fun w args => (Rows.uniformDrawsSpec.pre enc Tryd.prog Tryd.f3 [] false w args ∧ laidMetH Tryd.prog laidK w) ∧ sizedMet enc Tryd.prog Tryd.f3 (OpenSpec.ofChange Rows.uniformDrawsSpec) false w args) (Rows.uniformDrawsSpec.post enc Tryd.prog Tryd.f3 false true false false) := by
  refine returnsInHanded_of_change_and (C := Tryd.checked) (X := fun w _ => laidMetH Tryd.prog laidK w) (fun _ _ _ hh h => h.of_heap hh) own started (by kernel_rfl) Tryd.func3
    (ChangeSpec.witness_shaped (enc := enc) (C := Tryd.checked) (os := os) (X := fun w _ => laidMetH Tryd.prog laidK w) false (World.doorLaid Tryd.prog 400 os) #[.agg #[.int .i64 0, .slice none 0 0, .int .u64 0, .int .u8 0, .int .u8 0, .int .u8 0, .int .u8 0, .int .u8 0, .int .u8 0, .int .u8 0, .int .u8 0, .int .u8 0, .int .u8 0, .int .u8 0, .int .u8 0, .int .u8 0, .int .u8 0, .int .u8 0, .int .u8 0, .int .u8 0, .int .u8 0, .int .u8 0, .int .u8 0, .int .u8 0, .int .u8 0, .int .u8 0, .int .u8 0, .int .u8 0, .int .u8 0, .int .u8 0, .int .u8 0, .int .u8 0, .int .u8 0, .int .u8 0, .int .u8 0, .int .u64 0, .int .u64 0], .int .u64 0, .int .i64 0] 8 rfl (World.shaped_of_RefB (by kernel_rfl) (by kernel_rfl)) (by kernel_rfl) (by kernel_rfl) (by kernel_rfl) (door_met os _)) ?_
  intro W base args ds gs before hval0 hW _ _ hL _
  have hval : ∀ (j : Nat) t v, Tryd.f3.params[j]? = some t → args[j]? = some v → Value.okWide Tryd.prog W .any base t v := hval0
  have hW' := hW
  obtain ⟨p, q, hA0, hV, rfl, hfz, hnd⟩ := hW
  have hA : DataW.TrodAll enc Tryd.prog W 0 (fun _ => true) true Tryd.f3.params.toList args.toList ds p := hA0
  rw [Tryd.params3] at hA hval
  obtain ⟨v0, vs0, d0, ds0, p0, q0, hargs, rfl, rfl, h0, r0⟩ := trodAll_cons hA
  obtain ⟨v1, vs1, d1, ds1, p1, q1, rfl, rfl, rfl, h1, r1⟩ := trodAll_cons r0
  obtain ⟨v2, vs2, d2, ds2, p2, q2, rfl, rfl, rfl, h2, r2⟩ := trodAll_cons r1
  obtain ⟨rfl, rfl, rfl⟩ := trodAll_nil r2
  obtain rfl : args = #[v0, v1, v2] := by cases args; simp_all
  obtain ⟨rfl, rfl⟩ := trodVars_none hV
  have k0 := h0
  have lt0 : ∀ x ∈ p0, x.block < W.heap.size := by obtain ⟨m, hm⟩ := k0; exact DataW.trod_lt m _ _ _ hm
  obtain ⟨s0, a0, c0, rfl, ok0, rd0, lc0, cm0, sl0⟩ := open_src (hval 0 27 v0 rfl rfl) h0
  obtain ⟨a1, rfl, rfl, rfl, w1⟩ := open_int Tryd.underlying23 (hval 1 23 v1 rfl rfl) h1
  obtain ⟨a2, rfl, rfl, rfl, w2⟩ := open_int Tryd.underlying3 (hval 2 3 v2 rfl rfl) h2
  clear hA0 hval0
  refine (walk s0 a0 c0 a1 a2 W ok0 rd0 lc0 cm0 sl0 w1 w2 (kst_of_laid hL)).mono fun e W' ⟨he, bel⟩ => ?_
  subst he
  exact ⟨_, rfl, _, _, _, [], _, [], hW', trodAll_mk1 (shut_bool Tryd.underlying4 _), (trodAll_cons_mk (Below.trod laidOut (by kernel_rfl) (of_decide_eq_true (by kernel_rfl)) k0 bel lt0) (trodAll_cons_mk (shut_int Tryd.underlying23 w1) (trodAll_cons_mk (shut_int Tryd.underlying3 w2) trodAll_mk0))), rfl, bel.frame _, fun h => by cases h⟩

theorem over : Rows.uniformDrawsRow.holds Tryd.pinned (OpenSpec.ofChange Rows.uniformDrawsSpec) :=
  OpenClaim.holds_of_wide 3 Tryd.f3 rfl rfl rfl rfl rfl rfl rfl ⟨rfl, rfl, rfl, rfl, rfl⟩ rfl rfl rfl rfl rfl (by kernel_rfl) Tryd.func3 (by kernel_rfl)
    (of_decide_eq_true (by kernel_rfl)) (by unfold Func.isWrapper; first | (rw [if_pos (by decide +kernel)]; kernel_rfl) | (rw [if_neg (by decide +kernel)]; exact ⟨rfl, rfl⟩))
    (fun os started H enc _ => lifted os started H enc)

end Go.Proofs.YtmeefnhmkffdlaaDoor.uniformDraws
namespace Go.Proofs.YtmeefnhmkffdlaaDoor
theorem uniformDraws_holds : Rows.UniformDrawsCardSaid :=
  Claim7.holds_tied_plain_at .later [] [.data] true _ false
    uniformDraws.over (fun _ h => by cases h) (by kernel_rfl) (fun _ h => by cases h) uniformDraws_row_tie rfl ⟨rfl, rfl⟩ (by kernel_rfl) rfl
    (fun f fn hf hfn => by
      obtain rfl : f = 3 := Option.some.inj ((show Tryd.prog.funcNamed "drawlot/drawlotlaw08.UniformDraws" = some 3 by kernel_rfl).symm.trans hf) |>.symm
      obtain rfl : fn = Tryd.f3 := (Option.some.inj (Tryd.func3.symm.trans hfn)).symm
      exact ⟨by kernel_rfl, fun j t ht => by
        rw [Tryd.params3] at ht
        have hm : t ∈ [27, 23, 3] := by simpa using Array.mem_of_getElem? ht
        have hall : ([27, 23, 3].all fun u => !Tryd.prog.wantsStandIn u) = true := by kernel_rfl
        exact (show Tryd.prog.wantsStandIn t = false by simpa using List.all_eq_true.1 hall t hm)⟩)
    (by kernel_rfl)
#print axioms uniformDraws_holds
end Go.Proofs.YtmeefnhmkffdlaaDoor

/-
  Who leads, by the table of any stakes, is the document's, or refused, for its reason; of up to 200 stakes.
  Conditions: the program's table of constants reads, when the call begins, as its text lays it (the card ties that).
-/
import Derived.Test.YtomkidgmpbjgeaaGreatDoorGf
import Derived.ShutString
import Derived.Test.YtomkidgmpbjgeaaGreatDoorTie
import Derived.Test.YtomkidgmpbjgeaaGreatDoorCards
import Derived.SevenTiedAt
import Derived.ChangeOld
namespace Go.Proofs.YtomkidgmpbjgeaaGreatDoor.pickLists
open Go.ChangeShapes Go.WideShapes Go.ChangeAt Go.RowKit
set_option linter.unusedVariables false
set_option linter.unusedSimpArgs false
set_option maxRecDepth 100000

theorem own : ownKnob Tryz.prog.godebug = none := by kernel_rfl
theorem laidOut : laidOutB Tryz.prog = true := by kernel_rfl

set_option maxHeartbeats 16000000 in
theorem walk (a0 : Option Addr) (n c : Nat) (zs : List Int) (s : Src) (A : Option Addr) (d : Nat) (a : Int) (w : World) (hrz : Rd .u64 w w.heap.size a0 n zs) (lc : n ≤ c) (cm : c ≤ maxLen) (hw : ∀ z ∈ zs, (Lit.int .u64 z).wf = true) (ok0 : s.tape.length ≤ 140737488355328 → s.Ok) (hrs : Rd .u8 w w.heap.size A s.tape.length s.tape) (ld : s.tape.length ≤ d) (dm : d ≤ maxLen) (sl : s.seed.length = 32) (w2 : (Lit.int .i64 a).wf = true) (hkst : Kst w) :
    Calls Tryz.prog 4 #[.slice a0 n c, .agg (srcV s A d), .int .i64 a] w fun e w' => e = .returned (.bool true) ∧ Below w.heap.size w w' := by
  have HZ0 := Lib.hid zero_src
  have HZL := Lib.hid (show Src.zero.seed.length = 32 from rfl)
  have HKS := Lib.hid hkst
  have HLs := Lib.hid sl
  have G0 : Hid (Fx [.rdb .u64 w.heap.size a0 n zs, .rdb .u8 w.heap.size A s.tape.length s.tape, .bel w] w) := Lib.hid ⟨⟨hrz, Nat.le_refl _⟩, ⟨hrs, Nat.le_refl _⟩, Below.refl _ _, trivial⟩
  have hlen := hrz.len
  have hz : ∀ z ∈ zs, 0 ≤ z ∧ z < 18446744073709551616 := fun z h => by
    obtain ⟨h1, h2⟩ := bounds_u64 (hw z h)
    omega
  have hnm : n ≤ maxLen := Nat.le_trans lc cm
  have hgr := fun W => r13great_c s (by have h1 := Nat.le_trans ld dm; unfold maxLen at h1; omega) a0 n c hnm A d W
  have b0 : -9223372036854775808 ≤ a := by have := (bounds_i64 w2).1; omega
  have b1 : a < 9223372036854775808 := by have := (bounds_i64 w2).2; omega
  by_cases hg : 200 < n ∨ 500 < s.tape.length
  · rw [decide_eq_true hg] at hgr
    have HGR := Lib.hid hgr
    clear hgr hrz hw hrs hz hg hkst ok0 sl
    go_enter Tryz.func4, Tryz.ntmps4
    go_wp2_with (first
      | (with_reducible refine at_any ?_; refine at_dst 4 rfl ?_; refine wpList_box_any rfl 30 (.tmp 1) rfl (srcV s A d) rfl ?_; intro w1 hkw1 hsw1 hbw1; have G2 := Lib.hid (Fx.newB G0.out hkw1.out hbw1); clear G0; clear hkw1 hsw1 hbw1)
      | (go_at_call 5; (with_reducible refine (alive15_c _ (HKS.out.below (Fx.e3 G2.out))).mono ?_); rintro e w3 ⟨rfl, hbw3⟩; have G4 := Lib.hid (Fx.below G2.out hbw3); clear G2; clear hbw3)
      | (with_reducible refine at_any ?_; refine at_dst 18 rfl ?_; refine wpList_load_blk rfl 30 (.tmp 4) rfl w.heap.size rfl 30 (srcV s A d) (Fx.b0 G4.out) _ Tryz.underlying30 rfl (sizedS s HLs.out _ _) ?_)
      | (go_at_call 9; (with_reducible refine (HGR.out _).mono ?_); rintro e w5 ⟨rfl, hbw5⟩; have G6 := Lib.hid (Fx.below G4.out hbw5); clear G4; clear hbw5))
    go_ret
    exact ⟨rfl, (Fx.e3 G6.out)⟩
  rw [decide_eq_false hg] at hgr
  have HGR := Lib.hid hgr
  have hg1 : n ≤ 200 := Nat.le_of_not_lt fun h => hg (.inl h)
  have hg2 : s.tape.length ≤ 500 := Nat.le_of_not_lt fun h => hg (.inr h)
  have hg3 : (n : Int) ≤ 200 := by omega
  have oks : s.Ok := ok0 (by omega)
  have hn5 : n ≤ 100000000 := by omega
  have hz0 : ∀ z ∈ zs, 0 ≤ z := fun z h => (hz z h).1
  obtain ⟨okX, hXt⟩ := pikR_in zs s a oks
  have hq := fun AL c W h1 h2 k => q15list_c zs hz AL n c (by omega) s oks a b0 b1 A d ld dm W h1 h2 k
  have hr := fun AL c W h1 h2 => r15list_c zs hz AL n c (by omega) s oks a b0 b1 A d ld dm W h1 h2
  obtain ⟨r, hrr⟩ : ∃ r, pikR zs s a = r := ⟨_, rfl⟩
  rw [hrr] at okX hXt hq hr
  obtain ⟨x, X, e⟩ := r
  have HQ := Lib.hid (fun AL c W h1 h2 k => (hq AL c W h1 h2 k).mono fun _ _ h => led_uP rfl rfl rfl h)
  have HR := Lib.hid (fun AL c W h1 h2 => (hr AL c W h1 h2).mono fun _ _ h => led_uP rfl rfl rfl h)
  dsimp only at okX hXt HQ HR
  have HLX := Lib.hid okX.sl
  have HSX := Lib.hid (fun A B c d W h h' => calls_val (v' := .bool true) (rssame_c X X okX okX A B c d W (by rw [hXt]; exact h) (by rw [hXt]; exact h')) (congrArg Value.bool (sameS_refl X)))
  have H5 := Lib.hid hn5
  have HLN := Lib.hid hlen
  clear hq hr hrr okX hXt hgr hrz hw hrs hz hz0 hg hkst ok0 sl oks hg1 hg2 hn5 hlen b0 b1 w2 lc cm ld dm hnm
  go_enter Tryz.func4, Tryz.ntmps4
  go_wp2_with (first
    | (with_reducible refine at_any ?_; refine at_dst 4 rfl ?_; refine wpList_box_any rfl 30 (.tmp 1) rfl (srcV s A d) rfl ?_; intro w1 hkw1 hsw1 hbw1; have G2 := Lib.hid (Fx.newB G0.out hkw1.out hbw1); clear G0; clear hkw1 hsw1 hbw1)
    | (go_at_call 5; (with_reducible refine (alive15_c _ (HKS.out.below (Fx.e3 G2.out))).mono ?_); rintro e w3 ⟨rfl, hbw3⟩; have G4 := Lib.hid (Fx.below G2.out hbw3); clear G2; clear hbw3)
    | (with_reducible refine at_any ?_; refine at_dst 18 rfl ?_; refine wpList_load_blk rfl 30 (.tmp 4) rfl w.heap.size rfl 30 (srcV s A d) (Fx.b0 G4.out) _ Tryz.underlying30 rfl (sizedS s HLs.out _ _) ?_)
    | (go_at_call 9; (with_reducible refine (HGR.out _).mono ?_); rintro e w5 ⟨rfl, hbw5⟩; have G6 := Lib.hid (Fx.below G4.out hbw5); clear G4; clear hbw5)
    | (with_reducible refine at_any ?_; refine at_dst 22 rfl ?_; refine wpList_own_copy8 w5 rfl (.tmp 20) (.tmp 21) rfl rfl a0 n c zs rfl (Fx.r1 G6.out) H5.out ?_; intro A8 c9 w7 hbw7 hrw7 hlw7 hmw7; rw [HLN.out] at hrw7 hlw7 ⊢; have lc9 := Lib.hid hlw7.out; have mc9 := Lib.hid hmw7.out; have G10 := Lib.hid (Fx.addR G6.out hbw7 hrw7); clear G6; clear hrw7 hbw7 hlw7 hmw7)
    | (with_reducible refine at_any ?_; refine at_dst 24 rfl ?_; refine wpList_load_blk rfl 30 (.tmp 4) rfl w.heap.size rfl 30 (srcV s A d) (Fx.b1 G10.out) _ Tryz.underlying30 rfl (sizedS s HLs.out _ _) ?_)
    | (go_at_call 10; (with_reducible refine (HQ.out _ _ _ (Fx.r0 G10.out) (Fx.r3 G10.out) (HKS.out.below (Fx.e4 G10.out))).mono ?_); rintro e w11 ⟨A12, c13, rfl, hrw11, hlw11, hmw11, _, hbw11⟩; have lc13 := Lib.hid hlw11; have mc13 := Lib.hid hmw11; have G14 := Lib.hid (Fx.addR G10.out hbw11 hrw11); clear G10; clear hrw11 hbw11 hlw11 hmw11)
    | (with_reducible refine at_any ?_; refine at_dst 9 rfl ?_; refine wpList_alloc_any rfl 30 rfl (srcV Src.zero none 0) HZ0.out ?_; intro w15 hkw15 hsw15 hbw15; have U16 := Lib.hid (Fx.under_new G14.out rfl); have G17 := Lib.hid (Fx.newB G14.out hkw15.out hbw15); clear G14; clear hkw15 hsw15 hbw15)
    | (with_reducible refine at_any ?_; refine at_store 9 rfl ?_; refine wpList_store_any rfl 30 (.tmp 9) (.tmp 29) rfl w11.heap.size rfl 30 (srcV Src.zero none 0) (srcV X A12 c13) (Fx.b0 G17.out) rfl (srcV_same _ X HZL.out HLX.out _ _ _ _) (sizedS X HLX.out _ _) (srcV_ones _ _ _) ?_; intro w18 hkw18 hsw18 hbw18 how18; have G19 := Lib.hid (Fx.put1B G17.out U16.out hkw18.out hsw18.out hbw18 how18); clear G17; clear hkw18 hsw18 hbw18 how18)
    | (with_reducible refine at_any ?_; refine at_dst 33 rfl ?_; refine wpList_load_blk rfl 30 (.tmp 4) rfl w.heap.size rfl 30 (srcV s A d) (Fx.b3 G19.out) _ Tryz.underlying30 rfl (sizedS s HLs.out _ _) ?_)
    | (go_at_call 11; (with_reducible refine (HR.out _ _ _ (Fx.r4 G19.out) (Fx.r5 G19.out)).mono ?_); rintro e w20 ⟨A21, c22, rfl, hrw20, hlw20, hmw20, _, hbw20⟩; have lc22 := Lib.hid hlw20; have mc22 := Lib.hid hmw20; have G23 := Lib.hid (Fx.addR G19.out hbw20 hrw20); clear G19; clear hrw20 hbw20 hlw20 hmw20)
    | (with_reducible refine at_any ?_; refine at_dst 12 rfl ?_; refine wpList_alloc_any rfl 30 rfl (srcV Src.zero none 0) HZ0.out ?_; intro w24 hkw24 hsw24 hbw24; have U25 := Lib.hid (Fx.under_new G23.out rfl); have G26 := Lib.hid (Fx.newB G23.out hkw24.out hbw24); clear G23; clear hkw24 hsw24 hbw24)
    | (with_reducible refine at_any ?_; refine at_store 12 rfl ?_; refine wpList_store_any rfl 30 (.tmp 12) (.tmp 37) rfl w20.heap.size rfl 30 (srcV Src.zero none 0) (srcV X A21 c22) (Fx.b0 G26.out) rfl (srcV_same _ X HZL.out HLX.out _ _ _ _) (sizedS X HLX.out _ _) (srcV_ones _ _ _) ?_; intro w27 hkw27 hsw27 hbw27 how27; have G28 := Lib.hid (Fx.put1B G26.out U25.out hkw27.out hsw27.out hbw27 how27); clear G26; clear hkw27 hsw27 hbw27 how27))
  go_loopw [14] (fun ii wr => ∃ i : Nat, i ≤ n ∧ ii = .int .i64 (i : Int) ∧ Fx [.blk w20.heap.size 30 (srcV X A21 c22), .rdb .u8 w20.heap.size A21 s.tape.length s.tape, .blk w11.heap.size 30 (srcV X A12 c13), .rdb .u8 w11.heap.size A12 s.tape.length s.tape, .rdb .u64 w7.heap.size A8 n zs, .blk w.heap.size 30 (srcV s A d), .rdb .u64 w.heap.size a0 n zs, .rdb .u8 w.heap.size A s.tape.length s.tape, .bel w] wr) (fun ii _ => n - (intOf ii).toNat)
  case atStart => exact ⟨0, by omega, rfl, G28.out⟩
  case round =>
    clear G28
    obtain ⟨i, hi, rfl, hG⟩ := hrel
    have G9 := Lib.hid hG
    clear hG
    by_cases hlt : i < n
    · obtain ⟨b1, o1, e1, -, hc1⟩ := (Fx.r4 G9.out).at_ (show 0 < n by omega)
      obtain ⟨b2, o2, e2, -, hc2⟩ := (Fx.r6 G9.out).at_ (show 0 < n by omega)
      have hk1 := hc1 i hlt
      have hk2 := hc2 i hlt
      subst e1 e2
      obtain ⟨y, hy⟩ : ∃ y, zs.getD i 0 = y := ⟨_, rfl⟩
      rw [hy] at hk1 hk2
      have i0 : (0 : Int) ≤ (i : Int) := by omega
      have i1 : (i : Int) < (n : Int) := by omega
      have t1 : (y != y) = false := by simp
      clear hc1 hc2 hy
      go_wp2
      go_quiet (fail)
      go_wp2
      go_roundw
      case rel => exact ⟨i + 1, by omega, by go_num, Fx.below G9.out (below_drewN (Below.refl _ _) _)⟩
      case measure => simp [intOf]; omega
    · obtain rfl : i = n := by omega
      go_wp2_with (first
        | (with_reducible refine at_any ?_; refine at_dst 58 rfl ?_; refine wpList_load_gdb (by kernel_rfl) 30 (.tmp 9) rfl w11.heap.size rfl 30 (srcV X A12 c13) (Fx.b2 G9.out) _ Tryz.underlying30 rfl (sizedS X HLX.out _ _) ?_)
        | (with_reducible refine at_any ?_; refine at_dst 59 rfl ?_; refine wpList_load_gdb (by kernel_rfl) 30 (.tmp 12) rfl w20.heap.size rfl 30 (srcV X A21 c22) (Fx.b0 G9.out) _ Tryz.underlying30 rfl (sizedS X HLX.out _ _) ?_)
        | (go_at_call 8; (with_reducible refine (HSX.out _ _ _ _ _ (Fx.r3 G9.out) (Fx.r1 G9.out)).mono ?_); rintro e w601 ⟨rfl, hbw601⟩; have G602 := Lib.hid (Fx.below G9.out hbw601); clear G9; clear hbw601))
      go_ret
      exact ⟨rfl, (Fx.e8 G602.out)⟩


set_option maxRecDepth 100000 in
theorem lifted (os : Os) (started : os.Started) (H : Type) (enc : TypeId × Value → H) :
    ReturnsInHanded {} Tryz.checked os 4 .any (fun w args => (Rows.pickListsSpec.pre enc Tryz.prog Tryz.f4 [] false w args ∧ laidMetH Tryz.prog laidK w) ∧ sizedMet enc Tryz.prog Tryz.f4 (OpenSpec.ofChange Rows.pickListsSpec) false w args) (Rows.pickListsSpec.post enc Tryz.prog Tryz.f4 false true false false) := by
  refine returnsInHanded_of_change_and (C := Tryz.checked) (X := fun w _ => laidMetH Tryz.prog laidK w) (fun _ _ _ hh h => h.of_heap hh) own started (by kernel_rfl) Tryz.func4
    (ChangeSpec.witness_shaped (enc := enc) (C := Tryz.checked) (os := os) (X := fun w _ => laidMetH Tryz.prog laidK w) false (World.doorLaid Tryz.prog 400 os) #[.slice none 0 0, .agg #[.int .i64 0, .slice none 0 0, .int .u64 0, .int .u8 0, .int .u8 0, .int .u8 0, .int .u8 0, .int .u8 0, .int .u8 0, .int .u8 0, .int .u8 0, .int .u8 0, .int .u8 0, .int .u8 0, .int .u8 0, .int .u8 0, .int .u8 0, .int .u8 0, .int .u8 0, .int .u8 0, .int .u8 0, .int .u8 0, .int .u8 0, .int .u8 0, .int .u8 0, .int .u8 0, .int .u8 0, .int .u8 0, .int .u8 0, .int .u8 0, .int .u8 0, .int .u8 0, .int .u8 0, .int .u8 0, .int .u8 0, .int .u64 0, .int .u64 0], .int .i64 0] 8 rfl (World.shaped_of_RefB (by kernel_rfl) (by kernel_rfl)) (by kernel_rfl) (by kernel_rfl) (by kernel_rfl) (door_met os _)) ?_
  intro W base args ds gs before hval0 hW _ _ hL _
  have hval : ∀ (j : Nat) t v, Tryz.f4.params[j]? = some t → args[j]? = some v → Value.okWide Tryz.prog W .any base t v := hval0
  have hW' := hW
  obtain ⟨p, q, hA0, hV, rfl, hfz, hnd⟩ := hW
  have hA : DataW.TrodAll enc Tryz.prog W 0 (fun _ => true) true Tryz.f4.params.toList args.toList ds p := hA0
  rw [Tryz.params4] at hA hval
  obtain ⟨v0, vs0, d0, ds0, p0, q0, hargs, rfl, rfl, h0, r0⟩ := trodAll_cons hA
  obtain ⟨v1, vs1, d1, ds1, p1, q1, rfl, rfl, rfl, h1, r1⟩ := trodAll_cons r0
  obtain ⟨v2, vs2, d2, ds2, p2, q2, rfl, rfl, rfl, h2, r2⟩ := trodAll_cons r1
  obtain ⟨rfl, rfl, rfl⟩ := trodAll_nil r2
  obtain rfl : args = #[v0, v1, v2] := by cases args; simp_all
  obtain ⟨rfl, rfl⟩ := trodVars_none hV
  obtain ⟨a0, n0, c0, rfl⟩ := okWide_slice Tryz.underlying37 (hval 0 37 v0 rfl rfl)
  have k0 := h0
  have lt0 : ∀ x ∈ p0, x.block < W.heap.size := by obtain ⟨m, hm⟩ := k0; exact DataW.trod_lt m _ _ _ hm
  obtain ⟨z0, rd0, lc0, cm0, w0⟩ := open_rd Tryz.underlying37 Tryz.underlying22 (by kernel_rfl) h0
  have k1 := h1
  have lt1 : ∀ x ∈ p1, x.block < W.heap.size := by obtain ⟨m, hm⟩ := k1; exact DataW.trod_lt m _ _ _ hm
  obtain ⟨s1, a1, c1, rfl, ok1, rd1, lc1, cm1, sl1⟩ := open_src (hval 1 30 v1 rfl rfl) h1
  obtain ⟨a2, rfl, rfl, rfl, w2⟩ := open_int Tryz.underlying3 (hval 2 3 v2 rfl rfl) h2
  clear hA0 hval0
  refine (walk a0 n0 c0 z0 s1 a1 c1 a2 W rd0 lc0 cm0 w0 ok1 rd1 lc1 cm1 sl1 w2 (kst_of_laid hL)).mono fun e W' ⟨he, bel⟩ => ?_
  subst he
  exact ⟨_, rfl, _, _, _, [], _, [], hW', trodAll_mk1 (shut_bool Tryz.underlying4 _), (trodAll_cons_mk (Below.trod laidOut (by kernel_rfl) (of_decide_eq_true (by kernel_rfl)) k0 bel lt0) (trodAll_cons_mk (Below.trod laidOut (by kernel_rfl) (of_decide_eq_true (by kernel_rfl)) k1 bel lt1) (trodAll_cons_mk (shut_int Tryz.underlying3 w2) trodAll_mk0))), rfl, bel.frame _, fun h => by cases h⟩

theorem over : Rows.pickListsRow.holds Tryz.pinned (OpenSpec.ofChange Rows.pickListsSpec) :=
  OpenClaim.holds_of_wide 4 Tryz.f4 rfl rfl rfl rfl rfl rfl rfl ⟨rfl, rfl, rfl, rfl, rfl⟩ rfl rfl rfl rfl rfl (by kernel_rfl) Tryz.func4 (by kernel_rfl)
    (of_decide_eq_true (by kernel_rfl)) (by unfold Func.isWrapper; first | (rw [if_pos (by decide +kernel)]; kernel_rfl) | (rw [if_neg (by decide +kernel)]; exact ⟨rfl, rfl⟩))
    (fun os started H enc _ => lifted os started H enc)

end Go.Proofs.YtomkidgmpbjgeaaGreatDoor.pickLists
namespace Go.Proofs.YtomkidgmpbjgeaaGreatDoor
theorem pickLists_holds : Rows.PickListsCardSaid :=
  Claim7.holds_tied_plain_at .later [] kindsK true _ false
    pickLists.over (fun _ h => by cases h) (by kernel_rfl) (fun _ h => by cases h) pickLists_row_tie rfl ⟨rfl, rfl⟩ (by kernel_rfl) rfl
    (fun f fn hf hfn => by
      obtain rfl : f = 4 := Option.some.inj ((show Tryz.prog.funcNamed "drawlot/drawlotlaw15.PickLists" = some 4 by kernel_rfl).symm.trans hf) |>.symm
      obtain rfl : fn = Tryz.f4 := (Option.some.inj (Tryz.func4.symm.trans hfn)).symm
      exact ⟨by kernel_rfl, fun j t ht => by
        rw [Tryz.params4] at ht
        have hm : t ∈ [37, 30, 3] := by simpa using Array.mem_of_getElem? ht
        have hall : ([37, 30, 3].all fun u => !Tryz.prog.wantsStandIn u) = true := by kernel_rfl
        exact (show Tryz.prog.wantsStandIn t = false by simpa using List.all_eq_true.1 hall t hm)⟩)
    (by kernel_rfl)
#print axioms pickLists_holds
end Go.Proofs.YtomkidgmpbjgeaaGreatDoor

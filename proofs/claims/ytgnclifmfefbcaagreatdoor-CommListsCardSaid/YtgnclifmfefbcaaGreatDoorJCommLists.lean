/-
  The committee of any stakes, by any source, is the document's, or refused, for its reason; of up to 200 stakes.
  Conditions: the program's tables read, when the call begins, as its text lays them (the card ties that).
-/
import Derived.Test.YtgnclifmfefbcaaGreatDoorJGf
import Derived.ShutString
import Derived.Test.YtgnclifmfefbcaaGreatDoorTie
import Derived.Test.YtgnclifmfefbcaaGreatDoorCards
import Derived.SevenTiedAt
import Derived.ChangeOld
namespace Go.Proofs.YtgnclifmfefbcaaGreatDoor.commLists
open Go.ChangeShapes Go.WideShapes Go.ChangeAt Go.RowKit
set_option linter.unusedVariables false
set_option linter.unusedSimpArgs false
set_option maxRecDepth 100000

theorem own : ownKnob Tryz.prog.godebug = none := by kernel_rfl
theorem laidOut : laidOutB Tryz.prog = true := by kernel_rfl

set_option maxHeartbeats 16000000 in
theorem walk (a0 : Option Addr) (n c : Nat) (zs : List Int) (C : Int) (s : Src) (A : Option Addr) (d : Nat) (w : World) (hrz : Rd .u64 w w.heap.size a0 n zs) (lc : n ≤ c) (cm : c ≤ maxLen) (hw : ∀ z ∈ zs, (Lit.int .u64 z).wf = true) (w2 : (Lit.int .i64 C).wf = true) (ok0 : s.tape.length ≤ 140737488355328 → s.Ok) (hrs : Rd .u8 w w.heap.size A s.tape.length s.tape) (ld : s.tape.length ≤ d) (dm : d ≤ maxLen) (sl : s.seed.length = 32) (hkst : Kst w) :
    Calls Tryz.prog 3 #[.slice a0 n c, .int .i64 C, .agg (srcV s A d)] w fun e w' => e = .returned (.bool true) ∧ Below w.heap.size w w' := by
  have HZ0 := Lib.hid zero_src
  have HZL := Lib.hid (show Src.zero.seed.length = 32 from rfl)
  have HKS := Lib.hid hkst
  have HLs := Lib.hid sl
  have G0 : Hid (Fx [.rdb .u64 w.heap.size a0 n zs, .rdb .u8 w.heap.size A s.tape.length s.tape, .bel w] w) := Lib.hid ⟨⟨hrz, Nat.le_refl _⟩, ⟨hrs, Nat.le_refl _⟩, Below.refl _ _, trivial⟩
  have hlen := hrz.len
  have hz : ∀ z ∈ zs, 0 ≤ z ∧ z < 18446744073709551616 := fun z h => by
    obtain ⟨h1, h2⟩ := bounds_u64 (hw z h)
    omega
  have hnm : n ≤ maxLen := Nat.le_trans lc cm
  have hgr := fun W => r13great_c s (by have h1 := Nat.le_trans ld dm; unfold maxLen at h1; omega) a0 n c hnm A d W
  have b0 : -9223372036854775808 ≤ C := by have := (bounds_i64 w2).1; omega
  have b1 : C < 9223372036854775808 := by have := (bounds_i64 w2).2; omega
  by_cases hg : 200 < n ∨ 500 < s.tape.length
  · rw [decide_eq_true hg] at hgr
    have HGR := Lib.hid hgr
    clear hgr hrz hw hrs hz hg hkst ok0 sl
    go_enter Tryz.func3, Tryz.ntmps3
    go_wp2_with (first
      | (with_reducible refine at_any ?_; refine at_dst 5 rfl ?_; refine wpList_box_any rfl 28 (.tmp 2) rfl (srcV s A d) rfl ?_; intro w1 hkw1 hsw1 hbw1; have G2 := Lib.hid (Fx.newB G0.out hkw1.out hbw1); clear G0; clear hkw1 hsw1 hbw1)
      | (go_at_call 8; (with_reducible refine (alive17_c _ (HKS.out.below (Fx.e3 G2.out))).mono ?_); rintro e w3 ⟨rfl, hbw3⟩; have G4 := Lib.hid (Fx.below G2.out hbw3); clear G2; clear hbw3)
      | (with_reducible refine at_any ?_; refine at_dst 19 rfl ?_; refine wpList_load_blk rfl 28 (.tmp 5) rfl w.heap.size rfl 28 (srcV s A d) (Fx.b0 G4.out) _ Tryz.underlying28 rfl (sizedS s HLs.out _ _) ?_)
      | (go_at_call 9; (with_reducible refine (HGR.out _).mono ?_); rintro e w5 ⟨rfl, hbw5⟩; have G6 := Lib.hid (Fx.below G4.out hbw5); clear G4; clear hbw5))
    go_ret
    exact ⟨rfl, (Fx.e3 G6.out)⟩
  rw [decide_eq_false hg] at hgr
  have HGR := Lib.hid hgr
  have hg1 : n ≤ 200 := Nat.le_of_not_lt fun h => hg (.inl h)
  have hg2 : s.tape.length ≤ 500 := Nat.le_of_not_lt fun h => hg (.inr h)
  have hg3 : (n : Int) ≤ 200 := by omega
  have oks : s.Ok := ok0 (by omega)
  have hn5 : n ≤ 100000000 := by omega
  have HQA := Lib.hid (fun (a : Int) (h0 : 0 ≤ a) (h1 : a < 4) AL c W h1 h2 k => q17list_c zs hz AL n c (by omega) C b0 b1 s oks a (by omega) (by omega) A d ld dm W h1 h2 k)
  have HRA := Lib.hid (fun (a : Int) (h0 : 0 ≤ a) (h1 : a < 4) AL c W h1 h2 => r17list_c zs hz C b0 b1 s oks a (by omega) (by omega) AL n c (by omega) A d ld dm W h1 h2)
  have HOK := Lib.hid oks
  have H5 := Lib.hid hn5
  have HLN := Lib.hid hlen
  clear hgr hrz hw hrs hz hg hkst ok0 sl oks hg1 hg2 hn5 hlen w2 lc cm ld dm hnm b0 b1
  go_enter Tryz.func3, Tryz.ntmps3
  go_wp2_with (first
    | (with_reducible refine at_any ?_; refine at_dst 5 rfl ?_; refine wpList_box_any rfl 28 (.tmp 2) rfl (srcV s A d) rfl ?_; intro w1 hkw1 hsw1 hbw1; have G2 := Lib.hid (Fx.newB G0.out hkw1.out hbw1); clear G0; clear hkw1 hsw1 hbw1)
    | (go_at_call 8; (with_reducible refine (alive17_c _ (HKS.out.below (Fx.e3 G2.out))).mono ?_); rintro e w3 ⟨rfl, hbw3⟩; have G4 := Lib.hid (Fx.below G2.out hbw3); clear G2; clear hbw3)
    | (with_reducible refine at_any ?_; refine at_dst 19 rfl ?_; refine wpList_load_blk rfl 28 (.tmp 5) rfl w.heap.size rfl 28 (srcV s A d) (Fx.b0 G4.out) _ Tryz.underlying28 rfl (sizedS s HLs.out _ _) ?_)
    | (go_at_call 9; (with_reducible refine (HGR.out _).mono ?_); rintro e w5 ⟨rfl, hbw5⟩; have G6 := Lib.hid (Fx.below G4.out hbw5); clear G4; clear hbw5)
    | (with_reducible refine at_any ?_; refine at_dst 23 rfl ?_; refine wpList_own_copy8 w5 rfl (.tmp 21) (.tmp 22) rfl rfl a0 n c zs rfl (Fx.r1 G6.out) H5.out ?_; intro A8 c9 w7 hbw7 hrw7 hlw7 hmw7; rw [HLN.out] at hrw7 hlw7 ⊢; have lc9 := Lib.hid hlw7.out; have mc9 := Lib.hid hmw7.out; have G10 := Lib.hid (Fx.addR G6.out hbw7 hrw7); clear G6; clear hrw7 hbw7 hlw7 hmw7))
  go_loopw [8] (fun mm wr => ∃ m : Nat, m ≤ 4 ∧ mm = .int .i64 (m : Int) ∧ Fx [.rdb .u64 w7.heap.size A8 n zs, .blk w.heap.size 28 (srcV s A d), .rdb .u64 w.heap.size a0 n zs, .rdb .u8 w.heap.size A s.tape.length s.tape, .bel w] wr) (fun mm _ => 4 - (intOf mm).toNat)
  case atStart => exact ⟨0, by omega, rfl, G10.out⟩
  case round =>
    clear G10
    obtain ⟨m, hm, rfl, hG⟩ := hrel
    have G9 := Lib.hid hG
    clear hG
    by_cases hm4 : m < 4
    · have m0 : (0 : Int) ≤ (m : Int) := by omega
      have m1 : (m : Int) < 4 := by omega
      obtain ⟨okX, hXt⟩ := comL_src (l := zs) (c := C) (a := (m : Int)) HOK.out
      have hq := HQA.out (m : Int) m0 m1
      have hr := HRA.out (m : Int) m0 m1
      obtain ⟨rr, hrr⟩ : ∃ r, comL zs C s (m : Int) = r := ⟨_, rfl⟩
      rw [hrr] at okX hXt hq hr
      obtain ⟨M, X, e⟩ := rr
      dsimp only at okX hXt hq hr
      obtain ⟨N, hN⟩ : ∃ N, M.length = N := ⟨_, rfl⟩
      have HQ := Lib.hid (fun AL c W h1 h2 k => (hq AL c W h1 h2 k).mono fun _ _ h => com_uP hN h)
      have HR := Lib.hid (fun AL c W h1 h2 => (hr AL c W h1 h2).mono fun _ _ h => com_uP hN h)
      have HLX := Lib.hid okX.sl
      have HSX := Lib.hid (fun A B c d W h h' => calls_val (v' := .bool true) (rssame_c X X okX okX A B c d W (by rw [hXt]; exact h) (by rw [hXt]; exact h')) (congrArg Value.bool (sameS_refl X)))
      have hsm := fun A B c d (hN : N ≤ maxLen) (W : World) (h1 : Rd .i64 W W.heap.size A N M) (h2 : Rd .i64 W W.heap.size B N M) => r17same_c M M A B N N c d hN hN W h1 h2
      rw [decide_eq_true (rfl : M = M)] at hsm
      have HSM := Lib.hid hsm
      have t1 : (e != e) = false := by simp
      clear hq hr hrr okX hXt hsm hN
      go_wp2_with (first
        | (with_reducible refine at_any ?_; refine at_dst 30 rfl ?_; refine wpList_load_blk rfl 28 (.tmp 5) rfl w.heap.size rfl 28 (srcV s A d) (Fx.b1 G9.out) _ Tryz.underlying28 rfl (sizedS s HLs.out _ _) ?_)
        | (go_at_call 10; (with_reducible refine (HQ.out _ _ _ (Fx.r0 G9.out) (Fx.r3 G9.out) (HKS.out.below (Fx.e4 G9.out))).mono ?_); rintro e w601 ⟨A602, c603, M604, d605, rfl, hnw601, hcw601, hdw601, _, hrw601, hlw601, hmw601, _, hbw601⟩; have lc603 := Lib.hid hlw601; have mc603 := Lib.hid hmw601; have ld605 := Lib.hid hcw601; have md605 := Lib.hid hdw601; have G606 := Lib.hid (Fx.addR (Fx.addR G9.out hbw601 hrw601) (Below.refl _ _) hnw601); clear G9; clear hrw601 hbw601 hlw601 hmw601 hnw601 hcw601 hdw601)
        | (with_reducible refine at_any ?_; refine at_dst 10 rfl ?_; refine wpList_alloc_any rfl 28 rfl (srcV Src.zero none 0) HZ0.out ?_; intro w607 hkw607 hsw607 hbw607; have U608 := Lib.hid (Fx.under_new G606.out rfl); have G609 := Lib.hid (Fx.newB G606.out hkw607.out hbw607); clear G606; clear hkw607 hsw607 hbw607)
        | (with_reducible refine at_any ?_; refine at_store 10 rfl ?_; refine wpList_store_any rfl 28 (.tmp 10) (.tmp 35) rfl w601.heap.size rfl 28 (srcV Src.zero none 0) (srcV X A602 c603) (Fx.b0 G609.out) rfl (srcV_same _ X HZL.out HLX.out _ _ _ _) (sizedS X HLX.out _ _) (srcV_ones _ _ _) ?_; intro w610 hkw610 hsw610 hbw610 how610; have G611 := Lib.hid (Fx.put1B G609.out U608.out hkw610.out hsw610.out hbw610 how610); clear G609; clear hkw610 hsw610 hbw610 how610)
        | (with_reducible refine at_any ?_; refine at_dst 40 rfl ?_; refine wpList_load_blk rfl 28 (.tmp 5) rfl w.heap.size rfl 28 (srcV s A d) (Fx.b4 G611.out) _ Tryz.underlying28 rfl (sizedS s HLs.out _ _) ?_)
        | (go_at_call 11; (with_reducible refine (HR.out _ _ _ (Fx.r5 G611.out) (Fx.r6 G611.out)).mono ?_); rintro e w612 ⟨A613, c614, M615, d616, rfl, hnw612, hcw612, hdw612, _, hrw612, hlw612, hmw612, _, hbw612⟩; have lc614 := Lib.hid hlw612; have mc614 := Lib.hid hmw612; have ld616 := Lib.hid hcw612; have md616 := Lib.hid hdw612; have G617 := Lib.hid (Fx.addR (Fx.addR G611.out hbw612 hrw612) (Below.refl _ _) hnw612); clear G611; clear hrw612 hbw612 hlw612 hmw612 hnw612 hcw612 hdw612)
        | (with_reducible refine at_any ?_; refine at_dst 13 rfl ?_; refine wpList_alloc_any rfl 28 rfl (srcV Src.zero none 0) HZ0.out ?_; intro w618 hkw618 hsw618 hbw618; have U619 := Lib.hid (Fx.under_new G617.out rfl); have G620 := Lib.hid (Fx.newB G617.out hkw618.out hbw618); clear G617; clear hkw618 hsw618 hbw618)
        | (with_reducible refine at_any ?_; refine at_store 13 rfl ?_; refine wpList_store_any rfl 28 (.tmp 13) (.tmp 44) rfl w612.heap.size rfl 28 (srcV Src.zero none 0) (srcV X A613 c614) (Fx.b0 G620.out) rfl (srcV_same _ X HZL.out HLX.out _ _ _ _) (sizedS X HLX.out _ _) (srcV_ones _ _ _) ?_; intro w621 hkw621 hsw621 hbw621 how621; have G622 := Lib.hid (Fx.put1B G620.out U619.out hkw621.out hsw621.out hbw621 how621); clear G620; clear hkw621 hsw621 hbw621 how621)
        | (go_at_call 12; (with_reducible refine (HSM.out _ _ _ _ (Nat.le_trans ld605.out md605.out) _ (Fx.r4 G622.out) (Fx.r1 G622.out)).mono ?_); rintro e w623 ⟨rfl, hbw623⟩; have G624 := Lib.hid (Fx.below G622.out hbw623); clear G622; clear hbw623)
        | (with_reducible refine at_any ?_; refine at_dst 51 rfl ?_; refine wpList_load_gdb (by kernel_rfl) 28 (.tmp 10) rfl w601.heap.size rfl 28 (srcV X A602 c603) (Fx.b3 G624.out) _ Tryz.underlying28 rfl (sizedS X HLX.out _ _) ?_)
        | (with_reducible refine at_any ?_; refine at_dst 52 rfl ?_; refine wpList_load_gdb (by kernel_rfl) 28 (.tmp 13) rfl w612.heap.size rfl 28 (srcV X A613 c614) (Fx.b0 G624.out) _ Tryz.underlying28 rfl (sizedS X HLX.out _ _) ?_)
        | (go_at_call 13; (with_reducible refine (HSX.out _ _ _ _ _ (Fx.r5 G624.out) (Fx.r2 G624.out)).mono ?_); rintro e w625 ⟨rfl, hbw625⟩; have G626 := Lib.hid (Fx.below G624.out hbw625); clear G624; clear hbw625))
      go_roundw
      case rel => exact ⟨m + 1, by omega, by go_num, G626.out.2.2.2.2.2.2⟩
      case measure => simp [intOf]; omega
    · obtain rfl : m = 4 := by omega
      rw [show ((4 : Nat) : Int) = 4 from rfl]
      clear HQA HRA HOK H5
      go_wp2
      go_loopw [15] (fun ii wr => ∃ i : Nat, i ≤ n ∧ ii = .int .i64 (i : Int) ∧ Fx [.rdb .u64 w7.heap.size A8 n zs, .blk w.heap.size 28 (srcV s A d), .rdb .u64 w.heap.size a0 n zs, .rdb .u8 w.heap.size A s.tape.length s.tape, .bel w] wr) (fun ii _ => n - (intOf ii).toNat)
      case atStart => exact ⟨0, by omega, rfl, G9.out⟩
      case round =>
        clear G9
        obtain ⟨i, hi, rfl, hG⟩ := hrel
        have G9 := Lib.hid hG
        clear hG
        by_cases hlt : i < n
        · obtain ⟨b1, o1, e1, -, hc1⟩ := (Fx.r0 G9.out).at_ (show 0 < n by omega)
          obtain ⟨b2, o2, e2, -, hc2⟩ := (Fx.r2 G9.out).at_ (show 0 < n by omega)
          have hk1 := hc1 i hlt
          have hk2 := hc2 i hlt
          subst e1 e2
          obtain ⟨y, hy⟩ : ∃ y, zs.getD i 0 = y := ⟨_, rfl⟩
          rw [hy] at hk1 hk2
          have i0 : (0 : Int) ≤ (i : Int) := by omega
          have i1 : (i : Int) < (n : Int) := by omega
          have t1 : (y != y) = false := by simp
          clear hc1 hc2 hy
          go_wp2
          go_quiet (fail)
          go_wp2
          go_roundw
          case rel => exact ⟨i + 1, by omega, by go_num, Fx.below G9.out (below_drewN (Below.refl _ _) _)⟩
          case measure => simp [intOf]; omega
        · obtain rfl : i = n := by omega
          go_wp2
          go_ret
          exact ⟨rfl, Fx.e4 G9.out⟩


set_option maxRecDepth 100000 in
theorem lifted (os : Os) (started : os.Started) (H : Type) (enc : TypeId × Value → H) :
    ReturnsInHanded {} Tryz.checked os 3 .any (fun w args => (Rows.commListsSpec.pre enc Tryz.prog Tryz.f3 [] false w args ∧ laidMetH Tryz.prog laidK w) ∧ sizedMet enc Tryz.prog Tryz.f3 (OpenSpec.ofChange Rows.commListsSpec) false w args) (Rows.commListsSpec.post enc Tryz.prog Tryz.f3 false true false false) := by
  refine returnsInHanded_of_change_and (C := Tryz.checked) (X := fun w _ => laidMetH Tryz.prog laidK w) (fun _ _ _ hh h => h.of_heap hh) own started (by kernel_rfl) Tryz.func3
    (ChangeSpec.witness_shaped (enc := enc) (C := Tryz.checked) (os := os) (X := fun w _ => laidMetH Tryz.prog laidK w) false (World.doorLaid Tryz.prog 400 os) #[.slice none 0 0, .int .i64 0, .agg #[.int .i64 0, .slice none 0 0, .int .u64 0, .int .u8 0, .int .u8 0, .int .u8 0, .int .u8 0, .int .u8 0, .int .u8 0, .int .u8 0, .int .u8 0, .int .u8 0, .int .u8 0, .int .u8 0, .int .u8 0, .int .u8 0, .int .u8 0, .int .u8 0, .int .u8 0, .int .u8 0, .int .u8 0, .int .u8 0, .int .u8 0, .int .u8 0, .int .u8 0, .int .u8 0, .int .u8 0, .int .u8 0, .int .u8 0, .int .u8 0, .int .u8 0, .int .u8 0, .int .u8 0, .int .u8 0, .int .u8 0, .int .u64 0, .int .u64 0]] 8 rfl (World.shaped_of_RefB (by kernel_rfl) (by kernel_rfl)) (by kernel_rfl) (by kernel_rfl) (by kernel_rfl) (door_met os _)) ?_
  intro W base args ds gs before hval0 hW _ _ hL _
  have hval : ∀ (j : Nat) t v, Tryz.f3.params[j]? = some t → args[j]? = some v → Value.okWide Tryz.prog W .any base t v := hval0
  have hW' := hW
  obtain ⟨p, q, hA0, hV, rfl, hfz, hnd⟩ := hW
  have hA : DataW.TrodAll enc Tryz.prog W 0 (fun _ => true) true Tryz.f3.params.toList args.toList ds p := hA0
  rw [Tryz.params3] at hA hval
  obtain ⟨v0, vs0, d0, ds0, p0, q0, hargs, rfl, rfl, h0, r0⟩ := trodAll_cons hA
  obtain ⟨v1, vs1, d1, ds1, p1, q1, rfl, rfl, rfl, h1, r1⟩ := trodAll_cons r0
  obtain ⟨v2, vs2, d2, ds2, p2, q2, rfl, rfl, rfl, h2, r2⟩ := trodAll_cons r1
  obtain ⟨rfl, rfl, rfl⟩ := trodAll_nil r2
  obtain rfl : args = #[v0, v1, v2] := by cases args; simp_all
  obtain ⟨rfl, rfl⟩ := trodVars_none hV
  obtain ⟨a0, n0, c0, rfl⟩ := okWide_slice Tryz.underlying22 (hval 0 22 v0 rfl rfl)
  have k0 := h0
  have lt0 : ∀ x ∈ p0, x.block < W.heap.size := by obtain ⟨m, hm⟩ := k0; exact DataW.trod_lt m _ _ _ hm
  obtain ⟨z0, rd0, lc0, cm0, w0⟩ := open_rd Tryz.underlying22 Tryz.underlying24 (by kernel_rfl) h0
  obtain ⟨a1, rfl, rfl, rfl, w1⟩ := open_int Tryz.underlying3 (hval 1 3 v1 rfl rfl) h1
  have k2 := h2
  have lt2 : ∀ x ∈ p2, x.block < W.heap.size := by obtain ⟨m, hm⟩ := k2; exact DataW.trod_lt m _ _ _ hm
  obtain ⟨s2, a2, c2, rfl, ok2, rd2, lc2, cm2, sl2⟩ := open_src (hval 2 28 v2 rfl rfl) h2
  clear hA0 hval0
  refine (walk a0 n0 c0 z0 a1 s2 a2 c2 W rd0 lc0 cm0 w0 w1 ok2 rd2 lc2 cm2 sl2 (kst_of_laid hL)).mono fun e W' ⟨he, bel⟩ => ?_
  subst he
  exact ⟨_, rfl, _, _, _, [], _, [], hW', trodAll_mk1 (shut_bool Tryz.underlying4 _), (trodAll_cons_mk (Below.trod laidOut (by kernel_rfl) (of_decide_eq_true (by kernel_rfl)) k0 bel lt0) (trodAll_cons_mk (shut_int Tryz.underlying3 w1) (trodAll_cons_mk (Below.trod laidOut (by kernel_rfl) (of_decide_eq_true (by kernel_rfl)) k2 bel lt2) trodAll_mk0))), rfl, bel.frame _, fun h => by cases h⟩

theorem over : Rows.commListsRow.holds Tryz.pinned (OpenSpec.ofChange Rows.commListsSpec) :=
  OpenClaim.holds_of_wide 3 Tryz.f3 rfl rfl rfl rfl rfl rfl rfl ⟨rfl, rfl, rfl, rfl, rfl⟩ rfl rfl rfl rfl rfl (by kernel_rfl) Tryz.func3 (by kernel_rfl)
    (of_decide_eq_true (by kernel_rfl)) (by unfold Func.isWrapper; first | (rw [if_pos (by decide +kernel)]; kernel_rfl) | (rw [if_neg (by decide +kernel)]; exact ⟨rfl, rfl⟩))
    (fun os started H enc _ => lifted os started H enc)

end Go.Proofs.YtgnclifmfefbcaaGreatDoor.commLists
namespace Go.Proofs.YtgnclifmfefbcaaGreatDoor
theorem commLists_holds : Rows.CommListsCardSaid :=
  Claim7.holds_tied_plain_at .later [] kindsK true _ false
    commLists.over (fun _ h => by cases h) (by kernel_rfl) (fun _ h => by cases h) commLists_row_tie rfl ⟨rfl, rfl⟩ (by kernel_rfl) rfl
    (fun f fn hf hfn => by
      obtain rfl : f = 3 := Option.some.inj ((show Tryz.prog.funcNamed "drawlot/drawlotlaw17.CommLists" = some 3 by kernel_rfl).symm.trans hf) |>.symm
      obtain rfl : fn = Tryz.f3 := (Option.some.inj (Tryz.func3.symm.trans hfn)).symm
      exact ⟨by kernel_rfl, fun j t ht => by
        rw [Tryz.params3] at ht
        have hm : t ∈ [22, 3, 28] := by simpa using Array.mem_of_getElem? ht
        have hall : ([22, 3, 28].all fun u => !Tryz.prog.wantsStandIn u) = true := by kernel_rfl
        exact (show Tryz.prog.wantsStandIn t = false by simpa using List.all_eq_true.1 hall t hm)⟩)
    (by kernel_rfl)
#print axioms commLists_holds
end Go.Proofs.YtgnclifmfefbcaaGreatDoor

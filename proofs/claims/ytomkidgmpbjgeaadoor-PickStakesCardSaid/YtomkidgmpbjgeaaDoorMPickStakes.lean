/-
  Who leads has a stake; of up to 200 stakes.
  Conditions: the program's table of constants reads, when the call begins, as its text lays it (the card ties that).
-/
import Derived.Test.YtomkidgmpbjgeaaDoorGe
import Derived.ShutString
import Derived.Test.YtomkidgmpbjgeaaDoorTie
import Derived.Test.YtomkidgmpbjgeaaDoorCards
import Derived.SevenTiedAt
import Derived.ChangeOld
namespace Go.Proofs.YtomkidgmpbjgeaaDoor.pickStakes
open Go.ChangeShapes Go.WideShapes Go.ChangeAt Go.RowKit
set_option linter.unusedVariables false
set_option linter.unusedSimpArgs false
set_option maxRecDepth 100000

theorem own : ownKnob Tryd.prog.godebug = none := by kernel_rfl
theorem laidOut : laidOutB Tryd.prog = true := by kernel_rfl

set_option maxHeartbeats 16000000 in
theorem walk (a0 : Option Addr) (n c : Nat) (zs : List Int) (s : Src) (A : Option Addr) (d : Nat) (a : Int) (w : World) (hrz : Rd .u64 w w.heap.size a0 n zs) (lc : n ≤ c) (cm : c ≤ maxLen) (hw : ∀ z ∈ zs, (Lit.int .u64 z).wf = true) (ok0 : s.tape.length ≤ 140737488355328 → s.Ok) (hrs : Rd .u8 w w.heap.size A s.tape.length s.tape) (ld : s.tape.length ≤ d) (dm : d ≤ maxLen) (sl : s.seed.length = 32) (w2 : (Lit.int .u8 a).wf = true) (hkst : Kst w) :
    Calls Tryd.prog 4 #[.slice a0 n c, .agg (srcV s A d), .int .u8 a] w fun e w' => e = .returned (.bool true) ∧ Below w.heap.size w w' := by
  have HZ0 := Lib.hid zero_src
  have HZL := Lib.hid (show Src.zero.seed.length = 32 from rfl)
  have HKS := Lib.hid hkst
  have HLs := Lib.hid sl
  have G0 : Hid (Fx [.rdb .u64 w.heap.size a0 n zs, .rdb .u8 w.heap.size A s.tape.length s.tape, .bel w] w) := Lib.hid ⟨⟨hrz, Nat.le_refl _⟩, ⟨hrs, Nat.le_refl _⟩, Below.refl _ _, trivial⟩
  have hlen := hrz.len
  have hz : ∀ z ∈ zs, 0 ≤ z ∧ z < 18446744073709551616 := fun z h => by
    obtain ⟨h1, h2⟩ := bounds_u64 (hw z h)
    omega
  have hnm : n ≤ maxLen := Nat.le_trans lc cm
  have hgr := fun W => r13great_c s (by have h1 := Nat.le_trans ld dm; unfold maxLen at h1; omega) a0 n c hnm A d W
  have b0 : 0 ≤ a := (bounds_u8 w2).1
  have b1 : a < 256 := by have := (bounds_u8 w2).2; omega
  by_cases hg : 200 < n ∨ 500 < s.tape.length
  · rw [decide_eq_true hg] at hgr
    have HGR := Lib.hid hgr
    clear hgr hrz hw hrs hz hg hkst ok0 sl
    go_enter Tryd.func4, Tryd.ntmps4
    go_wp2_with (first
      | (with_reducible refine at_any ?_; refine at_dst 4 rfl ?_; refine wpList_box_any rfl 37 (.tmp 1) rfl (srcV s A d) rfl ?_; intro w1 hkw1 hsw1 hbw1; have G2 := Lib.hid (Fx.newB G0.out hkw1.out hbw1); clear G0; clear hkw1 hsw1 hbw1)
      | (go_at_call 5; (with_reducible refine (alive15_c _ (HKS.out.below (Fx.e3 G2.out))).mono ?_); rintro e w3 ⟨rfl, hbw3⟩; have G4 := Lib.hid (Fx.below G2.out hbw3); clear G2; clear hbw3)
      | (with_reducible refine at_any ?_; refine at_dst 13 rfl ?_; refine wpList_load_blk rfl 37 (.tmp 4) rfl w.heap.size rfl 37 (srcV s A d) (Fx.b0 G4.out) _ Tryd.underlying37 rfl (sizedS s HLs.out _ _) ?_)
      | (go_at_call 12; (with_reducible refine (HGR.out _).mono ?_); rintro e w5 ⟨rfl, hbw5⟩; have G6 := Lib.hid (Fx.below G4.out hbw5); clear G4; clear hbw5))
    go_ret
    exact ⟨rfl, (Fx.e3 G6.out)⟩
  rw [decide_eq_false hg] at hgr
  have HGR := Lib.hid hgr
  have hg1 : n ≤ 200 := Nat.le_of_not_lt fun h => hg (.inl h)
  have hg2 : s.tape.length ≤ 500 := Nat.le_of_not_lt fun h => hg (.inr h)
  have hg3 : (n : Int) ≤ 200 := by omega
  have oks : s.Ok := ok0 (by omega)
  have hn5 : n ≤ 100000000 := by omega
  have hz0 : ∀ z ∈ zs, 0 ≤ z := fun z h => (hz z h).1
  have htm : a.tmod 64 = a % 64 := Int.tmod_eq_emod_of_nonneg b0
  obtain ⟨r, hr⟩ : ∃ r, a % 64 = r := ⟨_, rfl⟩
  have r0 : 0 ≤ r := by rw [← hr]; exact Int.emod_nonneg _ (by omega)
  have r1 : r < 64 := by rw [← hr]; exact Int.emod_lt_of_pos _ (by omega)
  rw [hr] at htm
  obtain ⟨j, hj⟩ : ∃ j, 1 + r = j := ⟨_, rfl⟩
  have j0 : 1 ≤ j := by omega
  have j1 : j ≤ 64 := by omega
  obtain ⟨okX, hXt⟩ := pikR_in zs s j oks
  have hno := pikR_no zs s j
  have hyes := pikR_ok hz0 s j
  have hq := fun AL c W h1 h2 k => q15list_c zs hz AL n c (by omega) s oks j (by omega) (by omega) A d ld dm W h1 h2 k
  obtain ⟨rr, hrr⟩ : ∃ r, pikR zs s j = r := ⟨_, rfl⟩
  rw [hrr] at okX hXt hq hno hyes
  obtain ⟨x, X, e⟩ := rr
  have HQ := Lib.hid (fun AL c W h1 h2 k => (hq AL c W h1 h2 k).mono fun _ _ h => led_uP rfl rfl rfl h)
  dsimp only at okX hXt HQ hno hyes
  have HLX := Lib.hid okX.sl
  have HCX := Lib.hid (fun (W : World) (g : Nat) (A' : Option Addr) (c' : Nat) (h : Blk W g 37 (srcV X A' c')) => (h.cell 36).trans (srcV_at X okX.sl A' c'))
  have HCS := Lib.hid (fun (W : World) (g : Nat) (h : Blk W g 37 (srcV s A d)) => (h.cell 36).trans (srcV_at s oks.sl A d))
  by_cases he : e = 0
  · subst he
    obtain ⟨k, hk, rfl, hp, hat⟩ := hyes rfl
    have hkn : (k : Int) < (n : Int) := by omega
    have hk0 : (0 : Int) ≤ (k : Int) := by omega
    have hzk := hz _ (getD_in hk)
    obtain ⟨y, hy⟩ : ∃ y, zs.getD k 0 = y := ⟨_, rfl⟩
    rw [hy] at hp hzk
    obtain ⟨g9, off9, ha0, -, hc0⟩ := hrz.at_ (by omega)
    have HCG : Hid (∀ W, Rd .u64 W W.heap.size a0 n zs → W.cell? ⟨g9, off9 + k, none⟩ = some (.int .u64 y)) := Lib.hid (fun W h => by obtain ⟨g, off, e1, _, e2⟩ := h.at_ (by omega); rw [ha0] at e1; injection e1 with e1; injection e1 with e1 e3; subst e1 e3; rw [← hy]; exact e2 k (by omega))
    subst ha0
    obtain ⟨p, hpp⟩ : ∃ p, X.at_ = p := ⟨_, rfl⟩
    obtain ⟨q, hqq⟩ : ∃ q, s.at_ = q := ⟨_, rfl⟩
    rw [hpp] at hat HCX
    rw [hqq] at hat HCS
    clear hq hrr okX hXt hno hyes hk hy hc0 hzk hpp hqq hr b0 b1 hgr hrz hw hrs hz hz0 hg hkst ok0 sl oks hg1 hg2 hn5 hlen w2 lc cm ld dm hnm
    go_enter Tryd.func4, Tryd.ntmps4
    go_wp2_with (first
      | (with_reducible refine at_any ?_; refine at_dst 4 rfl ?_; refine wpList_box_any rfl 37 (.tmp 1) rfl (srcV s A d) rfl ?_; intro w1 hkw1 hsw1 hbw1; have G2 := Lib.hid (Fx.newB G0.out hkw1.out hbw1); clear G0; clear hkw1 hsw1 hbw1)
      | (go_at_call 5; (with_reducible refine (alive15_c _ (HKS.out.below (Fx.e3 G2.out))).mono ?_); rintro e w3 ⟨rfl, hbw3⟩; have G4 := Lib.hid (Fx.below G2.out hbw3); clear G2; clear hbw3)
      | (with_reducible refine at_any ?_; refine at_dst 13 rfl ?_; refine wpList_load_blk rfl 37 (.tmp 4) rfl w.heap.size rfl 37 (srcV s A d) (Fx.b0 G4.out) _ Tryd.underlying37 rfl (sizedS s HLs.out _ _) ?_)
      | (go_at_call 12; (with_reducible refine (HGR.out _).mono ?_); rintro e w5 ⟨rfl, hbw5⟩; have G6 := Lib.hid (Fx.below G4.out hbw5); clear G4; clear hbw5)
      | (with_reducible refine at_any ?_; refine at_dst 16 rfl ?_; refine wpList_load_blk rfl 37 (.tmp 4) rfl w.heap.size rfl 37 (srcV s A d) (Fx.b0 G6.out) _ Tryd.underlying37 rfl (sizedS s HLs.out _ _) ?_)
      | (go_at_call 13; (with_reducible refine (HQ.out _ _ _ (Fx.r1 G6.out) (Fx.r2 G6.out) (HKS.out.below (Fx.e3 G6.out))).mono ?_); rintro e w7 ⟨A8, c9, rfl, hrw7, hlw7, hmw7, _, hbw7⟩; have lc9 := Lib.hid hlw7; have mc9 := Lib.hid hmw7; have G10 := Lib.hid (Fx.addR G6.out hbw7 hrw7); clear G6; clear hrw7 hbw7 hlw7 hmw7)
      | (with_reducible refine at_any ?_; refine at_dst 8 rfl ?_; refine wpList_alloc_any rfl 37 rfl (srcV Src.zero none 0) HZ0.out ?_; intro w11 hkw11 hsw11 hbw11; have U12 := Lib.hid (Fx.under_new G10.out rfl); have G13 := Lib.hid (Fx.newB G10.out hkw11.out hbw11); clear G10; clear hkw11 hsw11 hbw11)
      | (with_reducible refine at_any ?_; refine at_store 8 rfl ?_; refine wpList_store_any rfl 37 (.tmp 8) (.tmp 24) rfl w7.heap.size rfl 37 (srcV Src.zero none 0) (srcV X A8 c9) (Fx.b0 G13.out) rfl (srcV_same _ X HZL.out HLX.out _ _ _ _) (sizedS X HLX.out _ _) (srcV_ones _ _ _) ?_; intro w14 hkw14 hsw14 hbw14 how14; have G15 := Lib.hid (Fx.put1B G13.out U12.out hkw14.out hsw14.out hbw14 how14); clear G13; clear hkw14 hsw14 hbw14 how14; have z8 := HCX.out _ _ A8 c9 (Fx.b0 G15.out); have z4 := HCS.out _ _ (Fx.b2 G15.out); have zk := HCG.out _ (Fx.r3 G15.out)))
    go_ret
    exact ⟨rfl, (Fx.e5 G15.out)⟩
  · have hx0 : x = 0 := hno he
    subst hx0
    have t1 : (e == 0) = false := by rw [beq_eq_false_iff_ne]; exact he
    have t2 : (e != 0) = true := by rw [bne, t1]; rfl
    clear hq hrr okX hXt hno hyes hr b0 b1 hgr hrz hw hrs hz hz0 hg hkst ok0 sl oks hg1 hg2 hn5 hlen w2 lc cm ld dm hnm
    go_enter Tryd.func4, Tryd.ntmps4
    go_wp2_with (first
      | (with_reducible refine at_any ?_; refine at_dst 4 rfl ?_; refine wpList_box_any rfl 37 (.tmp 1) rfl (srcV s A d) rfl ?_; intro w1 hkw1 hsw1 hbw1; have G2 := Lib.hid (Fx.newB G0.out hkw1.out hbw1); clear G0; clear hkw1 hsw1 hbw1)
      | (go_at_call 5; (with_reducible refine (alive15_c _ (HKS.out.below (Fx.e3 G2.out))).mono ?_); rintro e w3 ⟨rfl, hbw3⟩; have G4 := Lib.hid (Fx.below G2.out hbw3); clear G2; clear hbw3)
      | (with_reducible refine at_any ?_; refine at_dst 13 rfl ?_; refine wpList_load_blk rfl 37 (.tmp 4) rfl w.heap.size rfl 37 (srcV s A d) (Fx.b0 G4.out) _ Tryd.underlying37 rfl (sizedS s HLs.out _ _) ?_)
      | (go_at_call 12; (with_reducible refine (HGR.out _).mono ?_); rintro e w5 ⟨rfl, hbw5⟩; have G6 := Lib.hid (Fx.below G4.out hbw5); clear G4; clear hbw5)
      | (with_reducible refine at_any ?_; refine at_dst 16 rfl ?_; refine wpList_load_blk rfl 37 (.tmp 4) rfl w.heap.size rfl 37 (srcV s A d) (Fx.b0 G6.out) _ Tryd.underlying37 rfl (sizedS s HLs.out _ _) ?_)
      | (go_at_call 13; (with_reducible refine (HQ.out _ _ _ (Fx.r1 G6.out) (Fx.r2 G6.out) (HKS.out.below (Fx.e3 G6.out))).mono ?_); rintro e w7 ⟨A8, c9, rfl, hrw7, hlw7, hmw7, _, hbw7⟩; have lc9 := Lib.hid hlw7; have mc9 := Lib.hid hmw7; have G10 := Lib.hid (Fx.addR G6.out hbw7 hrw7); clear G6; clear hrw7 hbw7 hlw7 hmw7)
      | (with_reducible refine at_any ?_; refine at_dst 8 rfl ?_; refine wpList_alloc_any rfl 37 rfl (srcV Src.zero none 0) HZ0.out ?_; intro w11 hkw11 hsw11 hbw11; have U12 := Lib.hid (Fx.under_new G10.out rfl); have G13 := Lib.hid (Fx.newB G10.out hkw11.out hbw11); clear G10; clear hkw11 hsw11 hbw11)
      | (with_reducible refine at_any ?_; refine at_store 8 rfl ?_; refine wpList_store_any rfl 37 (.tmp 8) (.tmp 24) rfl w7.heap.size rfl 37 (srcV Src.zero none 0) (srcV X A8 c9) (Fx.b0 G13.out) rfl (srcV_same _ X HZL.out HLX.out _ _ _ _) (sizedS X HLX.out _ _) (srcV_ones _ _ _) ?_; intro w14 hkw14 hsw14 hbw14 how14; have G15 := Lib.hid (Fx.put1B G13.out U12.out hkw14.out hsw14.out hbw14 how14); clear G13; clear hkw14 hsw14 hbw14 how14))
    go_ret
    exact ⟨rfl, (Fx.e5 G15.out)⟩


set_option maxRecDepth 100000 in
theorem lifted (os : Os) (started : os.Started) (H : Type) (enc : TypeId × Value → H) :
    ReturnsInHanded {} Tryd.checked os 4 .any (fun w args => (Rows.pickStakesSpec.pre enc Tryd.prog Tryd.f4 [] false w args ∧ laidMetH Tryd.prog laidK w) ∧ sizedMet enc Tryd.prog Tryd.f4 (OpenSpec.ofChange Rows.pickStakesSpec) false w args) (Rows.pickStakesSpec.post enc Tryd.prog Tryd.f4 false true false false) := by
  refine returnsInHanded_of_change_and (C := Tryd.checked) (X := fun w _ => laidMetH Tryd.prog laidK w) (fun _ _ _ hh h => h.of_heap hh) own started (by kernel_rfl) Tryd.func4
    (ChangeSpec.witness_shaped (enc := enc) (C := Tryd.checked) (os := os) (X := fun w _ => laidMetH Tryd.prog laidK w) false (World.doorLaid Tryd.prog 400 os) #[.slice none 0 0, .agg #[.int .i64 0, .slice none 0 0, .int .u64 0, .int .u8 0, .int .u8 0, .int .u8 0, .int .u8 0, .int .u8 0, .int .u8 0, .int .u8 0, .int .u8 0, .int .u8 0, .int .u8 0, .int .u8 0, .int .u8 0, .int .u8 0, .int .u8 0, .int .u8 0, .int .u8 0, .int .u8 0, .int .u8 0, .int .u8 0, .int .u8 0, .int .u8 0, .int .u8 0, .int .u8 0, .int .u8 0, .int .u8 0, .int .u8 0, .int .u8 0, .int .u8 0, .int .u8 0, .int .u8 0, .int .u8 0, .int .u8 0, .int .u64 0, .int .u64 0], .int .u8 0] 8 rfl (World.shaped_of_RefB (by kernel_rfl) (by kernel_rfl)) (by kernel_rfl) (by kernel_rfl) (by kernel_rfl) (door_met os _)) ?_
  intro W base args ds gs before hval0 hW _ _ hL _
  have hval : ∀ (j : Nat) t v, Tryd.f4.params[j]? = some t → args[j]? = some v → Value.okWide Tryd.prog W .any base t v := hval0
  have hW' := hW
  obtain ⟨p, q, hA0, hV, rfl, hfz, hnd⟩ := hW
  have hA : DataW.TrodAll enc Tryd.prog W 0 (fun _ => true) true Tryd.f4.params.toList args.toList ds p := hA0
  rw [Tryd.params4] at hA hval
  obtain ⟨v0, vs0, d0, ds0, p0, q0, hargs, rfl, rfl, h0, r0⟩ := trodAll_cons hA
  obtain ⟨v1, vs1, d1, ds1, p1, q1, rfl, rfl, rfl, h1, r1⟩ := trodAll_cons r0
  obtain ⟨v2, vs2, d2, ds2, p2, q2, rfl, rfl, rfl, h2, r2⟩ := trodAll_cons r1
  obtain ⟨rfl, rfl, rfl⟩ := trodAll_nil r2
  obtain rfl : args = #[v0, v1, v2] := by cases args; simp_all
  obtain ⟨rfl, rfl⟩ := trodVars_none hV
  obtain ⟨a0, n0, c0, rfl⟩ := okWide_slice Tryd.underlying22 (hval 0 22 v0 rfl rfl)
  have k0 := h0
  have lt0 : ∀ x ∈ p0, x.block < W.heap.size := by obtain ⟨m, hm⟩ := k0; exact DataW.trod_lt m _ _ _ hm
  obtain ⟨z0, rd0, lc0, cm0, w0⟩ := open_rd Tryd.underlying22 Tryd.underlying24 (by kernel_rfl) h0
  have k1 := h1
  have lt1 : ∀ x ∈ p1, x.block < W.heap.size := by obtain ⟨m, hm⟩ := k1; exact DataW.trod_lt m _ _ _ hm
  obtain ⟨s1, a1, c1, rfl, ok1, rd1, lc1, cm1, sl1⟩ := open_src (hval 1 37 v1 rfl rfl) h1
  obtain ⟨a2, rfl, rfl, rfl, w2⟩ := open_int Tryd.underlying5 (hval 2 5 v2 rfl rfl) h2
  clear hA0 hval0
  refine (walk a0 n0 c0 z0 s1 a1 c1 a2 W rd0 lc0 cm0 w0 ok1 rd1 lc1 cm1 sl1 w2 (kst_of_laid hL)).mono fun e W' ⟨he, bel⟩ => ?_
  subst he
  exact ⟨_, rfl, _, _, _, [], _, [], hW', trodAll_mk1 (shut_bool Tryd.underlying4 _), (trodAll_cons_mk (Below.trod laidOut (by kernel_rfl) (of_decide_eq_true (by kernel_rfl)) k0 bel lt0) (trodAll_cons_mk (Below.trod laidOut (by kernel_rfl) (of_decide_eq_true (by kernel_rfl)) k1 bel lt1) (trodAll_cons_mk (shut_int Tryd.underlying5 w2) trodAll_mk0))), rfl, bel.frame _, fun h => by cases h⟩

theorem over : Rows.pickStakesRow.holds Tryd.pinned (OpenSpec.ofChange Rows.pickStakesSpec) :=
  OpenClaim.holds_of_wide 4 Tryd.f4 rfl rfl rfl rfl rfl rfl rfl ⟨rfl, rfl, rfl, rfl, rfl⟩ rfl rfl rfl rfl rfl (by kernel_rfl) Tryd.func4 (by kernel_rfl)
    (of_decide_eq_true (by kernel_rfl)) (by unfold Func.isWrapper; first | (rw [if_pos (by decide +kernel)]; kernel_rfl) | (rw [if_neg (by decide +kernel)]; exact ⟨rfl, rfl⟩))
    (fun os started H enc _ => lifted os started H enc)

end Go.Proofs.YtomkidgmpbjgeaaDoor.pickStakes
namespace Go.Proofs.YtomkidgmpbjgeaaDoor
theorem pickStakes_holds : Rows.PickStakesCardSaid :=
  Claim7.holds_tied_plain_at .later [] kindsK true _ false
    pickStakes.over (fun _ h => by cases h) (by kernel_rfl) (fun _ h => by cases h) pickStakes_row_tie rfl ⟨rfl, rfl⟩ (by kernel_rfl) rfl
    (fun f fn hf hfn => by
      obtain rfl : f = 4 := Option.some.inj ((show Tryd.prog.funcNamed "drawlot/drawlotlaw15.PickStakes" = some 4 by kernel_rfl).symm.trans hf) |>.symm
      obtain rfl : fn = Tryd.f4 := (Option.some.inj (Tryd.func4.symm.trans hfn)).symm
      exact ⟨by kernel_rfl, fun j t ht => by
        rw [Tryd.params4] at ht
        have hm : t ∈ [22, 37, 5] := by simpa using Array.mem_of_getElem? ht
        have hall : ([22, 37, 5].all fun u => !Tryd.prog.wantsStandIn u) = true := by kernel_rfl
        exact (show Tryd.prog.wantsStandIn t = false by simpa using List.all_eq_true.1 hall t hm)⟩)
    (by kernel_rfl)
#print axioms pickStakes_holds
end Go.Proofs.YtomkidgmpbjgeaaDoor

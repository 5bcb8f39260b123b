/-
  The sources of any bytes, and of any seed, are the document's, or refused; of up to 500 bytes.
  Conditions: the program's table of constants reads, when the call begins, as its text lays it (the card ties that).
-/
import Derived.Test.YtabfgkokilghcaaDoorGd
import Derived.ShutString
import Derived.Test.YtabfgkokilghcaaDoorTie
import Derived.Test.YtabfgkokilghcaaDoorCards
import Derived.SevenTiedAt
import Derived.ChangeOld
namespace Go.Proofs.YtabfgkokilghcaaDoor.tapeMakes
open Go.ChangeShapes Go.WideShapes Go.ChangeAt Go.RowKit
set_option linter.unusedVariables false
set_option linter.unusedSimpArgs false

theorem own : ownKnob Tryd.prog.godebug = none := by kernel_rfl
theorem laidOut : laidOutB Tryd.prog = true := by kernel_rfl

def RetU (S : Src) (E : Int) (w : World) (e : Ending) (w' : World) : Prop := ∃ A' c', e = .returned (.tuple #[.agg (srcV S A' c'), .int .i64 E]) ∧ Rd .u8 w' w'.heap.size A' S.tape.length S.tape ∧ S.tape.length ≤ c' ∧ c' ≤ maxLen ∧ Below w.heap.size w w'
theorem tape_ok (zs : List Int) (b : Int) (hz : ∀ z ∈ zs, 0 ≤ z ∧ z < 256) (hl : zs.length ≤ 500) (b0 : 0 ≤ b) (b1 : b < 18446744073709551616) : (Src.tapeOf zs b).Ok :=
  ⟨(show (-9223372036854775808 : Int) ≤ 1 by decide), (show (1 : Int) < 9223372036854775808 by decide), Nat.le_trans hl (by decide), hz, b0, b1, rfl, (fun z h => by obtain ⟨_, rfl⟩ := List.mem_replicate.1 h; exact ⟨by omega, by omega⟩), Int.le_refl 0, (show (0 : Int) < 18446744073709551616 by decide), Int.le_refl 0, (show (0 : Int) < 18446744073709551616 by decide)⟩
theorem strm_ok (s : List Int) (d : Int) (hl : s.length = 32) (hs : ∀ z ∈ s, 0 ≤ z ∧ z < 256) (d0 : 0 ≤ d) (d1 : d < 18446744073709551616) : (Src.strm s d).Ok :=
  ⟨(show (-9223372036854775808 : Int) ≤ 2 by decide), (show (2 : Int) < 9223372036854775808 by decide), Nat.zero_le _, fun _ h => (by cases h), Int.le_refl 0, (show (0 : Int) < 18446744073709551616 by decide), hl, hs, d0, d1, Int.le_refl 0, (show (0 : Int) < 18446744073709551616 by decide)⟩
theorem ret_u {zs : List Int} {b : Int} {w w' : World} {e : Ending} (h : RetTape w zs b e w') : RetU (if b ≤ 8 * (zs.length : Int) then Src.tapeOf zs b else Src.zero) (if b ≤ 8 * (zs.length : Int) then 0 else 1) w e w' := by
  unfold RetTape at h
  split at h
  · rename_i hb
    rw [if_pos hb, if_pos hb]
    obtain ⟨A', c', h1, h2, h3, h4, h5⟩ := h
    exact ⟨A', c', h1, h2, h3, h4, h5⟩
  · rename_i hb
    rw [if_neg hb, if_neg hb]
    exact ⟨none, 0, h.1, Rd.none_, Nat.le_refl _, by simp [maxLen], h.2⟩
set_option maxHeartbeats 4000000 in
theorem of_walk (A : Option Addr) (n c : Nat) (zs : List Int) (b : Int) (sd : List Int) (w : World) (hrd : Rd .u8 w w.heap.size A n zs) (hnc : n ≤ c) (hcm : c ≤ maxLen) (hz : ∀ z ∈ zs, 0 ≤ z ∧ z < 256) (b0 : 0 ≤ b) (b1 : b < 18446744073709551616) (hsl : sd.length = 32) (hsi : ∀ z ∈ sd, 0 ≤ z ∧ z < 256) (hkst : Kst w) :
    Calls Tryd.prog 4 #[.slice A n c, .int .u64 b, .agg (intsA .u8 sd)] w fun e w' => e = .returned (.bool true) ∧ Below w.heap.size w w' := by
  have hl := hrd.len
  have hn : n ≤ 9223372036854775807 := by unfold maxLen at hcm; omega
  have HKS := Lib.hid hkst
  by_cases hbig : 500 < n
  · have hb1 : (500 : Int) < (n : Int) := by omega
    clear hrd hcm hz hsi hkst
    go_enter Tryd.func4, Tryd.ntmps4
    go_wp2_with (first
      | (with_reducible refine at_any ?_; refine at_dst 5 rfl ?_; refine wpList_box_ints rfl 25 (.tmp 2) rfl .u8 sd rfl ?_; intro w1 hk1 hs1 hb1; have F1 := Lib.hid (Fx.box hk1.out hb1); clear hk1 hs1 hb1)
      | (go_at_call 7; (with_reducible refine (alive7_c _ (HKS.out.below (Fx.e1 F1.out))).mono ?_); rintro e wa ⟨rfl, hb2⟩; have G0 := Lib.hid (F1.out.below hb2); clear F1 hb2))
    go_ret
    exact ⟨rfl, Fx.e1 G0.out⟩
  · have hb1 : ¬ (500 : Int) < (n : Int) := by omega
    have okT : ∀ S, S = (if b ≤ 8 * (zs.length : Int) then Src.tapeOf zs b else Src.zero) → S.Ok := fun S h => by
      rw [h]
      split
      · exact tape_ok zs b hz (by omega) b0 b1
      · exact Src.ok_zero
    have hq := fun W (h : Rd .u8 W W.heap.size A n zs) => (qstape_c zs (by omega) b b0 b1 A n c W h hnc).mono fun e w' h => ret_u h
    have hr := fun W (h : Rd .u8 W W.heap.size A n zs) => (rstape_c zs (by omega) b b0 b1 A n c W h hnc).mono fun e w' h => ret_u h
    obtain ⟨S, hS⟩ : ∃ S, (if b ≤ 8 * (zs.length : Int) then Src.tapeOf zs b else Src.zero) = S := ⟨_, rfl⟩
    obtain ⟨E, hE⟩ : ∃ E : Int, (if b ≤ 8 * (zs.length : Int) then 0 else 1) = E := ⟨_, rfl⟩
    rw [hS, hE] at hq hr
    have okS := okT S hS.symm
    have okW := strm_ok sd b hsl hsi b0 b1
    have hsm := fun W => qsstream_c sd hsl b W
    unfold RetStrm at hsm
    have hs1 := fun A B c d W h1 h2 => rssame_c S S okS okS A B c d W h1 h2
    rw [sameS_refl] at hs1
    have hs2 := fun A B c d W h1 h2 => rssame_c (Src.strm sd b) (Src.strm sd b) okW okW A B c d W h1 h2
    rw [sameS_refl, show (Src.strm sd b).tape = [] from rfl, show ([] : List Int).length = 0 from rfl] at hs2
    have hbt := fun (a : Act) (o : Oper) (x y z : Operand) (W : World) h1 h2 h3 h4 => build_src2 (a := a) (o := o) (x := x) (y := y) (z := z) W sd hsl b h1 h2 h3 h4
    have HLS := Lib.hid okS.sl
    have hlw := okW.sl
    obtain ⟨Sw, hSw⟩ : ∃ S, Src.strm sd b = S := ⟨_, rfl⟩
    rw [hSw] at hsm hs2 hbt hlw
    have HLSw := Lib.hid hlw
    have HSM := Lib.hid hsm
    have HQ := Lib.hid hq
    have HR := Lib.hid hr
    have HS1 := Lib.hid hs1
    have HS2 := Lib.hid hs2
    have HBT := Lib.hid hbt
    have HRD := Lib.hid hrd
    have SS := Lib.hid (show (Tryd.prog.info? 25).map (·.size) = some sd.length by rw [hsl]; exact size_hash)
    have HZ0 := Lib.hid zero_src
    have HZL := Lib.hid (show Src.zero.seed.length = 32 from rfl)
    clear okT hq hr okS okW hsm hs1 hs2 hbt hlw hSw hS hE hrd hcm hz hsl hsi hkst
    go_enter Tryd.func4, Tryd.ntmps4
    go_wp2_with (first
      | (with_reducible refine at_any ?_; refine at_dst 5 rfl ?_; refine wpList_box_ints rfl 25 (.tmp 2) rfl .u8 sd rfl ?_; intro w1 hk1 hs1 hb1; have F1 := Lib.hid (Fx.box hk1.out hb1); clear hk1 hs1 hb1)
      | (go_at_call 7; (with_reducible refine (alive7_c _ (HKS.out.below (Fx.e1 F1.out))).mono ?_); rintro e wa ⟨rfl, hb2⟩; have G0 := Lib.hid (F1.out.below hb2); clear F1 hb2)
      | (go_at_call 17; (with_reducible refine (HQ.out _ ((HRD.out.below (Fx.e1 G0.out)).mono (Below.size (Fx.e1 G0.out)))).mono ?_); rintro e w1 ⟨A2, c3, rfl, hrw1, hlw1, hmw1, hbw1⟩; have lc3 := Lib.hid hlw1; have mc3 := Lib.hid hmw1; have G4 := Lib.hid (Fx.addR G0.out hbw1 hrw1); clear G0; clear hrw1 hbw1 hlw1 hmw1)
      | (with_reducible refine at_any ?_; refine at_dst 7 rfl ?_; refine wpList_alloc_any rfl 27 rfl (srcV Src.zero none 0) HZ0.out ?_; intro w5 hkw5 hsw5 hbw5; have U6 := Lib.hid (Fx.under_new G4.out rfl); have G7 := Lib.hid (Fx.newB G4.out hkw5.out hbw5); clear G4; clear hkw5 hsw5 hbw5)
      | (with_reducible refine at_any ?_; refine at_store 7 rfl ?_; refine wpList_store_any rfl 27 (.tmp 7) (.tmp 21) rfl w1.heap.size rfl 27 (srcV Src.zero none 0) (srcV S A2 c3) (Fx.b0 G7.out) rfl (srcV_same _ S HZL.out HLS.out _ _ _ _) (sizedS S HLS.out _ _) (srcV_ones _ _ _) ?_; intro w8 hkw8 hsw8 hbw8 how8; have G9 := Lib.hid (Fx.put1B G7.out U6.out hkw8.out hsw8.out hbw8 how8); clear G7; clear hkw8 hsw8 hbw8 how8)
      | (go_at_call 18; (with_reducible refine (HR.out _ ((HRD.out.below (Fx.e3 G9.out)).mono (Below.size (Fx.e3 G9.out)))).mono ?_); rintro e w10 ⟨A11, c12, rfl, hrw10, hlw10, hmw10, hbw10⟩; have lc12 := Lib.hid hlw10; have mc12 := Lib.hid hmw10; have G13 := Lib.hid (Fx.addR G9.out hbw10 hrw10); clear G9; clear hrw10 hbw10 hlw10 hmw10)
      | (with_reducible refine at_any ?_; refine at_dst 9 rfl ?_; refine wpList_alloc_any rfl 27 rfl (srcV Src.zero none 0) HZ0.out ?_; intro w14 hkw14 hsw14 hbw14; have U15 := Lib.hid (Fx.under_new G13.out rfl); have G16 := Lib.hid (Fx.newB G13.out hkw14.out hbw14); clear G13; clear hkw14 hsw14 hbw14)
      | (with_reducible refine at_any ?_; refine at_store 9 rfl ?_; refine wpList_store_any rfl 27 (.tmp 9) (.tmp 27) rfl w10.heap.size rfl 27 (srcV Src.zero none 0) (srcV S A11 c12) (Fx.b0 G16.out) rfl (srcV_same _ S HZL.out HLS.out _ _ _ _) (sizedS S HLS.out _ _) (srcV_ones _ _ _) ?_; intro w17 hkw17 hsw17 hbw17 how17; have G18 := Lib.hid (Fx.put1B G16.out U15.out hkw17.out hsw17.out hbw17 how17); clear G16; clear hkw17 hsw17 hbw17 how17)
      | (with_reducible refine at_any ?_; refine at_dst 29 rfl ?_; refine wpList_load_ints rfl 25 (.tmp 5) rfl w.heap.size rfl 25 .u8 sd (Fx.i4 G18.out) _ Tryd.underlying25 rfl SS.out ?_)
      | (go_at_call 19; (with_reducible refine (HSM.out _).mono ?_); rintro e w19 ⟨A8, c8, rfl, hmw19, hbw19⟩; have G20 := Lib.hid (Fx.below G18.out hbw19); clear G18; clear hbw19 hmw19)
      | (with_reducible refine at_any ?_; refine at_dst 11 rfl ?_; refine wpList_alloc_any rfl 27 rfl (srcV Src.zero none 0) HZ0.out ?_; intro w21 hkw21 hsw21 hbw21; have U22 := Lib.hid (Fx.under_new G20.out rfl); have G23 := Lib.hid (Fx.newB G20.out hkw21.out hbw21); clear G20; clear hkw21 hsw21 hbw21)
      | (with_reducible refine at_any ?_; refine at_store 11 rfl ?_; refine wpList_store_any rfl 27 (.tmp 11) (.tmp 31) rfl w19.heap.size rfl 27 (srcV Src.zero none 0) (srcV Sw A8 c8) (Fx.b0 G23.out) rfl (srcV_same _ Sw HZL.out HLSw.out _ _ _ _) (sizedS Sw HLSw.out _ _) (srcV_ones _ _ _) ?_; intro w24 hkw24 hsw24 hbw24 how24; have G25 := Lib.hid (Fx.put1B G23.out U22.out hkw24.out hsw24.out hbw24 how24); clear G23; clear hkw24 hsw24 hbw24 how24)
      | (with_reducible refine at_any ?_; refine at_dst 32 rfl ?_; refine wpList_load_blk rfl 27 (.tmp 7) rfl w1.heap.size rfl 27 (srcV S A2 c3) (Fx.b3 G25.out) _ Tryd.underlying27 rfl (sizedS S HLS.out _ _) ?_)
      | (with_reducible refine at_any ?_; refine at_dst 33 rfl ?_; refine wpList_load_blk rfl 27 (.tmp 9) rfl w10.heap.size rfl 27 (srcV S A11 c12) (Fx.b1 G25.out) _ Tryd.underlying27 rfl (sizedS S HLS.out _ _) ?_)
      | (go_at_call 11; (with_reducible refine (HS1.out A2 A11 c3 c12 _ (Fx.r4 G25.out) (Fx.r2 G25.out)).mono ?_); rintro e w26 ⟨rfl, hbw26⟩; have G27 := Lib.hid (Fx.below G25.out hbw26); clear G25; clear hbw26)
      | (with_reducible refine at_any ?_; refine at_dst 41 rfl ?_; refine wpList_load_gdb (by kernel_rfl) 27 (.tmp 11) rfl w19.heap.size rfl 27 (srcV Sw A8 c8) (Fx.b0 G27.out) _ Tryd.underlying27 rfl (sizedS Sw HLSw.out _ _) ?_)
      | (with_reducible refine at_any ?_; refine at_dst 42 rfl ?_; refine wpList_load_gd (by kernel_rfl) 25 (.tmp 5) rfl w.heap.size rfl 25 .u8 sd (Fx.i5 G27.out) _ Tryd.underlying25 rfl SS.out ?_)
      | (with_reducible refine at_any ?_; refine at_dst 44 rfl ?_; refine wpList_val_gd (by kernel_rfl) (.agg (srcV Sw none 0)) (HBT.out _ _ _ _ _ _ rfl rfl rfl rfl) ?_)
      | (go_at_call 11; (with_reducible refine (HS2.out A8 none c8 0 _ (rd_zero _ _ _) (rd_zero _ _ _)).mono ?_); rintro e w28 ⟨rfl, hbw28⟩; have G29 := Lib.hid (Fx.below G27.out hbw28); clear G27; clear hbw28))
    go_ret
    exact ⟨rfl, (Fx.e6 G29.out)⟩
theorem walk (a0 : Option Addr) (n0 c0 : Nat) (z0 : List Int) (a1 : Int) (a2 : List Int) (w : World) (rd0 : Rd .u8 w w.heap.size a0 n0 z0) (lc0 : n0 ≤ c0) (cm0 : c0 ≤ maxLen) (w0 : ∀ z ∈ z0, (Lit.int .u8 z).wf = true) (w1 : (Lit.int .u64 a1).wf = true) (l2 : a2.length = 32) (w2 : ∀ z ∈ a2, (Lit.int .u8 z).wf = true) (hkst : Kst w) :
    Calls Tryd.prog 4 #[.slice a0 n0 c0, .int .u64 a1, .agg (intsA .u8 a2)] w fun e w' => e = .returned (.bool true) ∧ Below w.heap.size w w' := by
  have h1 := bounds_u64 w1
  exact of_walk a0 n0 c0 z0 a1 a2 w rd0 lc0 cm0 (u8b w0) (by omega) (by omega) l2 (u8b w2) hkst


set_option maxRecDepth 100000 in
theorem lifted (os : Os) (started : os.Started) (H : Type) (enc : TypeId × Value → H) :
    ReturnsInHanded {} Tryd.checked os 4 .any (fun w args => (Rows.tapeMakesSpec.pre enc Tryd.prog Tryd.f4 [] false w args ∧ laidMetH Tryd.prog laidK w) ∧ sizedMet enc Tryd.prog Tryd.f4 (OpenSpec.ofChange Rows.tapeMakesSpec) false w args) (Rows.tapeMakesSpec.post enc Tryd.prog Tryd.f4 false true false false) := by
  refine returnsInHanded_of_change_and (C := Tryd.checked) (X := fun w _ => laidMetH Tryd.prog laidK w) (fun _ _ _ hh h => h.of_heap hh) own started (by kernel_rfl) Tryd.func4
    (ChangeSpec.witness_shaped (enc := enc) (C := Tryd.checked) (os := os) (X := fun w _ => laidMetH Tryd.prog laidK w) false (World.doorLaid Tryd.prog 400 os) #[.slice none 0 0, .int .u64 0, .agg #[.int .u8 0, .int .u8 0, .int .u8 0, .int .u8 0, .int .u8 0, .int .u8 0, .int .u8 0, .int .u8 0, .int .u8 0, .int .u8 0, .int .u8 0, .int .u8 0, .int .u8 0, .int .u8 0, .int .u8 0, .int .u8 0, .int .u8 0, .int .u8 0, .int .u8 0, .int .u8 0, .int .u8 0, .int .u8 0, .int .u8 0, .int .u8 0, .int .u8 0, .int .u8 0, .int .u8 0, .int .u8 0, .int .u8 0, .int .u8 0, .int .u8 0, .int .u8 0]] 8 rfl (World.shaped_of_RefB (by kernel_rfl) (by kernel_rfl)) (by kernel_rfl) (by kernel_rfl) (by kernel_rfl) (door_met os _)) ?_
  intro W base args ds gs before hval0 hW _ _ hL _
  have hval : ∀ (j : Nat) t v, Tryd.f4.params[j]? = some t → args[j]? = some v → Value.okWide Tryd.prog W .any base t v := hval0
  have hW' := hW
  obtain ⟨p, q, hA0, hV, rfl, hfz, hnd⟩ := hW
  have hA : DataW.TrodAll enc Tryd.prog W 0 (fun _ => true) true Tryd.f4.params.toList args.toList ds p := hA0
  rw [Tryd.params4] at hA hval
  obtain ⟨v0, vs0, d0, ds0, p0, q0, hargs, rfl, rfl, h0, r0⟩ := trodAll_cons hA
  obtain ⟨v1, vs1, d1, ds1, p1, q1, rfl, rfl, rfl, h1, r1⟩ := trodAll_cons r0
  obtain ⟨v2, vs2, d2, ds2, p2, q2, rfl, rfl, rfl, h2, r2⟩ := trodAll_cons r1
  obtain ⟨rfl, rfl, rfl⟩ := trodAll_nil r2
  obtain rfl : args = #[v0, v1, v2] := by cases args; simp_all
  obtain ⟨rfl, rfl⟩ := trodVars_none hV
  obtain ⟨a0, n0, c0, rfl⟩ := okWide_slice Tryd.underlying22 (hval 0 22 v0 rfl rfl)
  have k0 := h0
  have lt0 : ∀ x ∈ p0, x.block < W.heap.size := by obtain ⟨m, hm⟩ := k0; exact DataW.trod_lt m _ _ _ hm
  obtain ⟨z0, rd0, lc0, cm0, w0⟩ := open_rd Tryd.underlying22 Tryd.underlying5 (by kernel_rfl) h0
  obtain ⟨a1, rfl, rfl, rfl, w1⟩ := open_int Tryd.underlying23 (hval 1 23 v1 rfl rfl) h1
  obtain ⟨a2, l2, rfl, rfl, rfl, w2⟩ := open_arr_ints Tryd.underlying25 Tryd.underlying5 (by kernel_rfl) (by kernel_rfl) (hval 2 25 v2 rfl rfl) h2
  clear hA0 hval0
  refine (walk a0 n0 c0 z0 a1 a2 W rd0 lc0 cm0 w0 w1 l2 w2 (kst_of_laid hL)).mono fun e W' ⟨he, bel⟩ => ?_
  subst he
  exact ⟨_, rfl, _, _, _, [], _, [], hW', trodAll_mk1 (shut_bool Tryd.underlying4 _), (trodAll_cons_mk (Below.trod laidOut (by kernel_rfl) (of_decide_eq_true (by kernel_rfl)) k0 bel lt0) (trodAll_cons_mk (shut_int Tryd.underlying23 w1) (trodAll_cons_mk (shut_arr_ints Tryd.underlying25 Tryd.underlying5 (by kernel_rfl) (by kernel_rfl) l2 w2) trodAll_mk0))), rfl, bel.frame _, fun h => by cases h⟩

theorem over : Rows.tapeMakesRow.holds Tryd.pinned (OpenSpec.ofChange Rows.tapeMakesSpec) :=
  OpenClaim.holds_of_wide 4 Tryd.f4 rfl rfl rfl rfl rfl rfl rfl ⟨rfl, rfl, rfl, rfl, rfl⟩ rfl rfl rfl rfl rfl (by kernel_rfl) Tryd.func4 (by kernel_rfl)
    (of_decide_eq_true (by kernel_rfl)) (by unfold Func.isWrapper; first | (rw [if_pos (by decide +kernel)]; kernel_rfl) | (rw [if_neg (by decide +kernel)]; exact ⟨rfl, rfl⟩))
    (fun os started H enc _ => lifted os started H enc)

end Go.Proofs.YtabfgkokilghcaaDoor.tapeMakes
namespace Go.Proofs.YtabfgkokilghcaaDoor
theorem tapeMakes_holds : Rows.TapeMakesCardSaid :=
  Claim7.holds_tied_plain_at .later [] [.data] true _ false
    tapeMakes.over (fun _ h => by cases h) (by kernel_rfl) (fun _ h => by cases h) tapeMakes_row_tie rfl ⟨rfl, rfl⟩ (by kernel_rfl) rfl
    (fun f fn hf hfn => by
      obtain rfl : f = 4 := Option.some.inj ((show Tryd.prog.funcNamed "drawlot/drawlotlaw07.TapeMakes" = some 4 by kernel_rfl).symm.trans hf) |>.symm
      obtain rfl : fn = Tryd.f4 := (Option.some.inj (Tryd.func4.symm.trans hfn)).symm
      exact ⟨by kernel_rfl, fun j t ht => by
        rw [Tryd.params4] at ht
        have hm : t ∈ [22, 23, 25] := by simpa using Array.mem_of_getElem? ht
        have hall : ([22, 23, 25].all fun u => !Tryd.prog.wantsStandIn u) = true := by kernel_rfl
        exact (show Tryd.prog.wantsStandIn t = false by simpa using List.all_eq_true.1 hall t hm)⟩)
    (by kernel_rfl)
#print axioms tapeMakes_holds
end Go.Proofs.YtabfgkokilghcaaDoor

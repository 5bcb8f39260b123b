/-
  The tree of any stakes is the document's, or refused, and has just these; of up to 300.
  Conditions: none.
-/
import Derived.Test.YtdpjambejmlppaaDoorLawP
import Derived.Test.YtdpjambejmlppaaDoorOpenA
import Derived.ShutString
import Derived.Test.YtdpjambejmlppaaDoorFenK
import Derived.Test.YtdpjambejmlppaaDoorTie
import Derived.Test.YtdpjambejmlppaaDoorCards
import Derived.SevenTiedAt
import Derived.ChangeOld
namespace Go.Proofs.YtdpjambejmlppaaDoor.fenBuilds
open Go.ChangeShapes Go.WideShapes Go.ChangeAt Go.RowKit
set_option linter.unusedVariables false
set_option linter.unusedSimpArgs false
set_option maxRecDepth 100000

theorem own : ownKnob Tryd.prog.godebug = none := by kernel_rfl
theorem laidOut : laidOutB Tryd.prog = true := by kernel_rfl

set_option maxHeartbeats 8000000 in
theorem walk (a0 : Option Addr) (n c : Nat) (zs : List Int) (w : World) (hT : TzT w) (hrd : Rd .u64 w w.heap.size a0 n zs) (lc : n ≤ c) (cm : c ≤ maxLen) (hw : ∀ z ∈ zs, (Lit.int .u64 z).wf = true) :
    Calls Tryd.prog 3 #[.slice a0 n c] w fun e w' => e = .returned (.bool true) ∧ Below w.heap.size w w' := by
  have HTT := Lib.hid hT
  clear hT
  have G0 : Hid (Fx [.rdb .u64 w.heap.size a0 n zs, .bel w] w) := Lib.hid ⟨⟨hrd, Nat.le_refl _⟩, Below.refl _ _, trivial⟩
  have hlen := hrd.len
  have hz : ∀ z ∈ zs, 0 ≤ z ∧ z < 18446744073709551616 := fun z h => by
    obtain ⟨h1, h2⟩ := bounds_u64 (hw z h)
    omega
  by_cases hg : 300 < n
  · have hg2 : (300 : Int) < (n : Int) := by omega
    clear hrd hw hz hg
    go_enter Tryd.func3, Tryd.ntmps3
    go_wp2_with (first
      | (go_at_call 8; (with_reducible refine (alive11_c _ (HTT.out.below (Fx.e1 G0.out))).mono ?_); rintro e w1 ⟨rfl, hbw1⟩; have G2 := Lib.hid (Fx.below G0.out hbw1); clear G0; clear hbw1))
    go_ret
    exact ⟨rfl, (Fx.e1 G2.out)⟩
  · have hg2 : (n : Int) ≤ 300 := by omega
    have hn5 : n ≤ 100000000 := by omega
    have hnm : n ≤ maxLen := by simp only [maxLen]; omega
    have hz0 : ∀ z ∈ zs, 0 ≤ z := fun z h => (hz z h).1
    have H4 := Lib.hid (fun A B c d W h h' => calls_val (v' := .bool true) (r9same_c zs zs A B n n c d hnm hnm W h h') (congrArg Value.bool (decide_eq_true rfl)))
    have H5 := Lib.hid hn5
    have HL := Lib.hid hlen
    by_cases hs : sumL zs < 9223372036854775808
    · have e := bldE_ok (l := zs) (by omega) hs
      have h1 := fun A c W hT h => calls_fen (q11build_c zs hz A n c hnm W hT h) e.2 e.1 ((treeL_len zs).trans hlen)
      have h2 := fun A c W h => calls_fen (r11build_c zs hz A n c hnm W h) e.2 e.1 ((treeL_len zs).trans hlen)
      have h3 := fun A B c d W h h' => calls_val (v' := .bool true) (r11same_c (treeL zs) (treeL zs) A B n n c d hnm hnm W h h') (congrArg Value.bool (decide_eq_true rfl))
      have h6 := fun A c W h => calls_pure (r9total_c zs hz A n c hnm W h) (tup_ub (sumV_ok hs).1 (sumV_ok hs).2)
      have h7 := fun A c (hc : n ≤ c) (hm : c ≤ maxLen) W hT h => q11total_c zs hz0 hs (by omega) A n c hlen hc hm W hT h
      have H8 := Lib.hid (fun A c W => q11len_c A n c W)
      have h9 := fun A c (hc : n ≤ c) (hm : c ≤ maxLen) W hT h => calls_l (q11stakes_c zs hz0 hs (by omega) A n c hlen hc hm W hT h) hlen
      obtain ⟨ts, hts⟩ : ∃ x, treeL zs = x := ⟨_, rfl⟩
      obtain ⟨x, hx⟩ : ∃ x, sumL zs = x := ⟨_, rfl⟩
      rw [hts] at h1 h2 h3 h7 h9
      rw [hx] at h6 h7
      have H1 := Lib.hid h1
      have H2 := Lib.hid h2
      have H3 := Lib.hid h3
      have H6 := Lib.hid h6
      have H7 := Lib.hid h7
      have H9 := Lib.hid h9
      clear h1 h2 h3 h6 h7 h9 hts hx hs e hrd hw hz hz0 hg hn5 hnm lc cm hlen
      go_enter Tryd.func3, Tryd.ntmps3
      go_wp2_with (first
        | (go_at_call 8; (with_reducible refine (alive11_c _ (HTT.out.below (Fx.e1 G0.out))).mono ?_); rintro e w1 ⟨rfl, hbw1⟩; have G2 := Lib.hid (Fx.below G0.out hbw1); clear G0; clear hbw1)
        | (with_reducible refine at_any ?_; refine at_dst 17 rfl ?_; refine wpList_own_copy8 w1 rfl (.tmp 15) (.tmp 16) rfl rfl a0 n c zs rfl (Fx.r0 G2.out) H5.out ?_; intro A4 c5 w3 hbw3 hrw3 hlw3 hmw3; rw [HL.out] at hrw3 hlw3 ⊢; have lc5 := Lib.hid hlw3.out; have mc5 := Lib.hid hmw3.out; have G6 := Lib.hid (Fx.addR G2.out hbw3 hrw3); clear G2; clear hrw3 hbw3 hlw3 hmw3)
        | (go_at_call 9; (with_reducible refine (H1.out _ _ _ (HTT.out.below (Fx.e2 G6.out)) (Fx.r0 G6.out)).mono ?_); rintro e w7 ⟨A8, c9, rfl, hrw7, hlw7, hmw7, hbw7⟩; have lc9 := Lib.hid hlw7; have mc9 := Lib.hid hmw7; have G10 := Lib.hid (Fx.addR G6.out hbw7 hrw7); clear G6; clear hrw7 hbw7 hlw7 hmw7)
        | (with_reducible refine at_any ?_; refine at_dst 4 rfl ?_; refine wpList_alloc_any rfl 25 rfl #[.slice none 0 0] zero_fen ?_; intro w11 hkw11 hsw11 hbw11; have U12 := Lib.hid (Fx.under_new G10.out rfl); have G13 := Lib.hid (Fx.newB G10.out hkw11.out hbw11); clear G10; clear hkw11 hsw11 hbw11)
        | (with_reducible refine at_any ?_; refine at_store 4 rfl ?_; refine wpList_store_any rfl 25 (.tmp 4) (.tmp 21) rfl w7.heap.size rfl 25 #[.slice none 0 0] (#[.slice A8 n c9]) (Fx.b0 G13.out) rfl (size1 _ _) (sizedF _) (fen_ones _ _ _) ?_; intro w14 hkw14 hsw14 hbw14 how14; have G15 := Lib.hid (Fx.put1B G13.out U12.out hkw14.out hsw14.out hbw14 how14); clear G13; clear hkw14 hsw14 hbw14 how14)
        | (go_at_call 10; (with_reducible refine (H2.out _ _ _ (Fx.r3 G15.out)).mono ?_); rintro e w16 ⟨A17, c18, rfl, hrw16, hlw16, hmw16, hbw16⟩; have lc18 := Lib.hid hlw16; have mc18 := Lib.hid hmw16; have G19 := Lib.hid (Fx.addR G15.out hbw16 hrw16); clear G15; clear hrw16 hbw16 hlw16 hmw16)
        | (with_reducible refine at_any ?_; refine at_dst 6 rfl ?_; refine wpList_alloc_any rfl 25 rfl #[.slice none 0 0] zero_fen ?_; intro w20 hkw20 hsw20 hbw20; have U21 := Lib.hid (Fx.under_new G19.out rfl); have G22 := Lib.hid (Fx.newB G19.out hkw20.out hbw20); clear G19; clear hkw20 hsw20 hbw20)
        | (with_reducible refine at_any ?_; refine at_store 6 rfl ?_; refine wpList_store_any rfl 25 (.tmp 6) (.tmp 26) rfl w16.heap.size rfl 25 #[.slice none 0 0] (#[.slice A17 n c18]) (Fx.b0 G22.out) rfl (size1 _ _) (sizedF _) (fen_ones _ _ _) ?_; intro w23 hkw23 hsw23 hbw23 how23; have G24 := Lib.hid (Fx.put1B G22.out U21.out hkw23.out hsw23.out hbw23 how23); clear G22; clear hkw23 hsw23 hbw23 how23)
        | (with_reducible refine at_any ?_; refine at_dst 28 rfl ?_; refine wpList_load_fen (by kernel_rfl) (.tmp 4) rfl w7.heap.size rfl 25 (.slice A8 n c9) (Fx.b2 G24.out) ?_)
        | (with_reducible refine at_any ?_; refine at_dst 29 rfl ?_; refine wpList_load_fen (by kernel_rfl) (.tmp 6) rfl w16.heap.size rfl 25 (.slice A17 n c18) (Fx.b0 G24.out) ?_)
        | (go_at_call 11; (with_reducible refine (H3.out _ _ _ _ _ (Fx.r3 G24.out) (Fx.r1 G24.out)).mono ?_); rintro e w25 ⟨rfl, hbw25⟩; have G26 := Lib.hid (Fx.below G24.out hbw25); clear G24; clear hbw25)
        | (go_at_call 12; (with_reducible refine (H4.out _ _ _ _ _ (Fx.r4 G26.out) (Fx.r5 G26.out)).mono ?_); rintro e w27 ⟨rfl, hbw27⟩; have G28 := Lib.hid (Fx.below G26.out hbw27); clear G26; clear hbw27)
        | (go_at_call 13; (with_reducible refine (H6.out _ _ _ (Fx.r5 G28.out)).mono ?_); rintro e _ ⟨rfl, rfl⟩)
        | (with_reducible refine at_any ?_; refine at_dst 51 rfl ?_; refine wpList_load_fen (by kernel_rfl) (.tmp 4) rfl w7.heap.size rfl 25 (.slice A8 n c9) (Fx.b2 G28.out) ?_)
        | (go_at_call 14; (with_reducible refine (H7.out _ _ lc9.out mc9.out _ (HTT.out.below (Fx.e6 G28.out)) (Fx.r3 G28.out)).mono ?_); rintro e w29 ⟨rfl, hbw29⟩; have G30 := Lib.hid (Fx.below G28.out hbw29); clear G28; clear hbw29)
        | (with_reducible refine at_any ?_; refine at_dst 56 rfl ?_; refine wpList_load_fen (by kernel_rfl) (.tmp 4) rfl w7.heap.size rfl 25 (.slice A8 n c9) (Fx.b2 G30.out) ?_)
        | (go_at_call 15; (with_reducible refine (H8.out _ _ _).mono ?_); rintro e w31 ⟨rfl, hbw31⟩; have G32 := Lib.hid (Fx.below G30.out hbw31); clear G30; clear hbw31)
        | (with_reducible refine at_any ?_; refine at_dst 63 rfl ?_; refine wpList_load_fen (by kernel_rfl) (.tmp 4) rfl w7.heap.size rfl 25 (.slice A8 n c9) (Fx.b2 G32.out) ?_)
        | (go_at_call 16; (with_reducible refine (H9.out _ _ lc9.out mc9.out _ (HTT.out.below (Fx.e6 G32.out)) (Fx.r3 G32.out)).mono ?_); rintro e w33 ⟨A34, c35, rfl, hrw33, hlw33, hmw33, hbw33⟩; have lc35 := Lib.hid hlw33; have mc35 := Lib.hid hmw33; have G36 := Lib.hid (Fx.addR G32.out hbw33 hrw33); clear G32; clear hrw33 hbw33 hlw33 hmw33)
        | (go_at_call 12; (with_reducible refine (H4.out _ _ _ _ _ (Fx.r0 G36.out) (Fx.r6 G36.out)).mono ?_); rintro e w37 ⟨rfl, hbw37⟩; have G38 := Lib.hid (Fx.below G36.out hbw37); clear G36; clear hbw37))
      go_ret
      exact ⟨rfl, (Fx.e7 G38.out)⟩
    · have e := bldE_big (l := zs) (by omega) hs
      have H1 := Lib.hid (fun A c W hT h => calls_fen (q11build_c zs hz A n c hnm W hT h) e.2 e.1 (n := 0) rfl)
      have H2 := Lib.hid (fun A c W h => calls_fen (r11build_c zs hz A n c hnm W h) e.2 e.1 (n := 0) rfl)
      have H3 := Lib.hid (fun A B c d W h h' => calls_val (v' := .bool true) (r11same_c [] [] A B 0 0 c d (Nat.zero_le _) (Nat.zero_le _) W h h') rfl)
      have H6 := Lib.hid (fun A c W h => calls_pure (r9total_c zs hz A n c hnm W h) (tup_ub (sumV_no hs).1 (sumV_no hs).2))
      clear hs e hrd hw hz hz0 hg hn5 hnm lc cm hlen
      go_enter Tryd.func3, Tryd.ntmps3
      go_wp2_with (first
        | (go_at_call 8; (with_reducible refine (alive11_c _ (HTT.out.below (Fx.e1 G0.out))).mono ?_); rintro e w1 ⟨rfl, hbw1⟩; have G2 := Lib.hid (Fx.below G0.out hbw1); clear G0; clear hbw1)
        | (with_reducible refine at_any ?_; refine at_dst 17 rfl ?_; refine wpList_own_copy8 w1 rfl (.tmp 15) (.tmp 16) rfl rfl a0 n c zs rfl (Fx.r0 G2.out) H5.out ?_; intro A4 c5 w3 hbw3 hrw3 hlw3 hmw3; rw [HL.out] at hrw3 hlw3 ⊢; have lc5 := Lib.hid hlw3.out; have mc5 := Lib.hid hmw3.out; have G6 := Lib.hid (Fx.addR G2.out hbw3 hrw3); clear G2; clear hrw3 hbw3 hlw3 hmw3)
        | (go_at_call 9; (with_reducible refine (H1.out _ _ _ (HTT.out.below (Fx.e2 G6.out)) (Fx.r0 G6.out)).mono ?_); rintro e w7 ⟨A8, c9, rfl, hrw7, hlw7, hmw7, hbw7⟩; have lc9 := Lib.hid hlw7; have mc9 := Lib.hid hmw7; have G10 := Lib.hid (Fx.addR G6.out hbw7 hrw7); clear G6; clear hrw7 hbw7 hlw7 hmw7)
        | (with_reducible refine at_any ?_; refine at_dst 4 rfl ?_; refine wpList_alloc_any rfl 25 rfl #[.slice none 0 0] zero_fen ?_; intro w11 hkw11 hsw11 hbw11; have U12 := Lib.hid (Fx.under_new G10.out rfl); have G13 := Lib.hid (Fx.newB G10.out hkw11.out hbw11); clear G10; clear hkw11 hsw11 hbw11)
        | (with_reducible refine at_any ?_; refine at_store 4 rfl ?_; refine wpList_store_any rfl 25 (.tmp 4) (.tmp 21) rfl w7.heap.size rfl 25 #[.slice none 0 0] (#[.slice A8 0 c9]) (Fx.b0 G13.out) rfl (size1 _ _) (sizedF _) (fen_ones _ _ _) ?_; intro w14 hkw14 hsw14 hbw14 how14; have G15 := Lib.hid (Fx.put1B G13.out U12.out hkw14.out hsw14.out hbw14 how14); clear G13; clear hkw14 hsw14 hbw14 how14)
        | (go_at_call 10; (with_reducible refine (H2.out _ _ _ (Fx.r3 G15.out)).mono ?_); rintro e w16 ⟨A17, c18, rfl, hrw16, hlw16, hmw16, hbw16⟩; have lc18 := Lib.hid hlw16; have mc18 := Lib.hid hmw16; have G19 := Lib.hid (Fx.addR G15.out hbw16 hrw16); clear G15; clear hrw16 hbw16 hlw16 hmw16)
        | (with_reducible refine at_any ?_; refine at_dst 6 rfl ?_; refine wpList_alloc_any rfl 25 rfl #[.slice none 0 0] zero_fen ?_; intro w20 hkw20 hsw20 hbw20; have U21 := Lib.hid (Fx.under_new G19.out rfl); have G22 := Lib.hid (Fx.newB G19.out hkw20.out hbw20); clear G19; clear hkw20 hsw20 hbw20)
        | (with_reducible refine at_any ?_; refine at_store 6 rfl ?_; refine wpList_store_any rfl 25 (.tmp 6) (.tmp 26) rfl w16.heap.size rfl 25 #[.slice none 0 0] (#[.slice A17 0 c18]) (Fx.b0 G22.out) rfl (size1 _ _) (sizedF _) (fen_ones _ _ _) ?_; intro w23 hkw23 hsw23 hbw23 how23; have G24 := Lib.hid (Fx.put1B G22.out U21.out hkw23.out hsw23.out hbw23 how23); clear G22; clear hkw23 hsw23 hbw23 how23)
        | (with_reducible refine at_any ?_; refine at_dst 28 rfl ?_; refine wpList_load_fen (by kernel_rfl) (.tmp 4) rfl w7.heap.size rfl 25 (.slice A8 0 c9) (Fx.b2 G24.out) ?_)
        | (with_reducible refine at_any ?_; refine at_dst 29 rfl ?_; refine wpList_load_fen (by kernel_rfl) (.tmp 6) rfl w16.heap.size rfl 25 (.slice A17 0 c18) (Fx.b0 G24.out) ?_)
        | (go_at_call 11; (with_reducible refine (H3.out _ _ _ _ _ (Fx.r3 G24.out) (Fx.r1 G24.out)).mono ?_); rintro e w25 ⟨rfl, hbw25⟩; have G26 := Lib.hid (Fx.below G24.out hbw25); clear G24; clear hbw25)
        | (go_at_call 12; (with_reducible refine (H4.out _ _ _ _ _ (Fx.r4 G26.out) (Fx.r5 G26.out)).mono ?_); rintro e w27 ⟨rfl, hbw27⟩; have G28 := Lib.hid (Fx.below G26.out hbw27); clear G26; clear hbw27)
        | (go_at_call 13; (with_reducible refine (H6.out _ _ _ (Fx.r5 G28.out)).mono ?_); rintro e _ ⟨rfl, rfl⟩))
      go_ret
      exact ⟨rfl, (Fx.e6 G28.out)⟩


set_option maxRecDepth 100000 in
theorem lifted (os : Os) (started : os.Started) (H : Type) (enc : TypeId × Value → H) :
    ReturnsInHanded {} Tryd.checked os 3 .any (fun w args => (Rows.fenBuildsSpec.pre enc Tryd.prog Tryd.f3 [] false w args ∧ laidMetH Tryd.prog laidT w) ∧ sizedMet enc Tryd.prog Tryd.f3 (OpenSpec.ofChange Rows.fenBuildsSpec) false w args) (Rows.fenBuildsSpec.post enc Tryd.prog Tryd.f3 false true false false) := by
  refine returnsInHanded_of_change_and (C := Tryd.checked) (X := fun w _ => laidMetH Tryd.prog laidT w) (fun _ _ _ hh h => h.of_heap hh) own started (by kernel_rfl) Tryd.func3
    (ChangeSpec.witness_shaped (enc := enc) (C := Tryd.checked) (os := os) (X := fun w _ => laidMetH Tryd.prog laidT w) false (World.doorLaid Tryd.prog 400 os) #[.slice none 0 0] 8 rfl (World.shaped_of_RefB (by kernel_rfl) (by kernel_rfl)) (by kernel_rfl) (by kernel_rfl) (by kernel_rfl) (door_metT os _)) ?_
  intro W base args ds gs before hval0 hW _ _ hL _
  have hval : ∀ (j : Nat) t v, Tryd.f3.params[j]? = some t → args[j]? = some v → Value.okWide Tryd.prog W .any base t v := hval0
  have hW' := hW
  obtain ⟨p, q, hA0, hV, rfl, hfz, hnd⟩ := hW
  have hA : DataW.TrodAll enc Tryd.prog W 0 (fun _ => true) true Tryd.f3.params.toList args.toList ds p := hA0
  rw [Tryd.params3] at hA hval
  obtain ⟨v0, vs0, d0, ds0, p0, q0, hargs, rfl, rfl, h0, r0⟩ := trodAll_cons hA
  obtain ⟨rfl, rfl, rfl⟩ := trodAll_nil r0
  obtain rfl : args = #[v0] := by cases args; simp_all
  obtain ⟨rfl, rfl⟩ := trodVars_none hV
  obtain ⟨a0, n0, c0, rfl⟩ := okWide_slice Tryd.underlying22 (hval 0 22 v0 rfl rfl)
  have k0 := h0
  have lt0 : ∀ x ∈ p0, x.block < W.heap.size := by obtain ⟨m, hm⟩ := k0; exact DataW.trod_lt m _ _ _ hm
  obtain ⟨z0, rd0, lc0, cm0, w0⟩ := open_rd Tryd.underlying22 Tryd.underlying32 (by kernel_rfl) h0
  clear hA0 hval0
  refine (walk a0 n0 c0 z0 W (tzT_of_laid hL) rd0 lc0 cm0 w0).mono fun e W' ⟨he, bel⟩ => ?_
  subst he
  exact ⟨_, rfl, _, _, _, [], _, [], hW', trodAll_mk1 (shut_bool Tryd.underlying4 _), (trodAll_cons_mk (Below.trod laidOut (by kernel_rfl) (of_decide_eq_true (by kernel_rfl)) k0 bel lt0) trodAll_mk0), rfl, bel.frame _, fun h => by cases h⟩

theorem over : Rows.fenBuildsRow.holds Tryd.pinned (OpenSpec.ofChange Rows.fenBuildsSpec) :=
  OpenClaim.holds_of_wide 3 Tryd.f3 rfl rfl rfl rfl rfl rfl rfl ⟨rfl, rfl, rfl, rfl, rfl⟩ rfl rfl rfl rfl rfl (by kernel_rfl) Tryd.func3 (by kernel_rfl)
    (of_decide_eq_true (by kernel_rfl)) (by unfold Func.isWrapper; first | (rw [if_pos (by decide +kernel)]; kernel_rfl) | (rw [if_neg (by decide +kernel)]; exact ⟨rfl, rfl⟩))
    (fun os started H enc _ => lifted os started H enc)

end Go.Proofs.YtdpjambejmlppaaDoor.fenBuilds
namespace Go.Proofs.YtdpjambejmlppaaDoor
theorem fenBuilds_holds : Rows.FenBuildsCardSaid :=
  Claim7.holds_tied_plain_at .later [] [.data, .data] true _ false
    fenBuilds.over (fun _ h => by cases h) (by kernel_rfl) (fun _ h => by cases h) fenBuilds_row_tie rfl ⟨rfl, rfl⟩ (by kernel_rfl) rfl
    (fun f fn hf hfn => by
      obtain rfl : f = 3 := Option.some.inj ((show Tryd.prog.funcNamed "drawlot/drawlotlaw11.FenBuilds" = some 3 by kernel_rfl).symm.trans hf) |>.symm
      obtain rfl : fn = Tryd.f3 := (Option.some.inj (Tryd.func3.symm.trans hfn)).symm
      exact ⟨by kernel_rfl, fun j t ht => by
        rw [Tryd.params3] at ht
        have hm : t ∈ [22] := by simpa using Array.mem_of_getElem? ht
        have hall : ([22].all fun u => !Tryd.prog.wantsStandIn u) = true := by kernel_rfl
        exact (show Tryd.prog.wantsStandIn t = false by simpa using List.all_eq_true.1 hall t hm)⟩)
    (by kernel_rfl)
#print axioms fenBuilds_holds
end Go.Proofs.YtdpjambejmlppaaDoor

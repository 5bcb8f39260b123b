/-
  The table of any stakes is the document's, or refused, for its reason; of up to 300.
  Conditions: none.
-/
import Derived.Test.YtkgajcifanobnaaLawS
import Derived.Test.YtkgajcifanobnaaOpenA
import Derived.ShutString
import Derived.ChangeOld
namespace Go.Proofs.Ytkgajcifanobnaa.aliasBuilds
open Go.ChangeShapes Go.WideShapes Go.ChangeAt Go.RowKit
set_option linter.unusedVariables false
set_option linter.unusedSimpArgs false
set_option maxRecDepth 100000

theorem own : ownKnob Try.prog.godebug = none := by kernel_rfl
theorem laidOut : laidOutB Try.prog = true := by kernel_rfl

set_option maxHeartbeats 8000000 in
theorem walk (a0 : Option Addr) (n c : Nat) (zs : List Int) (w : World) (hrd : Rd .u64 w w.heap.size a0 n zs) (lc : n ≤ c) (cm : c ≤ maxLen) (hw : ∀ z ∈ zs, (Lit.int .u64 z).wf = true) :
    Calls Try.prog 3 #[.slice a0 n c] w fun e w' => e = .returned (.bool true) ∧ Below w.heap.size w w' := by
  have G0 : Hid (Fx [.rdb .u64 w.heap.size a0 n zs, .bel w] w) := Lib.hid ⟨⟨hrd, Nat.le_refl _⟩, Below.refl _ _, trivial⟩
  have hlen := hrd.len
  have hz : ∀ z ∈ zs, 0 ≤ z ∧ z < 18446744073709551616 := fun z h => by
    obtain ⟨h1, h2⟩ := bounds_u64 (hw z h)
    omega
  by_cases hg : 300 < n
  · have hg2 : (300 : Int) < (n : Int) := by omega
    clear hrd hw hz hg
    go_enter Try.func3, Try.ntmps3
    go_wp2_with (first
      | (go_at_call 8; (with_reducible refine (alive14_c _).mono ?_); rintro e w1 ⟨rfl, hbw1⟩; have G2 := Lib.hid (Fx.below G0.out hbw1); clear G0; clear hbw1))
    go_ret
    exact ⟨rfl, (Fx.e1 G2.out)⟩
  · have hg2 : (n : Int) ≤ 300 := by omega
    have hnm : n ≤ maxLen := by simp only [maxLen]; omega
    have H4 := Lib.hid (fun A B c d W h h' => calls_val (v' := .bool true) (r9same_c zs zs A B n n c d hnm hnm W h h') (congrArg Value.bool (decide_eq_true rfl)))
    have H5 := Lib.hid (show n ≤ 100000000 by omega)
    have HL := Lib.hid hlen
    have h1 := fun A c W h => q14build_c zs hz A n c (by omega) W h
    have h2 := fun A c W h => r14build_c zs hz A n c (by omega) W h
    obtain ⟨i0, i1, i2, i3⟩ := tb_in (l := zs) (fun z h => (hz z h).1)
    have h3 := fun A B c d W h h' => calls_val (v' := .bool true) (r14same_c (tbT zs) (tbT zs) i0 i0 (by omega) (by omega) (tbC zs) (tbC zs) A B (tbC zs).length (tbC zs).length c d (by simp only [maxLen]; omega) (by simp only [maxLen]; omega) W h h') (congrArg Value.bool (decide_eq_true ⟨rfl, rfl⟩))
    obtain ⟨T, hT⟩ : ∃ x, tbT zs = x := ⟨_, rfl⟩
    obtain ⟨ts, hts⟩ : ∃ x, tbC zs = x := ⟨_, rfl⟩
    obtain ⟨er, her⟩ : ∃ x, tbE zs = x := ⟨_, rfl⟩
    rw [hT, hts, her] at h1 h2
    rw [hT, hts] at h3
    obtain ⟨m, hm⟩ : ∃ x, ts.length = x := ⟨_, rfl⟩
    rw [hm] at h1 h2 h3
    have H1 := Lib.hid h1
    have H2 := Lib.hid h2
    have H3 := Lib.hid h3
    clear h1 h2 h3 hT hts her hm i0 i1 i2 i3 hrd hw hz hg hnm lc cm hlen
    go_enter Try.func3, Try.ntmps3
    go_wp2_with (first
      | (go_at_call 8; (with_reducible refine (alive14_c _).mono ?_); rintro e w1 ⟨rfl, hbw1⟩; have G2 := Lib.hid (Fx.below G0.out hbw1); clear G0; clear hbw1)
      | (with_reducible refine at_any ?_; refine at_dst 15 rfl ?_; refine wpList_own_copy8 w1 rfl (.tmp 13) (.tmp 14) rfl rfl a0 n c zs rfl (Fx.r0 G2.out) H5.out ?_; intro A4 c5 w3 hbw3 hrw3 hlw3 hmw3; rw [HL.out] at hrw3 hlw3 ⊢; have lc5 := Lib.hid hlw3.out; have mc5 := Lib.hid hmw3.out; have G6 := Lib.hid (Fx.addR G2.out hbw3 hrw3); clear G2; clear hrw3 hbw3 hlw3 hmw3)
      | (go_at_call 9; (with_reducible refine (H1.out _ _ _ (Fx.r0 G6.out)).mono ?_); rintro e w7 ⟨A8, c9, rfl, hrw7, hlw7, hmw7, hbw7⟩; have lc9 := Lib.hid hlw7; have mc9 := Lib.hid hmw7; have G10 := Lib.hid (Fx.addP G6.out hbw7 hrw7); clear G6; clear hrw7 hbw7 hlw7 hmw7)
      | (with_reducible refine at_any ?_; refine at_dst 4 rfl ?_; refine wpList_alloc_any rfl 27 rfl #[.int .u64 0, .slice none 0 0] zero_tabL ?_; intro w11 hkw11 hsw11 hbw11; have U12 := Lib.hid (Fx.under_new G10.out rfl); have G13 := Lib.hid (Fx.newB G10.out hkw11.out hbw11); clear G10; clear hkw11 hsw11 hbw11)
      | (with_reducible refine at_any ?_; refine at_store 4 rfl ?_; refine wpList_store_any rfl 27 (.tmp 4) (.tmp 19) rfl w7.heap.size rfl 27 #[.int .u64 0, .slice none 0 0] (#[.int .u64 T, .slice A8 m c9]) (Fx.b0 G13.out) rfl (sameT2 _ _ _ _) (sizedT _ _) (onesT _ _ _ _) ?_; intro w14 hkw14 hsw14 hbw14 how14; have G15 := Lib.hid (Fx.put1B G13.out U12.out hkw14.out hsw14.out hbw14 how14); clear G13; clear hkw14 hsw14 hbw14 how14)
      | (go_at_call 10; (with_reducible refine (H2.out _ _ _ (Fx.r3 G15.out)).mono ?_); rintro e w16 ⟨A17, c18, rfl, hrw16, hlw16, hmw16, hbw16⟩; have lc18 := Lib.hid hlw16; have mc18 := Lib.hid hmw16; have G19 := Lib.hid (Fx.addP G15.out hbw16 hrw16); clear G15; clear hrw16 hbw16 hlw16 hmw16)
      | (with_reducible refine at_any ?_; refine at_dst 6 rfl ?_; refine wpList_alloc_any rfl 27 rfl #[.int .u64 0, .slice none 0 0] zero_tabL ?_; intro w20 hkw20 hsw20 hbw20; have U21 := Lib.hid (Fx.under_new G19.out rfl); have G22 := Lib.hid (Fx.newB G19.out hkw20.out hbw20); clear G19; clear hkw20 hsw20 hbw20)
      | (with_reducible refine at_any ?_; refine at_store 6 rfl ?_; refine wpList_store_any rfl 27 (.tmp 6) (.tmp 24) rfl w16.heap.size rfl 27 #[.int .u64 0, .slice none 0 0] (#[.int .u64 T, .slice A17 m c18]) (Fx.b0 G22.out) rfl (sameT2 _ _ _ _) (sizedT _ _) (onesT _ _ _ _) ?_; intro w23 hkw23 hsw23 hbw23 how23; have G24 := Lib.hid (Fx.put1B G22.out U21.out hkw23.out hsw23.out hbw23 how23); clear G22; clear hkw23 hsw23 hbw23 how23)
      | (with_reducible refine at_any ?_; refine at_dst 26 rfl ?_; refine wpList_load_tab (by kernel_rfl) (.tmp 4) rfl w7.heap.size rfl 27 (.int .u64 T) (.slice A8 m c9) (Fx.b2 G24.out) ?_)
      | (with_reducible refine at_any ?_; refine at_dst 27 rfl ?_; refine wpList_load_tab (by kernel_rfl) (.tmp 6) rfl w16.heap.size rfl 27 (.int .u64 T) (.slice A17 m c18) (Fx.b0 G24.out) ?_)
      | (go_at_call 11; (with_reducible refine (H3.out _ _ _ _ _ (Fx.k3 G24.out) (Fx.k1 G24.out)).mono ?_); rintro e w25 ⟨rfl, hbw25⟩; have G26 := Lib.hid (Fx.below G24.out hbw25); clear G24; clear hbw25)
      | (go_at_call 12; (with_reducible refine (H4.out _ _ _ _ _ (Fx.r4 G26.out) (Fx.r5 G26.out)).mono ?_); rintro e w27 ⟨rfl, hbw27⟩; have G28 := Lib.hid (Fx.below G26.out hbw27); clear G26; clear hbw27))
    go_ret
    exact ⟨rfl, (Fx.e6 G28.out)⟩


set_option maxRecDepth 100000 in
theorem lifted (os : Os) (started : os.Started) (H : Type) (enc : TypeId × Value → H) :
    ReturnsInHanded {} Try.checked os 3 .any (Rows.aliasBuildsSpec.pre6 enc Try.prog Try.f3 Rows.aliasBuildsRow.domain false) (Rows.aliasBuildsSpec.post enc Try.prog Try.f3 false true false false) := by
  refine returnsInHanded_of_change (C := Try.checked) own started (by kernel_rfl) Try.func3
    (ChangeSpec.witness6 (enc := enc) (C := Try.checked) false ⟨#[], #[.slice none 0 0], []⟩ 8 (by kernel_rfl) (by kernel_rfl) (by kernel_rfl) (by kernel_rfl)) ?_
  intro W base args ds gs before hval0 hW hcnd _
  have hval : ∀ (j : Nat) t v, Try.f3.params[j]? = some t → args[j]? = some v → Value.okWide Try.prog W .any base t v := hval0
  have hW' := hW
  obtain ⟨p, q, hA0, hV, rfl, hfz, hnd⟩ := hW
  have hA : DataW.TrodAll enc Try.prog W 0 (fun _ => true) true Try.f3.params.toList args.toList ds p := hA0
  rw [Try.params3] at hA hval
  obtain ⟨v0, vs0, d0, ds0, p0, q0, hargs, rfl, rfl, h0, r0⟩ := trodAll_cons hA
  obtain ⟨rfl, rfl, rfl⟩ := trodAll_nil r0
  obtain rfl : args = #[v0] := by cases args; simp_all
  obtain ⟨rfl, rfl⟩ := trodVars_none hV
  obtain ⟨a0, n0, c0, rfl⟩ := okWide_slice Try.underlying22 (hval 0 22 v0 rfl rfl)
  have k0 := h0
  have lt0 : ∀ x ∈ p0, x.block < W.heap.size := by obtain ⟨m, hm⟩ := k0; exact DataW.trod_lt m _ _ _ hm
  obtain ⟨z0, rd0, lc0, cm0, w0⟩ := open_rd Try.underlying22 Try.underlying24 (by kernel_rfl) h0
  clear hA0 hval0
  refine (walk a0 n0 c0 z0 W rd0 lc0 cm0 w0).mono fun e W' ⟨he, bel⟩ => ?_
  subst he
  exact ⟨_, rfl, _, _, _, [], _, [], hW', trodAll_mk1 (shut_bool Try.underlying4 _), (trodAll_cons_mk (Below.trod laidOut (by kernel_rfl) (of_decide_eq_true (by kernel_rfl)) k0 bel lt0) trodAll_mk0), rfl, bel.frame _, fun h => by cases h⟩

theorem over : Rows.aliasBuildsRow.holds Try.pinned (OpenSpec.ofChange Rows.aliasBuildsSpec) :=
  OpenClaim.holds_of_wide 3 Try.f3 rfl rfl rfl rfl rfl rfl rfl ⟨rfl, rfl, rfl, rfl, rfl⟩ rfl rfl rfl rfl rfl (by kernel_rfl) Try.func3 (by kernel_rfl)
    (of_decide_eq_true (by kernel_rfl)) (by unfold Func.isWrapper; first | (rw [if_pos (by decide +kernel)]; kernel_rfl) | (rw [if_neg (by decide +kernel)]; exact ⟨rfl, rfl⟩))
    (fun os started H enc _ => lifted os started H enc)

end Go.Proofs.Ytkgajcifanobnaa.aliasBuilds
namespace Go.Proofs.Ytkgajcifanobnaa
theorem aliasBuilds_holds : Rows.AliasBuildsSaid := aliasBuilds.over
#print axioms aliasBuilds_holds
end Go.Proofs.Ytkgajcifanobnaa

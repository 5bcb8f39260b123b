/-
  Whether any two tables are the same is the document's; of up to 300 cells.
  Conditions: none.
-/
import Derived.Test.YtkgajcifanobnaaLawS
import Derived.Test.YtkgajcifanobnaaOpenS
import Derived.ShutString
import Derived.ChangeOld
namespace Go.Proofs.Ytkgajcifanobnaa.aliasSame
open Go.ChangeShapes Go.WideShapes Go.ChangeAt Go.RowKit
set_option linter.unusedVariables false
set_option linter.unusedSimpArgs false
set_option maxRecDepth 100000

theorem own : ownKnob Try.prog.godebug = none := by kernel_rfl
theorem laidOut : laidOutB Try.prog = true := by kernel_rfl

set_option maxHeartbeats 8000000 in
theorem walk (T : Int) (a0 : Option Addr) (n c : Nat) (xs : List (Int × Int)) (U : Int) (b0 : Option Addr) (m d : Nat) (ys : List (Int × Int)) (w : World) (hra : RdPr .u64 .i64 w w.heap.size a0 n xs) (lc : n ≤ c) (cm : c ≤ maxLen) (wt : (Lit.int .u64 T).wf = true) (hwa : ∀ q ∈ xs, (Lit.int .u64 q.1).wf = true ∧ (Lit.int .i64 q.2).wf = true) (hrb : RdPr .u64 .i64 w w.heap.size b0 m ys) (lcb : m ≤ d) (cmb : d ≤ maxLen) (wu : (Lit.int .u64 U).wf = true) (hwb : ∀ q ∈ ys, (Lit.int .u64 q.1).wf = true ∧ (Lit.int .i64 q.2).wf = true) :
    Calls Try.prog 5 #[.agg #[.int .u64 T, .slice a0 n c], .agg #[.int .u64 U, .slice b0 m d]] w fun e w' => e = .returned (.bool true) ∧ Below w.heap.size w w' := by
  have G0 : Hid (Fx [.kept w.heap.size (fun W => RdPr .u64 .i64 W W.heap.size a0 n xs), .kept w.heap.size (fun W => RdPr .u64 .i64 W W.heap.size b0 m ys), .bel w] w) := Lib.hid ⟨RdPr.kept hra, RdPr.kept hrb, Below.refl _ _, trivial⟩
  have hT := bounds_u64 wt
  have hU := bounds_u64 wu
  by_cases hg : 300 < n
  · have hg2 : (300 : Int) < (n : Int) := by omega
    clear hra hrb hwa hwb hT hU wt wu lc lcb cm cmb
    go_enter Try.func5, Try.ntmps5
    go_wp2_with (first
      | (with_reducible refine at_any ?_; refine at_dst 2 rfl ?_; refine wpList_box_any rfl 27 (.tmp 0) rfl #[.int .u64 T, .slice a0 n c] rfl ?_; intro w1 hkw1 hsw1 hbw1; have G2 := Lib.hid (Fx.newB G0.out hkw1.out hbw1); clear G0; clear hkw1 hsw1 hbw1)
      | (with_reducible refine at_any ?_; refine at_dst 3 rfl ?_; refine wpList_box_any rfl 27 (.tmp 1) rfl #[.int .u64 U, .slice b0 m d] rfl ?_; intro w3 hkw3 hsw3 hbw3; have G4 := Lib.hid (Fx.newB G2.out hkw3.out hbw3); clear G2; clear hkw3 hsw3 hbw3)
      | (go_at_call 8; (with_reducible refine (alive14_c _).mono ?_); rintro e w5 ⟨rfl, hbw5⟩; have G6 := Lib.hid (Fx.below G4.out hbw5); clear G4; clear hbw5; have cz7a := tab_c0 (Fx.b1 G6.out); have cz7b := tab_c1 (Fx.b1 G6.out); have cz8a := tab_c0 (Fx.b0 G6.out); have cz8b := tab_c1 (Fx.b0 G6.out)))
    go_ret
    exact ⟨rfl, (Fx.e4 G6.out)⟩
  · have hg2 : (n : Int) ≤ 300 := by omega
    by_cases hk : 300 < m
    · have hk2 : (300 : Int) < (m : Int) := by omega
      clear hra hrb hwa hwb hT hU wt wu lc lcb cm cmb
      go_enter Try.func5, Try.ntmps5
      go_wp2_with (first
        | (with_reducible refine at_any ?_; refine at_dst 2 rfl ?_; refine wpList_box_any rfl 27 (.tmp 0) rfl #[.int .u64 T, .slice a0 n c] rfl ?_; intro w1 hkw1 hsw1 hbw1; have G2 := Lib.hid (Fx.newB G0.out hkw1.out hbw1); clear G0; clear hkw1 hsw1 hbw1)
        | (with_reducible refine at_any ?_; refine at_dst 3 rfl ?_; refine wpList_box_any rfl 27 (.tmp 1) rfl #[.int .u64 U, .slice b0 m d] rfl ?_; intro w3 hkw3 hsw3 hbw3; have G4 := Lib.hid (Fx.newB G2.out hkw3.out hbw3); clear G2; clear hkw3 hsw3 hbw3)
        | (go_at_call 8; (with_reducible refine (alive14_c _).mono ?_); rintro e w5 ⟨rfl, hbw5⟩; have G6 := Lib.hid (Fx.below G4.out hbw5); clear G4; clear hbw5; have cz7a := tab_c0 (Fx.b1 G6.out); have cz7b := tab_c1 (Fx.b1 G6.out); have cz8a := tab_c0 (Fx.b0 G6.out); have cz8b := tab_c1 (Fx.b0 G6.out)))
      go_ret
      exact ⟨rfl, (Fx.e4 G6.out)⟩
    · have hk2 : (m : Int) ≤ 300 := by omega
      have hnm : n ≤ maxLen := by simp only [maxLen]; omega
      have hmm : m ≤ maxLen := by simp only [maxLen]; omega
      have h1 := fun W h h' => q14same_c T U (by omega) (by omega) (by omega) (by omega) xs ys a0 b0 n m c d (by omega) (by omega) lc lcb cm cmb W h h'
      have h2 := fun W h h' => r14same_c T U (by omega) (by omega) (by omega) (by omega) xs ys a0 b0 n m c d hnm hmm W h h'
      have H3 := Lib.hid (fun W h h' => calls_val (v' := .bool true) (q14same_c T T (by omega) (by omega) (by omega) (by omega) xs xs a0 a0 n n c c (by omega) (by omega) lc lc cm cm W h h') (congrArg Value.bool (decide_eq_true ⟨rfl, rfl⟩)))
      obtain ⟨sv, e1⟩ : ∃ x, sameT T U xs ys = x := ⟨_, rfl⟩
      rw [e1] at h1 h2
      have H1 := Lib.hid h1
      have H2 := Lib.hid h2
      clear h1 h2 e1 hnm hmm hg hk hra hrb hwa hwb hT hU wt wu lc lcb cm cmb
      have hbb : Hid ((sv == sv) = true) := Lib.hid (by cases sv <;> rfl)
      go_enter Try.func5, Try.ntmps5
      go_wp2_with (first
        | (with_reducible refine at_any ?_; refine at_dst 2 rfl ?_; refine wpList_box_any rfl 27 (.tmp 0) rfl #[.int .u64 T, .slice a0 n c] rfl ?_; intro w1 hkw1 hsw1 hbw1; have G2 := Lib.hid (Fx.newB G0.out hkw1.out hbw1); clear G0; clear hkw1 hsw1 hbw1)
        | (with_reducible refine at_any ?_; refine at_dst 3 rfl ?_; refine wpList_box_any rfl 27 (.tmp 1) rfl #[.int .u64 U, .slice b0 m d] rfl ?_; intro w3 hkw3 hsw3 hbw3; have G4 := Lib.hid (Fx.newB G2.out hkw3.out hbw3); clear G2; clear hkw3 hsw3 hbw3)
        | (go_at_call 8; (with_reducible refine (alive14_c _).mono ?_); rintro e w5 ⟨rfl, hbw5⟩; have G6 := Lib.hid (Fx.below G4.out hbw5); clear G4; clear hbw5; have cz7a := tab_c0 (Fx.b1 G6.out); have cz7b := tab_c1 (Fx.b1 G6.out); have cz8a := tab_c0 (Fx.b0 G6.out); have cz8b := tab_c1 (Fx.b0 G6.out)))
      have hD := Fx.below G6.out (Below.refl _ _).drew
      refine wp_region_held_drew (S := (Fx [.blk w1.heap.size 27 (#[.int .u64 U, .slice b0 m d]), .blk w.heap.size 27 (#[.int .u64 T, .slice a0 n c]), .kept w.heap.size (fun W => RdPr .u64 .i64 W W.heap.size a0 n xs), .kept w.heap.size (fun W => RdPr .u64 .i64 W W.heap.size b0 m ys), .bel w])) (by kernel_rfl) hD (fun hH => ?_)
      refine wpAnyH_letter #[false, false, false, false, false, false, false, false, false, false, false, false, false] (by kernel_rfl) (fun _ _ d _ _ h => by cases d <;> exact h) (fun QL HQ1 HQ2 => ?_)
      refine held_row 0 (some 17) rfl (by kernel_rfl) (by kernel_rfl) (by kernel_rfl) (by kernel_rfl) (fun c a v w h => HQ2.out c a _ v w h) (by kernel_rfl) 27 (.tmp 2) rfl w.heap.size (by kernel_rfl) 27 #[.int .u64 T, .slice a0 n c] (fun _ h => Fx.b1 h) _ Try.underlying27 rfl (sizedT _ _) hD ?_
      try simp only [Act.put, List.setIfInBounds_toArray, List.set_cons_zero, List.set_cons_succ]
      refine held_row 1 (some 18) rfl (by kernel_rfl) (by kernel_rfl) (by kernel_rfl) (by kernel_rfl) (fun c a v w h => HQ2.out c a _ v w h) (by kernel_rfl) 27 (.tmp 3) rfl w1.heap.size (by kernel_rfl) 27 #[.int .u64 U, .slice b0 m d] (fun _ h => Fx.b0 h) _ Try.underlying27 rfl (sizedT _ _) hD ?_
      try simp only [Act.put, List.setIfInBounds_toArray, List.set_cons_zero, List.set_cons_succ]
      refine held_row 3 (some 20) rfl (by kernel_rfl) (by kernel_rfl) (by kernel_rfl) (by kernel_rfl) (fun c a v w h => HQ2.out c a _ v w h) (by kernel_rfl) 27 (.tmp 2) rfl w.heap.size (by kernel_rfl) 27 #[.int .u64 T, .slice a0 n c] (fun _ h => Fx.b1 h) _ Try.underlying27 rfl (sizedT _ _) hD ?_
      try simp only [Act.put, List.setIfInBounds_toArray, List.set_cons_zero, List.set_cons_succ]
      refine held_row 4 (some 21) rfl (by kernel_rfl) (by kernel_rfl) (by kernel_rfl) (by kernel_rfl) (fun c a v w h => HQ2.out c a _ v w h) (by kernel_rfl) 27 (.tmp 3) rfl w1.heap.size (by kernel_rfl) 27 #[.int .u64 U, .slice b0 m d] (fun _ h => Fx.b0 h) _ Try.underlying27 rfl (sizedT _ _) hD ?_
      try simp only [Act.put, List.setIfInBounds_toArray, List.set_cons_zero, List.set_cons_succ]
      refine wpAnyH_ready (rs := [2]) (by kernel_rfl) (by decide) ?_
      refine AllReadyH.cons rfl (fun K hK => ?_) AllReadyH.nil
      refine step_call (some 19) (by kernel_rfl) (by kernel_rfl) _ _ (by kernel_rfl) _ (H1.out _ (Fx.k2 hD) (Fx.k3 hD)) ?_
      rintro e w41 ⟨rfl, hbw41⟩
      refine ⟨_, rfl, ?_⟩
      refine hK.out _ _ (hD.below hbw41) (fun hw41 => ?_)
      clear hK K
      try simp only [Act.put, List.setIfInBounds_toArray, List.set_cons_zero, List.set_cons_succ]
      refine wpAnyH_ready (rs := [5]) (by kernel_rfl) (by decide) ?_
      refine AllReadyH.cons rfl (fun K hK => ?_) AllReadyH.nil
      refine step_call (some 22) (by kernel_rfl) (by kernel_rfl) _ _ (by kernel_rfl) _ (H2.out _ (Fx.k2 hw41) (Fx.k3 hw41)) ?_
      rintro e w42 ⟨rfl, hbw42⟩
      refine ⟨_, rfl, ?_⟩
      refine hK.out _ _ (hw41.below hbw42) (fun hw42 => ?_)
      clear hK K
      try simp only [Act.put, List.setIfInBounds_toArray, List.set_cons_zero, List.set_cons_succ]
      refine held_v 6 (some 23) rfl (by kernel_rfl) (by kernel_rfl) (by kernel_rfl) (by kernel_rfl) (fun c a v w h => HQ2.out c a _ v w h) (by kernel_rfl) (.bool true) (fun W h => by go_simp) hw42 ?_
      try simp only [Act.put, List.setIfInBounds_toArray, List.set_cons_zero, List.set_cons_succ]
      refine held_v 7 (some 24) rfl (by kernel_rfl) (by kernel_rfl) (by kernel_rfl) (by kernel_rfl) (fun c a v w h => HQ2.out c a _ v w h) (by kernel_rfl) (.bool true) (fun W h => by kernel_rfl) hw42 ?_
      try simp only [Act.put, List.setIfInBounds_toArray, List.set_cons_zero, List.set_cons_succ]
      refine held_row 8 (some 25) rfl (by kernel_rfl) (by kernel_rfl) (by kernel_rfl) (by kernel_rfl) (fun c a v w h => HQ2.out c a _ v w h) (by kernel_rfl) 27 (.tmp 2) rfl w.heap.size (by kernel_rfl) 27 #[.int .u64 T, .slice a0 n c] (fun _ h => Fx.b1 h) _ Try.underlying27 rfl (sizedT _ _) hw42 ?_
      try simp only [Act.put, List.setIfInBounds_toArray, List.set_cons_zero, List.set_cons_succ]
      refine held_row 9 (some 26) rfl (by kernel_rfl) (by kernel_rfl) (by kernel_rfl) (by kernel_rfl) (fun c a v w h => HQ2.out c a _ v w h) (by kernel_rfl) 27 (.tmp 2) rfl w.heap.size (by kernel_rfl) 27 #[.int .u64 T, .slice a0 n c] (fun _ h => Fx.b1 h) _ Try.underlying27 rfl (sizedT _ _) hw42 ?_
      try simp only [Act.put, List.setIfInBounds_toArray, List.set_cons_zero, List.set_cons_succ]
      refine wpAnyH_ready (rs := [10]) (by kernel_rfl) (by decide) ?_
      refine AllReadyH.cons rfl (fun K hK => ?_) AllReadyH.nil
      refine step_call (some 27) (by kernel_rfl) (by kernel_rfl) _ _ (by kernel_rfl) _ (H3.out _ (Fx.k2 hw42) (Fx.k2 hw42)) ?_
      rintro e w43 ⟨rfl, hbw43⟩
      refine ⟨_, rfl, ?_⟩
      refine hK.out _ _ (hw42.below hbw43) (fun hw43 => ?_)
      clear hK K
      try simp only [Act.put, List.setIfInBounds_toArray, List.set_cons_zero, List.set_cons_succ]
      refine held_v 11 (some 28) rfl (by kernel_rfl) (by kernel_rfl) (by kernel_rfl) (by kernel_rfl) (fun c a v w h => HQ2.out c a _ v w h) (by kernel_rfl) (.bool true) (fun W h => by kernel_rfl) hw43 ?_
      try simp only [Act.put, List.setIfInBounds_toArray, List.set_cons_zero, List.set_cons_succ]
      refine held_v 12 (some 4) rfl (by kernel_rfl) (by kernel_rfl) (by kernel_rfl) (by kernel_rfl) (fun c a v w h => HQ2.out c a _ v w h) (by kernel_rfl) (.bool true) (fun W h => by kernel_rfl) hw43 ?_
      try simp only [Act.put, List.setIfInBounds_toArray, List.set_cons_zero, List.set_cons_succ]
      refine wpAnyH_done (by kernel_rfl) ?_ _
      refine HQ1.out _ _ ?_
      clear HQ1 HQ2
      go_wp2_with fail
      go_ret
      exact ⟨rfl, Fx.e4 hw43⟩


set_option maxRecDepth 100000 in
theorem lifted (os : Os) (started : os.Started) (H : Type) (enc : TypeId × Value → H) :
    ReturnsInHanded {} Try.checked os 5 .any (Rows.aliasSameSpec.pre6 enc Try.prog Try.f5 Rows.aliasSameRow.domain false) (Rows.aliasSameSpec.post enc Try.prog Try.f5 false true false false) := by
  refine returnsInHanded_of_change (C := Try.checked) own started (by kernel_rfl) Try.func5
    (ChangeSpec.witness6 (enc := enc) (C := Try.checked) false ⟨#[], #[.agg #[.int .u64 0, .slice none 0 0], .agg #[.int .u64 0, .slice none 0 0]], []⟩ 8 (by kernel_rfl) (by kernel_rfl) (by kernel_rfl) (by kernel_rfl)) ?_
  intro W base args ds gs before hval0 hW hcnd _
  have hval : ∀ (j : Nat) t v, Try.f5.params[j]? = some t → args[j]? = some v → Value.okWide Try.prog W .any base t v := hval0
  have hW' := hW
  obtain ⟨p, q, hA0, hV, rfl, hfz, hnd⟩ := hW
  have hA : DataW.TrodAll enc Try.prog W 0 (fun _ => true) true Try.f5.params.toList args.toList ds p := hA0
  rw [Try.params5] at hA hval
  obtain ⟨v0, vs0, d0, ds0, p0, q0, hargs, rfl, rfl, h0, r0⟩ := trodAll_cons hA
  obtain ⟨v1, vs1, d1, ds1, p1, q1, rfl, rfl, rfl, h1, r1⟩ := trodAll_cons r0
  obtain ⟨rfl, rfl, rfl⟩ := trodAll_nil r1
  obtain rfl : args = #[v0, v1] := by cases args; simp_all
  obtain ⟨rfl, rfl⟩ := trodVars_none hV
  have k0 := h0
  have lt0 : ∀ x ∈ p0, x.block < W.heap.size := by obtain ⟨m, hm⟩ := k0; exact DataW.trod_lt m _ _ _ hm
  obtain ⟨t0, a0, n0, c0, z0, rfl, rd0, lc0, cm0, wt0, w0⟩ := open_tab (hval 0 27 v0 rfl rfl) h0
  have k1 := h1
  have lt1 : ∀ x ∈ p1, x.block < W.heap.size := by obtain ⟨m, hm⟩ := k1; exact DataW.trod_lt m _ _ _ hm
  obtain ⟨t1, a1, n1, c1, z1, rfl, rd1, lc1, cm1, wt1, w1⟩ := open_tab (hval 1 27 v1 rfl rfl) h1
  clear hA0 hval0
  refine (walk t0 a0 n0 c0 z0 t1 a1 n1 c1 z1 W rd0 lc0 cm0 wt0 w0 rd1 lc1 cm1 wt1 w1).mono fun e W' ⟨he, bel⟩ => ?_
  subst he
  exact ⟨_, rfl, _, _, _, [], _, [], hW', trodAll_mk1 (shut_bool Try.underlying4 _), (trodAll_cons_mk (Below.trod laidOut (by kernel_rfl) (of_decide_eq_true (by kernel_rfl)) k0 bel lt0) (trodAll_cons_mk (Below.trod laidOut (by kernel_rfl) (of_decide_eq_true (by kernel_rfl)) k1 bel lt1) trodAll_mk0)), rfl, bel.frame _, fun h => by cases h⟩

theorem over : Rows.aliasSameRow.holds Try.pinned (OpenSpec.ofChange Rows.aliasSameSpec) :=
  OpenClaim.holds_of_wide 5 Try.f5 rfl rfl rfl rfl rfl rfl rfl ⟨rfl, rfl, rfl, rfl, rfl⟩ rfl rfl rfl rfl rfl (by kernel_rfl) Try.func5 (by kernel_rfl)
    (of_decide_eq_true (by kernel_rfl)) (by unfold Func.isWrapper; first | (rw [if_pos (by decide +kernel)]; kernel_rfl) | (rw [if_neg (by decide +kernel)]; exact ⟨rfl, rfl⟩))
    (fun os started H enc _ => lifted os started H enc)

end Go.Proofs.Ytkgajcifanobnaa.aliasSame
namespace Go.Proofs.Ytkgajcifanobnaa
theorem aliasSame_holds : Rows.AliasSameSaid := aliasSame.over
#print axioms aliasSame_holds
end Go.Proofs.Ytkgajcifanobnaa

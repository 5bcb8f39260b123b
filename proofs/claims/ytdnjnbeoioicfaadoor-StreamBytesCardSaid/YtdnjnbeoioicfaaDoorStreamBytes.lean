/-
  The first bytes of any stream are the document's; of up to 600.
  Conditions: the program's table of constants reads, when the call begins, as its text lays it (the card ties that).
-/
import Derived.Test.YtdnjnbeoioicfaaDoorLawI
import Derived.ShutString
import Derived.Test.YtdnjnbeoioicfaaDoorCompK
import Derived.Test.YtdnjnbeoioicfaaDoorTie
import Derived.Test.YtdnjnbeoioicfaaDoorCards
import Derived.SevenTiedAt
import Derived.ChangeOld
namespace Go.Proofs.YtdnjnbeoioicfaaDoor.streamBytes
open Go.ChangeShapes Go.WideShapes Go.ChangeAt Go.RowKit
set_option linter.unusedVariables false
set_option linter.unusedSimpArgs false

theorem own : ownKnob Tryd.prog.godebug = none := by kernel_rfl
theorem laidOut : laidOutB Tryd.prog = true := by kernel_rfl

theorem exec_str {a : Act} {o : Oper} {x : Operand} {w : World} {A : Option Addr} {n c : Nat} {zs : List Int} (ho : o.op = .convert 29 9 x) (hx : a.eval x = .slice A n c) (h : Rd .u8 w w.heap.size A n zs) : (execOp a.eval o).run Tryd.prog w = .ok (.value (.string (strB zs))) w := by
  have h1 := str_rd5 (c := c) h
  unfold execOp
  simp only [ho, hx]
  change (convert 29 9 (.slice A n c) >>= fun v => pure (Next.value v)).run Tryd.prog w = _
  simp only [Sem.run_bind, h1, Result.andThen_ok, Sem.run_pure]
set_option maxHeartbeats 4000000 in
theorem same_walk (s : List Int) (d n : Int) (hl : s.length = 32) (hn : ¬ (600 < n ∧ n ≤ 4096)) (m : Nat) (zs : List Int) (w : World) (hkst : Kst w)
    (hq : ∀ W, Kst W → Calls Tryd.prog 12 #[.agg (intsA .u8 s), .int .u64 d, .int .i64 n] W (RetBy W zs m)) (hr : ∀ W, Calls Tryd.prog 13 #[.agg (intsA .u8 s), .int .u64 d, .int .i64 n] W (RetBr W zs m)) (n0 : -9223372036854775808 ≤ n) (n1 : n < 9223372036854775808) :
    Calls Tryd.prog 4 #[.agg (intsA .u8 s), .int .u64 d, .int .i64 n] w fun e w' => e = .returned (.bool true) ∧ Below w.heap.size w w' := by
  have HQ := Lib.hid hq
  have HR := Lib.hid hr
  have SSA := Lib.hid (show (Tryd.prog.info? 23).map (·.size) = some (intsA .u8 s).size by rw [intsA_size, hl]; exact size_hash)
  have SS := Lib.hid (show (Tryd.prog.info? 23).map (·.size) = some s.length by rw [hl]; exact size_hash)
  have HKS := Lib.hid hkst
  clear hq hr hl hkst
  by_cases h6 : 600 < n
  all_goals
    first | (have h4 : decide (n ≤ 4096) = false := by simp; omega) | (have h4 : True := trivial)
    go_enter Tryd.func4, Tryd.ntmps4
    go_wp2_with (first
      | (with_reducible refine at_any ?_; refine at_dst 3 rfl ?_; refine wpList_box_ints rfl 23 (.tmp 0) rfl .u8 s rfl ?_; intro w1 hk1 hs1 hb1; have F1 := Lib.hid (Fx.box hk1.out hb1); clear hk1 hs1 hb1)
      | (go_at_call 7; (with_reducible refine (alive6_c _ (HKS.out.below (Fx.bel2 F1.out))).mono ?_); rintro e w2 ⟨rfl, hb2⟩; have F2 := Lib.hid (F1.out.below hb2); clear F1 hb2))
    obtain ⟨g3, hg3⟩ : ∃ g, w.heap.size = g := ⟨_, rfl⟩
    rw [hg3] at F2
    rw [hg3]
    clear hg3
    refine wp_region_held_drew (S := (Fx [.blk g3 23 (intsA .u8 s), .bel w])) (by kernel_rfl) (F2.out.drew) (fun hH => ?_)
    refine wpAnyH_letter #[false, false, false, false, false, false, false, false, false, false, false, false] (by kernel_rfl) (fun _ _ d _ _ h => by cases d <;> exact h) (fun QL HQ1 HQ2 => ?_)
    refine held_row 0 (some 15) rfl (by kernel_rfl) (by kernel_rfl) (by kernel_rfl) (by kernel_rfl) (fun c a v w h => HQ2.out c a _ v w h) (by kernel_rfl) 23 (.tmp 3) rfl g3 (by kernel_rfl) 23 (intsA .u8 s) (fun _ h => h.1) _ Tryd.underlying23 rfl SSA.out hH ?_
    try simp only [Act.put, List.setIfInBounds_toArray, List.set_cons_zero, List.set_cons_succ]
    refine held_v 1 (some 16) rfl (by kernel_rfl) (by kernel_rfl) (by kernel_rfl) (by kernel_rfl) (fun c a v w h => HQ2.out c a _ v w h) (by kernel_rfl) (.int .u64 d) (fun W h => by kernel_rfl) hH ?_
    try simp only [Act.put, List.setIfInBounds_toArray, List.set_cons_zero, List.set_cons_succ]
    refine held_v 2 (some 17) rfl (by kernel_rfl) (by kernel_rfl) (by kernel_rfl) (by kernel_rfl) (fun c a v w h => HQ2.out c a _ v w h) (by kernel_rfl) (.int .i64 n) (fun W h => by kernel_rfl) hH ?_
    try simp only [Act.put, List.setIfInBounds_toArray, List.set_cons_zero, List.set_cons_succ]
    refine held_row 5 (some 20) rfl (by kernel_rfl) (by kernel_rfl) (by kernel_rfl) (by kernel_rfl) (fun c a v w h => HQ2.out c a _ v w h) (by kernel_rfl) 23 (.tmp 3) rfl g3 (by kernel_rfl) 23 (intsA .u8 s) (fun _ h => h.1) _ Tryd.underlying23 rfl SSA.out hH ?_
    try simp only [Act.put, List.setIfInBounds_toArray, List.set_cons_zero, List.set_cons_succ]
    refine held_v 6 (some 21) rfl (by kernel_rfl) (by kernel_rfl) (by kernel_rfl) (by kernel_rfl) (fun c a v w h => HQ2.out c a _ v w h) (by kernel_rfl) (.int .u64 d) (fun W h => by kernel_rfl) hH ?_
    try simp only [Act.put, List.setIfInBounds_toArray, List.set_cons_zero, List.set_cons_succ]
    refine held_v 7 (some 22) rfl (by kernel_rfl) (by kernel_rfl) (by kernel_rfl) (by kernel_rfl) (fun c a v w h => HQ2.out c a _ v w h) (by kernel_rfl) (.int .i64 n) (fun W h => by kernel_rfl) hH ?_
    try simp only [Act.put, List.setIfInBounds_toArray, List.set_cons_zero, List.set_cons_succ]
    refine wpAnyH_ready (rs := [3]) (by kernel_rfl) (by decide) ?_
    refine AllReadyH.cons rfl (fun K hK => ?_) AllReadyH.nil
    refine step_call (some 18) (by kernel_rfl) (by kernel_rfl) _ _ (by kernel_rfl) _ (HQ.out _ (HKS.out.below hH.2.1)) ?_
    rintro e w41 ⟨A1, c1, rfl, hc1, hm1, hr1, hbw41⟩
    have ex42 : Fx [.rd .u8 A1 m zs] w41 := ⟨hr1, trivial⟩
    refine ⟨_, rfl, ?_⟩
    refine hK.out _ _ (hH.below hbw41) (fun hw41 => ?_)
    clear hK K
    try simp only [Act.put, List.setIfInBounds_toArray, List.set_cons_zero, List.set_cons_succ]
    refine wpAnyH_ready (rs := [4, 8]) (by kernel_rfl) (by decide) ?_
    refine AllReadyH.cons rfl (fun K hK => ?_) (AllReadyH.cons rfl (fun K hK => ?_) AllReadyH.nil)
    · refine step_v (some 19) (by kernel_rfl) (by kernel_rfl) (.string (strB zs)) (exec_str (x := .tmp 18) (A := A1) (n := m) (c := c1) (by kernel_rfl) (by kernel_rfl) ex42.1) ?_
      refine hK.out _ _ hw41 (fun _ => ?_)
      clear hK K
      try simp only [Act.put, List.setIfInBounds_toArray, List.set_cons_zero, List.set_cons_succ]
      refine wpAnyH_ready (rs := [8]) (by kernel_rfl) (by decide) ?_
      refine AllReadyH.cons rfl (fun K hK => ?_) AllReadyH.nil
      refine step_call (some 23) (by kernel_rfl) (by kernel_rfl) _ _ (by kernel_rfl) _ (HR.out _) ?_
      rintro e w43 ⟨A2, c2, rfl, hc2, hm2, hr2, hbw43⟩
      have ex44 := ex42.below hbw43
      have ex45 : Fx [.rd .u8 A2 m zs] w43 := ⟨hr2, trivial⟩
      refine ⟨_, rfl, ?_⟩
      refine hK.out _ _ (hw41.below hbw43) (fun hw43 => ?_)
      clear hK K
      try simp only [Act.put, List.setIfInBounds_toArray, List.set_cons_zero, List.set_cons_succ]
      refine wpAnyH_ready (rs := [9]) (by kernel_rfl) (by decide) ?_
      refine AllReadyH.cons rfl (fun K hK => ?_) AllReadyH.nil
      refine step_v (some 24) (by kernel_rfl) (by kernel_rfl) (.string (strB zs)) (exec_str (x := .tmp 23) (A := A2) (n := m) (c := c2) (by kernel_rfl) (by kernel_rfl) ex45.1) ?_
      refine hK.out _ _ hw43 (fun _ => ?_)
      clear hK K
      try simp only [Act.put, List.setIfInBounds_toArray, List.set_cons_zero, List.set_cons_succ]
      refine held_v 10 (some 25) rfl (by kernel_rfl) (by kernel_rfl) (by kernel_rfl) (by kernel_rfl) (fun c a v w h => HQ2.out c a _ v w h) (by kernel_rfl) (.bool true) (fun W h => by go_simp) hw43 ?_
      try simp only [Act.put, List.setIfInBounds_toArray, List.set_cons_zero, List.set_cons_succ]
      refine held_v 11 (some 6) rfl (by kernel_rfl) (by kernel_rfl) (by kernel_rfl) (by kernel_rfl) (fun c a v w h => HQ2.out c a _ v w h) (by kernel_rfl) (.bool true) (fun W h => by kernel_rfl) hw43 ?_
      try simp only [Act.put, List.setIfInBounds_toArray, List.set_cons_zero, List.set_cons_succ]
      refine wpAnyH_done (by kernel_rfl) ?_ _
      refine HQ1.out _ _ ?_
      clear HQ1 HQ2
      go_wp2
      go_ret
      exact ⟨rfl, hw43.2.1⟩
    · refine step_call (some 23) (by kernel_rfl) (by kernel_rfl) _ _ (by kernel_rfl) _ (HR.out _) ?_
      rintro e w46 ⟨A2, c2, rfl, hc2, hm2, hr2, hbw46⟩
      have ex47 := ex42.below hbw46
      have ex48 : Fx [.rd .u8 A2 m zs] w46 := ⟨hr2, trivial⟩
      refine ⟨_, rfl, ?_⟩
      refine hK.out _ _ (hw41.below hbw46) (fun hw46 => ?_)
      clear hK K
      try simp only [Act.put, List.setIfInBounds_toArray, List.set_cons_zero, List.set_cons_succ]
      refine wpAnyH_ready (rs := [4, 9]) (by kernel_rfl) (by decide) ?_
      refine AllReadyH.cons rfl (fun K hK => ?_) (AllReadyH.cons rfl (fun K hK => ?_) AllReadyH.nil)
      · refine step_v (some 19) (by kernel_rfl) (by kernel_rfl) (.string (strB zs)) (exec_str (x := .tmp 18) (A := A1) (n := m) (c := c1) (by kernel_rfl) (by kernel_rfl) ex47.1) ?_
        refine hK.out _ _ hw46 (fun _ => ?_)
        clear hK K
        try simp only [Act.put, List.setIfInBounds_toArray, List.set_cons_zero, List.set_cons_succ]
        refine wpAnyH_ready (rs := [9]) (by kernel_rfl) (by decide) ?_
        refine AllReadyH.cons rfl (fun K hK => ?_) AllReadyH.nil
        refine step_v (some 24) (by kernel_rfl) (by kernel_rfl) (.string (strB zs)) (exec_str (x := .tmp 23) (A := A2) (n := m) (c := c2) (by kernel_rfl) (by kernel_rfl) ex48.1) ?_
        refine hK.out _ _ hw46 (fun _ => ?_)
        clear hK K
        try simp only [Act.put, List.setIfInBounds_toArray, List.set_cons_zero, List.set_cons_succ]
        refine held_v 10 (some 25) rfl (by kernel_rfl) (by kernel_rfl) (by kernel_rfl) (by kernel_rfl) (fun c a v w h => HQ2.out c a _ v w h) (by kernel_rfl) (.bool true) (fun W h => by go_simp) hw46 ?_
        try simp only [Act.put, List.setIfInBounds_toArray, List.set_cons_zero, List.set_cons_succ]
        refine held_v 11 (some 6) rfl (by kernel_rfl) (by kernel_rfl) (by kernel_rfl) (by kernel_rfl) (fun c a v w h => HQ2.out c a _ v w h) (by kernel_rfl) (.bool true) (fun W h => by kernel_rfl) hw46 ?_
        try simp only [Act.put, List.setIfInBounds_toArray, List.set_cons_zero, List.set_cons_succ]
        refine wpAnyH_done (by kernel_rfl) ?_ _
        refine HQ1.out _ _ ?_
        clear HQ1 HQ2
        go_wp2
        go_ret
        exact ⟨rfl, hw46.2.1⟩
      · refine step_v (some 24) (by kernel_rfl) (by kernel_rfl) (.string (strB zs)) (exec_str (x := .tmp 23) (A := A2) (n := m) (c := c2) (by kernel_rfl) (by kernel_rfl) ex48.1) ?_
        refine hK.out _ _ hw46 (fun _ => ?_)
        clear hK K
        try simp only [Act.put, List.setIfInBounds_toArray, List.set_cons_zero, List.set_cons_succ]
        refine wpAnyH_ready (rs := [4]) (by kernel_rfl) (by decide) ?_
        refine AllReadyH.cons rfl (fun K hK => ?_) AllReadyH.nil
        refine step_v (some 19) (by kernel_rfl) (by kernel_rfl) (.string (strB zs)) (exec_str (x := .tmp 18) (A := A1) (n := m) (c := c1) (by kernel_rfl) (by kernel_rfl) ex47.1) ?_
        refine hK.out _ _ hw46 (fun _ => ?_)
        clear hK K
        try simp only [Act.put, List.setIfInBounds_toArray, List.set_cons_zero, List.set_cons_succ]
        refine held_v 10 (some 25) rfl (by kernel_rfl) (by kernel_rfl) (by kernel_rfl) (by kernel_rfl) (fun c a v w h => HQ2.out c a _ v w h) (by kernel_rfl) (.bool true) (fun W h => by go_simp) hw46 ?_
        try simp only [Act.put, List.setIfInBounds_toArray, List.set_cons_zero, List.set_cons_succ]
        refine held_v 11 (some 6) rfl (by kernel_rfl) (by kernel_rfl) (by kernel_rfl) (by kernel_rfl) (fun c a v w h => HQ2.out c a _ v w h) (by kernel_rfl) (.bool true) (fun W h => by kernel_rfl) hw46 ?_
        try simp only [Act.put, List.setIfInBounds_toArray, List.set_cons_zero, List.set_cons_succ]
        refine wpAnyH_done (by kernel_rfl) ?_ _
        refine HQ1.out _ _ ?_
        clear HQ1 HQ2
        go_wp2
        go_ret
        exact ⟨rfl, hw46.2.1⟩
set_option maxHeartbeats 1000000 in
theorem of_walk (s : List Int) (d n : Int) (hl : s.length = 32) (hs : ∀ z ∈ s, 0 ≤ z ∧ z < 256) (d0 : 0 ≤ d) (d1 : d < 18446744073709551616) (n0 : -9223372036854775808 ≤ n) (n1 : n < 9223372036854775808) (w : World) (hkst : Kst w) :
    Calls Tryd.prog 4 #[.agg (intsA .u8 s), .int .u64 d, .int .i64 n] w fun e w' => e = .returned (.bool true) ∧ Below w.heap.size w w' := by
  by_cases h6 : 600 < n ∧ n ≤ 4096
  · have HKS := Lib.hid hkst
    clear hkst
    have g1 := h6.1
    have g2 := h6.2
    go_enter Tryd.func4, Tryd.ntmps4
    go_wp2_with (first
      | (with_reducible refine at_any ?_; refine at_dst 3 rfl ?_; refine wpList_box_ints rfl 23 (.tmp 0) rfl .u8 s rfl ?_; intro w1 hk1 hs1 hb1; have F1 := Lib.hid (Fx.box hk1.out hb1); clear hk1 hs1 hb1)
      | (go_at_call 7; (with_reducible refine (alive6_c _ (HKS.out.below (Fx.bel2 F1.out))).mono ?_); rintro e w2 ⟨rfl, hb2⟩; have F2 := Lib.hid (F1.out.below hb2); clear F1 hb2))
    go_ret
    exact ⟨rfl, Fx.bel2 F2.out⟩
  · by_cases h : n < 0 ∨ 4096 < n
    · exact same_walk s d n hl h6 0 [] w hkst (fun W _ => (qbytes_no s d n hl n0 (by omega) h W).mono fun e W' ⟨h1, h2⟩ => ⟨none, 0, h1, Nat.le_refl _, by simp [maxLen], Rd.none_, h2⟩)
        (fun W => (rbytes_no s d n hl n0 (by omega) h W).mono fun e W' ⟨h1, h2⟩ => ⟨none, 0, h1, Nat.le_refl _, by simp [maxLen], Rd.none_, h2⟩) n0 n1
    · obtain ⟨m, rfl⟩ := Int.eq_ofNat_of_zero_le (show 0 ≤ n by omega)
      exact same_walk s d m hl h6 m (bytL s d m) w hkst (fun W k => qbytes_c s d m hl hs d0 d1 (by omega) W k) (fun W => rbytes_c s d m hl hs d0 d1 (by omega) W) n0 n1
theorem walk (a0 : List Int) (a1 a2 : Int) (w : World) (l0 : a0.length = 32) (w0 : ∀ z ∈ a0, (Lit.int .u8 z).wf = true) (w1 : (Lit.int .u64 a1).wf = true) (w2 : (Lit.int .i64 a2).wf = true) (hkst : Kst w) :
    Calls Tryd.prog 4 #[.agg (intsA .u8 a0), .int .u64 a1, .int .i64 a2] w fun e w' => e = .returned (.bool true) ∧ Below w.heap.size w w' := by
  have h1 := bounds_u64 w1
  have h2 := bounds_i64 w2
  exact of_walk a0 a1 a2 l0 (u8b w0) (by omega) (by omega) (by omega) (by omega) w hkst


set_option maxRecDepth 100000 in
theorem lifted (os : Os) (started : os.Started) (H : Type) (enc : TypeId × Value → H) :
    ReturnsInHanded {} Tryd.checked os 4 .any (fun w args => (Rows.streamBytesSpec.pre enc Tryd.prog Tryd.f4 [] false w args ∧ laidMetH Tryd.prog laidK w) ∧ sizedMet enc Tryd.prog Tryd.f4 (OpenSpec.ofChange Rows.streamBytesSpec) false w args) (Rows.streamBytesSpec.post enc Tryd.prog Tryd.f4 false true false false) := by
  refine returnsInHanded_of_change_and (C := Tryd.checked) (X := fun w _ => laidMetH Tryd.prog laidK w) (fun _ _ _ hh h => h.of_heap hh) own started (by kernel_rfl) Tryd.func4
    (ChangeSpec.witness_shaped (enc := enc) (C := Tryd.checked) (os := os) (X := fun w _ => laidMetH Tryd.prog laidK w) false (World.doorLaid Tryd.prog 400 os) #[.agg #[.int .u8 0, .int .u8 0, .int .u8 0, .int .u8 0, .int .u8 0, .int .u8 0, .int .u8 0, .int .u8 0, .int .u8 0, .int .u8 0, .int .u8 0, .int .u8 0, .int .u8 0, .int .u8 0, .int .u8 0, .int .u8 0, .int .u8 0, .int .u8 0, .int .u8 0, .int .u8 0, .int .u8 0, .int .u8 0, .int .u8 0, .int .u8 0, .int .u8 0, .int .u8 0, .int .u8 0, .int .u8 0, .int .u8 0, .int .u8 0, .int .u8 0, .int .u8 0], .int .u64 0, .int .i64 0] 8 rfl (World.shaped_of_RefB (by kernel_rfl) (by kernel_rfl)) (by kernel_rfl) (by kernel_rfl) (by kernel_rfl) (door_met os _)) ?_
  intro W base args ds gs before hval0 hW _ _ hL _
  have hval : ∀ (j : Nat) t v, Tryd.f4.params[j]? = some t → args[j]? = some v → Value.okWide Tryd.prog W .any base t v := hval0
  have hW' := hW
  obtain ⟨p, q, hA0, hV, rfl, hfz, hnd⟩ := hW
  have hA : DataW.TrodAll enc Tryd.prog W 0 (fun _ => true) true Tryd.f4.params.toList args.toList ds p := hA0
  rw [Tryd.params4] at hA hval
  obtain ⟨v0, vs0, d0, ds0, p0, q0, hargs, rfl, rfl, h0, r0⟩ := trodAll_cons hA
  obtain ⟨v1, vs1, d1, ds1, p1, q1, rfl, rfl, rfl, h1, r1⟩ := trodAll_cons r0
  obtain ⟨v2, vs2, d2, ds2, p2, q2, rfl, rfl, rfl, h2, r2⟩ := trodAll_cons r1
  obtain ⟨rfl, rfl, rfl⟩ := trodAll_nil r2
  obtain rfl : args = #[v0, v1, v2] := by cases args; simp_all
  obtain ⟨rfl, rfl⟩ := trodVars_none hV
  obtain ⟨a0, l0, rfl, rfl, rfl, w0⟩ := open_arr_ints Tryd.underlying23 Tryd.underlying5 (by kernel_rfl) (by kernel_rfl) (hval 0 23 v0 rfl rfl) h0
  obtain ⟨a1, rfl, rfl, rfl, w1⟩ := open_int Tryd.underlying24 (hval 1 24 v1 rfl rfl) h1
  obtain ⟨a2, rfl, rfl, rfl, w2⟩ := open_int Tryd.underlying3 (hval 2 3 v2 rfl rfl) h2
  clear hA0 hval0
  refine (walk a0 a1 a2 W l0 w0 w1 w2 (kst_of_laid hL)).mono fun e W' ⟨he, bel⟩ => ?_
  subst he
  exact ⟨_, rfl, _, _, _, [], _, [], hW', trodAll_mk1 (shut_bool Tryd.underlying4 _), (trodAll_cons_mk (shut_arr_ints Tryd.underlying23 Tryd.underlying5 (by kernel_rfl) (by kernel_rfl) l0 w0) (trodAll_cons_mk (shut_int Tryd.underlying24 w1) (trodAll_cons_mk (shut_int Tryd.underlying3 w2) trodAll_mk0))), rfl, bel.frame _, fun h => by cases h⟩

theorem over : Rows.streamBytesRow.holds Tryd.pinned (OpenSpec.ofChange Rows.streamBytesSpec) :=
  OpenClaim.holds_of_wide 4 Tryd.f4 rfl rfl rfl rfl rfl rfl rfl ⟨rfl, rfl, rfl, rfl, rfl⟩ rfl rfl rfl rfl rfl (by kernel_rfl) Tryd.func4 (by kernel_rfl)
    (of_decide_eq_true (by kernel_rfl)) (by unfold Func.isWrapper; first | (rw [if_pos (by decide +kernel)]; kernel_rfl) | (rw [if_neg (by decide +kernel)]; exact ⟨rfl, rfl⟩))
    (fun os started H enc _ => lifted os started H enc)

end Go.Proofs.YtdnjnbeoioicfaaDoor.streamBytes
namespace Go.Proofs.YtdnjnbeoioicfaaDoor
theorem streamBytes_holds : Rows.StreamBytesCardSaid :=
  Claim7.holds_tied_plain_at .later [] [.data] true _ false
    streamBytes.over (fun _ h => by cases h) (by kernel_rfl) (fun _ h => by cases h) streamBytes_row_tie rfl ⟨rfl, rfl⟩ (by kernel_rfl) rfl
    (fun f fn hf hfn => by
      obtain rfl : f = 4 := Option.some.inj ((show Tryd.prog.funcNamed "drawlot/drawlotlaw06.StreamBytes" = some 4 by kernel_rfl).symm.trans hf) |>.symm
      obtain rfl : fn = Tryd.f4 := (Option.some.inj (Tryd.func4.symm.trans hfn)).symm
      exact ⟨by kernel_rfl, fun j t ht => by
        rw [Tryd.params4] at ht
        have hm : t ∈ [23, 24, 3] := by simpa using Array.mem_of_getElem? ht
        have hall : ([23, 24, 3].all fun u => !Tryd.prog.wantsStandIn u) = true := by kernel_rfl
        exact (show Tryd.prog.wantsStandIn t = false by simpa using List.all_eq_true.1 hall t hm)⟩)
    (by kernel_rfl)
#print axioms streamBytes_holds
end Go.Proofs.YtdnjnbeoioicfaaDoor

/-
  Texts of this claim, joined: TapA, LawJ, OpenA, OpenC, SrcO. What each shows, and its conditions, stand at its own head.
-/
import Derived.Test.YtabfgkokilghcaaDoorGc
import Derived.Test.YtabfgkokilghcaaDoorRows
import Derived.ShutString
import Derived.ChangeOld
import Derived.Deep.Matrix
/-
  What the landed tape's calls return (Right, Left, Take, Tape, Stream, Same), and that memory is left as it was.
  Conditions: the arguments lie in their types' ranges; the table of constants holds what the text lays.
-/
set_option maxRecDepth 100000
set_option linter.unusedSimpArgs false
namespace Go.Proofs.YtabfgkokilghcaaDoor
open Go.ChangeShapes Go.WideShapes Go.ChangeAt Go.RowKit
set_option linter.unusedVariables false
theorem qhas_c (L : Nat) (b : Int) (tl : L ≤ 140737488355328) (A : Option Addr) (c : Nat) (w : World) : Calls Tryd.prog 22 #[.slice A L c, .int .u64 b] w fun e w' => e = .returned (.bool (decide (b ≤ 8 * (L : Int)))) ∧ w = w' := by
  have e1 : IntKind.u64.wrap ((L : Int) * 8) = L * 8 := by rw [IntKind.wrap_u64]; omega
  rw [Int.mul_comm 8]
  by_cases h1 : b ≤ (L : Int) * 8
  all_goals
    first | rw [decide_eq_true h1] | rw [decide_eq_false h1]
    go_enter Tryd.func22, Tryd.ntmps22
    go_wp2
    go_ret
    exact ⟨rfl, rfl⟩
set_option maxHeartbeats 4000000 in
theorem qsright_c (s : Src) (ok : s.Ok) (A : Option Addr) (c : Nat) (w : World) : Calls Tryd.prog 12 #[.agg (srcV s A c)] w fun e w' => e = .returned (.bool (rightS s)) ∧ Below w.heap.size w w' := by
  have HC := Lib.hid (fun (W : World) (g : Nat) (h : Blk W g 27 (srcV s A c)) => And.intro ((h.cell 0).trans (srcV_kind s A c)) (And.intro ((h.cell 1).trans (srcV_tape s A c)) (And.intro ((h.cell 2).trans (srcV_bits s A c)) ((h.cell 36).trans (srcV_at s ok.sl A c)))))
  have k0 := ok.k0
  have k1 := ok.k1
  have tl := ok.tl
  have b0 := ok.b0
  have b1 := ok.b1
  have a0 := ok.a0
  have a1 := ok.a1
  have hR : rightS s = if s.kind = 1 then decide (s.bits ≤ 8 * (s.tape.length : Int)) && decide (s.at_ ≤ s.bits) else decide (s.kind = 2) && decide (s.at_ ≤ 4611686018427387904) := rfl
  obtain ⟨V, hV⟩ : ∃ V, srcV s A c = V := ⟨_, rfl⟩
  obtain ⟨kd, hkd⟩ : ∃ x, s.kind = x := ⟨_, rfl⟩
  obtain ⟨L, hL⟩ : ∃ x, s.tape.length = x := ⟨_, rfl⟩
  obtain ⟨bt, hbt⟩ : ∃ x, s.bits = x := ⟨_, rfl⟩
  obtain ⟨at_, hat⟩ : ∃ x, s.at_ = x := ⟨_, rfl⟩
  rw [hV, hkd, hL, hbt, hat] at HC
  rw [hkd, hL, hbt, hat] at hR
  rw [hkd] at k0 k1
  rw [hL] at tl
  rw [hbt] at b0 b1
  rw [hat] at a0 a1
  rw [hV, hR]
  clear hV hkd hL hbt hat hR ok
  have HH := Lib.hid (fun W => qhas_c L bt tl A c W)
  by_cases hk : kd = 1
  · rw [if_pos hk]
    subst hk
    by_cases h1 : bt ≤ 8 * (L : Int)
    all_goals
      first | rw [decide_eq_true h1] at HH ⊢ | rw [decide_eq_false h1] at HH ⊢
      first | rw [Bool.true_and] | rw [Bool.false_and]
      go_enter Tryd.func12, Tryd.ntmps12
      go_wp2_with (first
        | (with_reducible refine at_any ?_; refine at_dst 1 rfl ?_; refine wpList_box_any rfl 27 (.tmp 0) rfl V rfl ?_; intro w1 hk1 hs1 hb1; have c0 := (HC.out _ _ hk1.out).1; have c1 := (HC.out _ _ hk1.out).2.1; have c2 := (HC.out _ _ hk1.out).2.2.1; have c3 := (HC.out _ _ hk1.out).2.2.2)
        | (go_at_call 22; (with_reducible refine (HH.out _).mono ?_); rintro e _ ⟨rfl, rfl⟩))
      go_ret
      exact ⟨rfl, hb1⟩
  · rw [if_neg hk]
    have t1 : (kd == 1) = false := by rw [beq_eq_false_iff_ne]; exact hk
    by_cases h1 : kd = 2
    all_goals
      first | rw [decide_eq_true h1] | rw [decide_eq_false h1]
      first | rw [Bool.true_and] | rw [Bool.false_and]
      first | subst h1 | (have t2 : (kd == 2) = false := by rw [beq_eq_false_iff_ne]; exact h1)
      go_enter Tryd.func12, Tryd.ntmps12
      go_wp2_with (with_reducible refine at_any ?_; refine at_dst 1 rfl ?_; refine wpList_box_any rfl 27 (.tmp 0) rfl V rfl ?_; intro w1 hk1 hs1 hb1; have c0 := (HC.out _ _ hk1.out).1; have c1 := (HC.out _ _ hk1.out).2.1; have c2 := (HC.out _ _ hk1.out).2.2.1; have c3 := (HC.out _ _ hk1.out).2.2.2)
      go_ret
      exact ⟨rfl, hb1⟩
set_option maxHeartbeats 4000000 in
theorem qsleft_c (s : Src) (ok : s.Ok) (A : Option Addr) (c : Nat) (w : World) : Calls Tryd.prog 14 #[.agg (srcV s A c)] w fun e w' => e = .returned (.int .u64 (leftS s)) ∧ Below w.heap.size w w' := by
  have HC := Lib.hid (fun (W : World) (g : Nat) (h : Blk W g 27 (srcV s A c)) => And.intro ((h.cell 0).trans (srcV_kind s A c)) (And.intro ((h.cell 2).trans (srcV_bits s A c)) ((h.cell 36).trans (srcV_at s ok.sl A c))))
  have HRT := Lib.hid (fun W => qsright_c s ok A c W)
  have SV := Lib.hid (sizedS s ok.sl A c)
  have k0 := ok.k0
  have k1 := ok.k1
  have b0 := ok.b0
  have b1 := ok.b1
  have a0 := ok.a0
  have a1 := ok.a1
  have hl := left_le ok
  have hL : leftS s = if rightS s = true then (if s.kind = 1 then s.bits - s.at_ else 4611686018427387904 - s.at_) else 0 := rfl
  obtain ⟨V, hV⟩ : ∃ V, srcV s A c = V := ⟨_, rfl⟩
  obtain ⟨kd, hkd⟩ : ∃ x, s.kind = x := ⟨_, rfl⟩
  obtain ⟨bt, hbt⟩ : ∃ x, s.bits = x := ⟨_, rfl⟩
  obtain ⟨at_, hat⟩ : ∃ x, s.at_ = x := ⟨_, rfl⟩
  obtain ⟨r, hr⟩ : ∃ x, rightS s = x := ⟨_, rfl⟩
  rw [hV, hkd, hbt, hat] at HC
  rw [hV, hr] at HRT
  rw [hV] at SV
  rw [hkd, hbt, hat, hr] at hL
  rw [hkd] at k0 k1
  rw [hbt] at b0 b1
  rw [hat] at a0 a1
  rw [hV]
  rw [hL] at hl
  rw [hL]
  clear hV hkd hbt hat hr hL ok
  cases r
  · rw [if_neg (by decide)]
    go_enter Tryd.func14, Tryd.ntmps14
    go_wp2_with (first
      | (with_reducible refine at_any ?_; refine at_dst 1 rfl ?_; refine wpList_box_any rfl 27 (.tmp 0) rfl V rfl ?_; intro w1 hk1 hs1 hb1)
      | (with_reducible refine at_any ?_; refine at_dst 3 rfl ?_; refine wpList_load_blk rfl 27 (.tmp 1) rfl w.heap.size rfl 27 V hk1.out _ Tryd.underlying27 rfl SV.out ?_)
      | (go_at_call 12; (with_reducible refine (HRT.out _).mono ?_); rintro e w2 ⟨rfl, hb2⟩))
    go_ret
    exact ⟨rfl, hb1.trans (hb2.mono hb1.size)⟩
  · rw [if_pos rfl] at hl ⊢
    by_cases hk : kd = 1
    all_goals
      first | rw [if_pos hk] at hl ⊢ | rw [if_neg hk] at hl ⊢
      first | subst hk | (have t1 : (kd == 1) = false := by rw [beq_eq_false_iff_ne]; exact hk)
      first | (have e1 : IntKind.u64.wrap (bt - at_) = bt - at_ := by rw [IntKind.wrap_u64]; omega) | (have e2 : IntKind.u64.wrap (4611686018427387904 - at_) = 4611686018427387904 - at_ := by rw [IntKind.wrap_u64]; omega)
      go_enter Tryd.func14, Tryd.ntmps14
      go_wp2_with (first
        | (with_reducible refine at_any ?_; refine at_dst 1 rfl ?_; refine wpList_box_any rfl 27 (.tmp 0) rfl V rfl ?_; intro w1 hk1 hs1 hb1)
        | (with_reducible refine at_any ?_; refine at_dst 3 rfl ?_; refine wpList_load_blk rfl 27 (.tmp 1) rfl w.heap.size rfl 27 V hk1.out _ Tryd.underlying27 rfl SV.out ?_)
        | (go_at_call 12; (with_reducible refine (HRT.out _).mono ?_); rintro e w2 ⟨rfl, hb2⟩; have k2 := hk1.out.below hb2 hk1.out.lt; have c0 := (HC.out _ _ k2).1; have c2 := (HC.out _ _ k2).2.1; have c3 := (HC.out _ _ k2).2.2))
      go_ret
      exact ⟨rfl, hb1.trans (hb2.mono hb1.size)⟩
set_option maxHeartbeats 4000000 in
theorem qstake_c (s : Src) (ok : s.Ok) (k : Int) (k0 : -9223372036854775808 ≤ k) (k1 : k < 9223372036854775808) (A : Option Addr) (c : Nat) (hc : s.tape.length ≤ c) (hcm : c ≤ maxLen) (w : World) (hrd : Rd .u8 w w.heap.size A s.tape.length s.tape) (hkst : Kst w) : Calls Tryd.prog 9 #[.agg (srcV s A c), .int .i64 k] w (RetTake w s k A) := by
  have HRT := Lib.hid (fun W => qsright_c s ok A c W)
  have HLT := Lib.hid (fun W => qsleft_c s ok A c W)
  have hll := left_le ok
  have SV := Lib.hid (sizedS s ok.sl A c)
  have OV := Lib.hid (srcV_ones s A c)
  have ZV := Lib.hid (srcV_same Src.zero s rfl ok.sl none A 0 c)
  have HZ0 := Lib.hid zero_src
  obtain ⟨Z, hZ⟩ : ∃ Z, srcV Src.zero none 0 = Z := ⟨_, rfl⟩
  rw [hZ] at ZV HZ0
  have hRd := Lib.hid hrd
  have HKS := Lib.hid hkst
  by_cases hbad : ¬ (rightS s = true ∧ 0 ≤ k ∧ k ≤ 64)
  · have hE : takeE s k = 1 := by unfold takeE; rw [if_neg hbad]
    have HEND : Hid (∀ w', Below w.heap.size w w' → RetTake w s k A (.returned (.tuple #[.int .u64 0, .agg (srcV s A c), .int .i64 1])) w') := Lib.hid (fun w' hb => ⟨A, c, by unfold takeV takeS; rw [hE]; rfl, (hRd.out.below hb).mono hb.size, hc, hcm, .inl rfl, hb⟩)
    obtain ⟨V, hV⟩ : ∃ V, srcV s A c = V := ⟨_, rfl⟩
    rw [hV] at HRT HLT SV OV ZV HEND
    rw [hV]
    have hcase : (rightS s = false) ∨ (rightS s = true ∧ k < 0) ∨ (rightS s = true ∧ ¬ k < 0 ∧ 64 < k) := by
      cases h : rightS s
      · exact .inl rfl
      · refine .inr ?_
        by_cases h0 : k < 0
        · exact .inl ⟨rfl, h0⟩
        · exact .inr ⟨rfl, h0, Decidable.byContradiction fun h7 => hbad ⟨h, by omega, by omega⟩⟩
    clear hZ hV hE hbad hll hrd hkst
    rcases hcase with hr | ⟨hr, h0⟩ | ⟨hr, h0, h6⟩
    all_goals
      rw [hr] at HRT
      go_enter Tryd.func9, Tryd.ntmps9
      go_wp2_with (first
        | (with_reducible refine at_any ?_; refine at_dst 2 rfl ?_; refine wpList_box_any rfl 27 (.tmp 0) rfl V rfl ?_; intro w1 hk1 hs1 hb1)
        | (with_reducible refine at_any ?_; refine at_dst 5 rfl ?_; refine wpList_alloc_any rfl 27 rfl Z HZ0.out ?_; intro w2 hk2 hs2 hb2; have k2 := Lib.hid (hk1.out.below hb2 hk1.out.lt); have bl2 := Lib.hid (hb1.trans (hb2.mono hb1.size)))
        | (with_reducible refine at_any ?_; refine at_dst 9 rfl ?_; refine wpList_load_blk rfl 27 (.tmp 2) rfl w.heap.size rfl 27 V k2.out _ Tryd.underlying27 rfl SV.out ?_)
        | (go_at_call 12; (with_reducible refine (HRT.out _).mono ?_); rintro e wz ⟨rfl, hbz⟩))
      have HB2 : Src2 w w.heap.size w1.heap.size V Z wz := ⟨hk2.out.below hbz hk2.out.lt, k2.out.below hbz k2.out.lt, bl2.out.trans (hbz.mono bl2.out.size), trivial⟩
      have h25 : w.heap.size < w1.heap.size := by rw [hs1.out]; omega
      obtain ⟨g2, hg2⟩ : ∃ g, w.heap.size = g := ⟨_, rfl⟩
      obtain ⟨g5, hg5⟩ : ∃ g, w1.heap.size = g := ⟨_, rfl⟩
      have h02 : w.heap.size ≤ g2 := by omega
      rw [hg2, hg5] at HB2 h25
      rw [hg2, hg5]
      clear hg2 hg5 hk1 hs1 hb1 hk2 hs2 hb2 k2 bl2 hbz
      have hS := HB2.keep.drew
      have HZ5 := HB2.old.drew
      refine wp_region_held_drew (S := (Fx [.blk g2 27 V, .bel w])) (by kernel_rfl) hS (fun hH => ?_)
      refine wpAnyH_letter #[false, false, false, false] (by kernel_rfl) (fun _ _ d _ _ h => by cases d <;> exact h) (fun QL HQ1 HQ2 => ?_)
      refine held_row 0 (some 20) rfl (by kernel_rfl) (by kernel_rfl) (by kernel_rfl) (by kernel_rfl) (fun c a v w h => HQ2.out c a _ v w h) (by kernel_rfl) 27 (.tmp 2) rfl g2 (by kernel_rfl) 27 V (fun _ h => h.1) _ Tryd.underlying27 rfl SV.out hH ?_
      try simp only [Act.put, List.setIfInBounds_toArray, List.set_cons_zero, List.set_cons_succ]
      refine held_v 1 (some 4) rfl (by kernel_rfl) (by kernel_rfl) (by kernel_rfl) (by kernel_rfl) (fun c a v w h => HQ2.out c a _ v w h) (by kernel_rfl) (.int .u64 0) (fun W h => by kernel_rfl) hH ?_
      try simp only [Act.put, List.setIfInBounds_toArray, List.set_cons_zero, List.set_cons_succ]
      refine wpAnyH_ready (rs := [2]) (by kernel_rfl) (by decide) ?_
      refine AllReadyH.cons rfl (fun K hK => ?_) AllReadyH.nil
      refine step_store none (by kernel_rfl) (by kernel_rfl) 27 (.tmp 5) (.tmp 20) rfl g5 (by kernel_rfl) 27 Z V HZ5.1 (by kernel_rfl) ZV.out SV.out OV.out ?_
      intro w41 hkw41 hsw41 hbw41 how41
      have ex42 : Fx [.blk g5 27 V] w41 := ⟨hkw41.out, trivial⟩
      refine hK.out _ _ (hH.store HZ5.1 ⟨Nat.ne_of_lt h25, Nat.le_trans h02 (Nat.le_of_lt h25), trivial⟩ hsw41.out hbw41 how41) (fun hw41 => ?_)
      clear hK K
      try simp only [Act.put, List.setIfInBounds_toArray, List.set_cons_zero, List.set_cons_succ]
      refine held_v 3 (some 6) rfl (by kernel_rfl) (by kernel_rfl) (by kernel_rfl) (by kernel_rfl) (fun c a v w h => HQ2.out c a _ v w h) (by kernel_rfl) (.int .i64 1) (fun W h => by kernel_rfl) hw41 ?_
      try simp only [Act.put, List.setIfInBounds_toArray, List.set_cons_zero, List.set_cons_succ]
      refine wpAnyH_done (by kernel_rfl) ?_ _
      refine HQ1.out _ _ ?_
      clear HQ1 HQ2
      go_wp2_with (refine bodyPost_mid 4 5 6 27 rfl g5 rfl (.int .u64 0) (.int .i64 1) rfl rfl 27 V ex42.1 _ Tryd.underlying27 rfl SV.out rfl ?_)
      exact HEND.out _ hw41.2.1
  · have hgood : rightS s = true ∧ 0 ≤ k ∧ k ≤ 64 := Decidable.of_not_not hbad
    obtain ⟨hr, kk0, kk1⟩ := hgood
    have ng0 : ¬ k < 0 := by omega
    have ng1 : ¬ 64 < k := by omega
    rw [hr] at HRT
    obtain ⟨K, rfl⟩ := Int.eq_ofNat_of_zero_le kk0
    have e3 : IntKind.u64.wrap (K : Int) = K := by rw [IntKind.wrap_u64]; omega
    clear k0 k1
    obtain ⟨lf, hlf⟩ : ∃ x, leftS s = x := ⟨_, rfl⟩
    rw [hlf] at HLT hll
    by_cases hmore : lf < (K : Int)
    · have hE : takeE s (K : Int) = 8 := by unfold takeE; rw [if_pos ⟨hr, kk0, kk1⟩, hlf, if_neg (by omega)]
      have HEND : Hid (∀ w', Below w.heap.size w w' → RetTake w s (K : Int) A (.returned (.tuple #[.int .u64 0, .agg (srcV s A c), .int .i64 8])) w') := Lib.hid (fun w' hb => ⟨A, c, by unfold takeV takeS; rw [hE]; rfl, (hRd.out.below hb).mono hb.size, hc, hcm, .inl rfl, hb⟩)
      obtain ⟨V, hV⟩ : ∃ V, srcV s A c = V := ⟨_, rfl⟩
      rw [hV] at HRT HLT SV OV ZV HEND
      rw [hV]
      clear hZ hV hE hbad hrd hlf hkst
      go_enter Tryd.func9, Tryd.ntmps9
      go_wp2_with (first
        | (with_reducible refine at_any ?_; refine at_dst 2 rfl ?_; refine wpList_box_any rfl 27 (.tmp 0) rfl V rfl ?_; intro w1 hk1 hs1 hb1)
        | (with_reducible refine at_any ?_; refine at_dst 5 rfl ?_; refine wpList_alloc_any rfl 27 rfl Z HZ0.out ?_; intro w2 hk2 hs2 hb2; have k2 := Lib.hid (hk1.out.below hb2 hk1.out.lt); have bl2 := Lib.hid (hb1.trans (hb2.mono hb1.size)))
        | (with_reducible refine at_any ?_; refine at_dst 9 rfl ?_; refine wpList_load_blk rfl 27 (.tmp 2) rfl w.heap.size rfl 27 V k2.out _ Tryd.underlying27 rfl SV.out ?_)
        | (go_at_call 12; (with_reducible refine (HRT.out _).mono ?_); rintro e wy ⟨rfl, hby⟩; have k2y := Lib.hid (k2.out.below hby k2.out.lt); have bly := Lib.hid (bl2.out.trans (hby.mono bl2.out.size)))
        | (with_reducible refine at_any ?_; refine at_dst 23 rfl ?_; refine wpList_load_blk rfl 27 (.tmp 2) rfl w.heap.size rfl 27 V k2y.out _ Tryd.underlying27 rfl SV.out ?_)
        | (go_at_call 14; (with_reducible refine (HLT.out _).mono ?_); rintro e wz ⟨rfl, hbz⟩))
      have HB2 : Src2 w w.heap.size w1.heap.size V Z wz := ⟨(hk2.out.below hby hk2.out.lt).below hbz (hk2.out.below hby hk2.out.lt).lt, k2y.out.below hbz k2y.out.lt, bly.out.trans (hbz.mono bly.out.size), trivial⟩
      have h25 : w.heap.size < w1.heap.size := by rw [hs1.out]; omega
      obtain ⟨g2, hg2⟩ : ∃ g, w.heap.size = g := ⟨_, rfl⟩
      obtain ⟨g5, hg5⟩ : ∃ g, w1.heap.size = g := ⟨_, rfl⟩
      have h02 : w.heap.size ≤ g2 := by omega
      rw [hg2, hg5] at HB2 h25
      rw [hg2, hg5]
      clear hg2 hg5 hk1 hs1 hb1 hk2 hs2 hb2 k2 bl2 hbz hby k2y bly
      have hS := HB2.keep.drew
      have HZ5 := HB2.old.drew
      refine wp_region_held_drew (S := (Fx [.blk g2 27 V, .bel w])) (by kernel_rfl) hS (fun hH => ?_)
      refine wpAnyH_letter #[false, false, false, false] (by kernel_rfl) (fun _ _ d _ _ h => by cases d <;> exact h) (fun QL HQ1 HQ2 => ?_)
      refine held_row 0 (some 26) rfl (by kernel_rfl) (by kernel_rfl) (by kernel_rfl) (by kernel_rfl) (fun c a v w h => HQ2.out c a _ v w h) (by kernel_rfl) 27 (.tmp 2) rfl g2 (by kernel_rfl) 27 V (fun _ h => h.1) _ Tryd.underlying27 rfl SV.out hH ?_
      try simp only [Act.put, List.setIfInBounds_toArray, List.set_cons_zero, List.set_cons_succ]
      refine held_v 1 (some 4) rfl (by kernel_rfl) (by kernel_rfl) (by kernel_rfl) (by kernel_rfl) (fun c a v w h => HQ2.out c a _ v w h) (by kernel_rfl) (.int .u64 0) (fun W h => by kernel_rfl) hH ?_
      try simp only [Act.put, List.setIfInBounds_toArray, List.set_cons_zero, List.set_cons_succ]
      refine wpAnyH_ready (rs := [2]) (by kernel_rfl) (by decide) ?_
      refine AllReadyH.cons rfl (fun K hK => ?_) AllReadyH.nil
      refine step_store none (by kernel_rfl) (by kernel_rfl) 27 (.tmp 5) (.tmp 26) rfl g5 (by kernel_rfl) 27 Z V HZ5.1 (by kernel_rfl) ZV.out SV.out OV.out ?_
      intro w41 hkw41 hsw41 hbw41 how41
      have ex42 : Fx [.blk g5 27 V] w41 := ⟨hkw41.out, trivial⟩
      refine hK.out _ _ (hH.store HZ5.1 ⟨Nat.ne_of_lt h25, Nat.le_trans h02 (Nat.le_of_lt h25), trivial⟩ hsw41.out hbw41 how41) (fun hw41 => ?_)
      clear hK K
      try simp only [Act.put, List.setIfInBounds_toArray, List.set_cons_zero, List.set_cons_succ]
      refine held_v 3 (some 6) rfl (by kernel_rfl) (by kernel_rfl) (by kernel_rfl) (by kernel_rfl) (fun c a v w h => HQ2.out c a _ v w h) (by kernel_rfl) (.int .i64 8) (fun W h => by kernel_rfl) hw41 ?_
      try simp only [Act.put, List.setIfInBounds_toArray, List.set_cons_zero, List.set_cons_succ]
      refine wpAnyH_done (by kernel_rfl) ?_ _
      refine HQ1.out _ _ ?_
      clear HQ1 HQ2
      go_wp2_with (refine bodyPost_mid 4 5 6 27 rfl g5 rfl (.int .u64 0) (.int .i64 8) rfl rfl 27 V ex42.1 _ Tryd.underlying27 rfl SV.out rfl ?_)
      exact HEND.out _ hw41.2.1
    · have hle : (K : Int) ≤ lf := by omega
      have hE : takeE s (K : Int) = 0 := by unfold takeE; rw [if_pos ⟨hr, kk0, kk1⟩, hlf, if_pos hle]
      have hat : s.at_ + lf < 18446744073709551616 := by
        rcases rightS_end hr with h | h
        · rw [hlf] at h; exact h.1
        · exact absurd ok h
      have a0 := ok.a0
      have hnum : takeV s (K : Int) = numS s s.at_ K := by unfold takeV; rw [if_pos hE, Int.toNat_natCast]
      have hsrc : takeS s (K : Int) = s.to (s.at_ + K) := by unfold takeS; rw [if_pos hE]
      have hkd : s.kind = 2 ∨ s.kind = 1 ∧ s.at_ + (K : Int) ≤ 8 * (s.tape.length : Int) := by
        unfold leftS at hlf
        rw [if_pos hr] at hlf
        unfold rightS at hr
        split at hr
        · rename_i h1
          rw [if_pos h1] at hlf
          simp at hr
          exact .inr ⟨h1, by omega⟩
        · simp at hr
          exact .inl hr.1
      have HNUM := Lib.hid (fun (g : Nat) (W : World) hg (hbl : Below w.heap.size w W) (hg0 : w.heap.size ≤ g) => qnumr_c w g s A c (List.replicate 32 0) false ok K (by omega) hkd (by omega) (BkA.zero s) W hg hrd hkst hbl hg0)
      have BR := Lib.hid (fun (a : Act) (o : Oper) (x : Operand) (W : World) h1 h2 => build_rd (a := a) (o := o) (x := x) W s ok.sl A c h1 h2)
      have SRV := Lib.hid (sizedR s ok.sl A c (List.replicate 32 0) (by simp) false)
      have ORV := Lib.hid (rdV_ones s A c (List.replicate 32 0) false)
      have ZRV := Lib.hid (show (rdV Src.zero none 0 (List.replicate 32 0) false).size = (rdV s A c (List.replicate 32 0) false).size by rw [rdV_size _ rfl _ _ _ (by simp), rdV_size _ ok.sl _ _ _ (by simp)])
      have HZR := Lib.hid zero_rdg
      have SV2 := Lib.hid (sizedS (s.to (s.at_ + K)) ok.sl A c)
      have OV2 := Lib.hid (srcV_ones (s.to (s.at_ + K)) A c)
      have ZV2 := Lib.hid (srcV_same Src.zero (s.to (s.at_ + K)) rfl ok.sl none A 0 c)
      have HSR := Lib.hid (fun (W : World) (g : Nat) (b : List Int) (h : Bool) (hk : Blk W g 43 (rdV (s.to (s.at_ + K)) A c b h)) => rdV_src hk)
      have HEND : Hid (∀ w', Below w.heap.size w w' → RetTake w s (K : Int) A (.returned (.tuple #[.int .u64 (numS s s.at_ K), .agg (srcV (s.to (s.at_ + K)) A c), .int .i64 0])) w') := Lib.hid (fun w' hb => ⟨A, c, by rw [hnum, hsrc, hE], (hRd.out.below hb).mono hb.size, hc, hcm, .inl rfl, hb⟩)
      rw [hZ] at ZV2
      obtain ⟨V, hV⟩ : ∃ V, srcV s A c = V := ⟨_, rfl⟩
      rw [hV] at HRT HLT SV OV ZV BR
      rw [hV]
      obtain ⟨X0, hX0⟩ : ∃ X, rdV s A c (List.replicate 32 0) false = X := ⟨_, rfl⟩
      rw [hX0] at BR SRV ORV ZRV HNUM
      obtain ⟨Y0, hY0⟩ : ∃ X, rdV Src.zero none 0 (List.replicate 32 0) false = X := ⟨_, rfl⟩
      rw [hY0] at ZRV HZR
      obtain ⟨V2, hV2⟩ : ∃ V, srcV (s.to (s.at_ + K)) A c = V := ⟨_, rfl⟩
      rw [hV2] at SV2 OV2 ZV2 HEND
      have HV2 := Lib.hid hV2
      obtain ⟨N, hN⟩ : ∃ x, numS s s.at_ K = x := ⟨_, rfl⟩
      rw [hN] at HEND HNUM
      clear hZ hV hE hbad hrd hlf hnum hsrc hkd hr hkst hX0 hY0 hV2 hN
      go_enter Tryd.func9, Tryd.ntmps9
      go_wp2_with (first
        | (with_reducible refine at_any ?_; refine at_dst 2 rfl ?_; refine wpList_box_any rfl 27 (.tmp 0) rfl V rfl ?_; intro w1 hk1 hs1 hb1)
        | (with_reducible refine at_any ?_; refine at_dst 5 rfl ?_; refine wpList_alloc_any rfl 27 rfl Z HZ0.out ?_; intro w2 hk2 hs2 hb2; have k2 := Lib.hid (hk1.out.below hb2 hk1.out.lt); have bl2 := Lib.hid (hb1.trans (hb2.mono hb1.size)))
        | (with_reducible refine at_any ?_; refine at_dst 9 rfl ?_; refine wpList_load_blk rfl 27 (.tmp 2) rfl w.heap.size rfl 27 V k2.out _ Tryd.underlying27 rfl SV.out ?_)
        | (go_at_call 12; (with_reducible refine (HRT.out _).mono ?_); rintro e wy ⟨rfl, hby⟩; have k2y := Lib.hid (k2.out.below hby k2.out.lt); have k5y := Lib.hid (hk2.out.below hby hk2.out.lt); have bly := Lib.hid (bl2.out.trans (hby.mono bl2.out.size)))
        | (with_reducible refine at_any ?_; refine at_dst 23 rfl ?_; refine wpList_load_blk rfl 27 (.tmp 2) rfl w.heap.size rfl 27 V k2y.out _ Tryd.underlying27 rfl SV.out ?_)
        | (go_at_call 14; (with_reducible refine (HLT.out _).mono ?_); rintro e wz ⟨rfl, hbz⟩; have k2z := Lib.hid (k2y.out.below hbz k2y.out.lt); have k5z := Lib.hid (k5y.out.below hbz k5y.out.lt); have blz := Lib.hid (bly.out.trans (hbz.mono bly.out.size)))
        | (with_reducible refine at_any ?_; refine at_dst 27 rfl ?_; refine wpList_load_blk rfl 27 (.tmp 2) rfl w.heap.size rfl 27 V k2z.out _ Tryd.underlying27 rfl SV.out ?_)
        | (with_reducible refine at_any ?_; refine at_dst 28 rfl ?_; refine wpList_val rfl (.agg X0) (BR.out _ _ _ _ rfl rfl) ?_)
        | (with_reducible refine at_any ?_; refine at_dst 7 rfl ?_; refine wpList_alloc_any rfl 43 rfl Y0 HZR.out ?_; intro w7 hk7 hs7 hb7; have k57 := Lib.hid (k5z.out.below hb7 k5z.out.lt); have bl7 := Lib.hid (blz.out.trans (hb7.mono blz.out.size)))
        | (with_reducible refine at_any ?_; refine at_store 7 rfl ?_; refine wpList_store_any rfl 43 (.tmp 7) (.tmp 28) rfl wz.heap.size rfl 43 Y0 X0 hk7.out rfl ZRV.out SRV.out ORV.out ?_; intro w8 hk8 hs8 hb8 ho8; have bl8 := Lib.hid (bl7.out.trans (hb8 _ blz.out.size)))
        | (go_at_call 20; (with_reducible refine (HNUM.out wz.heap.size w8 hk8.out bl8.out blz.out.size).mono ?_); rintro e w9 ⟨b9, h9, rfl, hk9, hb9, ho9⟩; have HK9 := Lib.hid hk9; have HO9 := Lib.hid ho9; clear hk9 hb9 ho9))
      have h57 : w1.heap.size < wz.heap.size := by
        have h1 := hs2.out
        have h2 := hby.size
        have h3 := hbz.size
        omega
      have h05 : w.heap.size ≤ w1.heap.size := hb1.size
      have HSRC := Lib.hid (fun (W : World) (hk : Blk W wz.heap.size 43 (rdV (s.to (s.at_ + K)) A c b9 h9)) => HSR.out W _ b9 h9 hk)
      rw [HV2.out] at HSRC
      have K9 := HK9.out
      have B9 : Below w.heap.size w w9 := bl8.out.trans (HO9.out.below blz.out.size bl8.out.size)
      have K5 : Blk w9 w1.heap.size 27 Z := Blk.only (Blk.other k57.out ho8 (Nat.ne_of_lt h57)) HO9.out (Nat.ne_of_lt h57)
      obtain ⟨X9, hX9⟩ : ∃ X, rdV (s.to (s.at_ + K)) A c b9 h9 = X := ⟨_, rfl⟩
      rw [hX9] at HSRC K9
      obtain ⟨g7, hg7⟩ : ∃ g, wz.heap.size = g := ⟨_, rfl⟩
      obtain ⟨g5, hg5⟩ : ∃ g, w1.heap.size = g := ⟨_, rfl⟩
      rw [hg7] at K9 HSRC
      rw [hg5] at K5 h05
      rw [hg7, hg5] at h57
      rw [hg7, hg5]
      have hS : Fx [.blk g7 43 X9, .bel w] w9.drew := Fx.drew ⟨K9, B9, trivial⟩
      have HZ5 : Fx [.blk g5 27 Z] w9.drew := Fx.drew ⟨K5, trivial⟩
      clear hg7 hg5 hX9 K9 K5 B9 HK9 HO9 hk1 hs1 hb1 hk2 hs2 hb2 k2 bl2 hby k2y k5y bly hbz k2z k5z blz hk7 hs7 hb7 k57 bl7 hk8 hs8 hb8 ho8 bl8
      refine wp_region_held_drew (S := (Fx [.blk g7 43 X9, .bel w])) (by kernel_rfl) hS (fun hH => ?_)
      refine wpAnyH_letter #[false, false, false, false, false, false] (by kernel_rfl) (fun _ _ d _ _ h => by cases d <;> exact h) (fun QL HQ1 HQ2 => ?_)
      refine held_v 0 (some 31) rfl (by kernel_rfl) (by kernel_rfl) (by kernel_rfl) (by kernel_rfl) (fun c a v w h => HQ2.out c a _ v w h) (by kernel_rfl) (.int .u64 N) (fun W h => by kernel_rfl) hH ?_
      try simp only [Act.put, List.setIfInBounds_toArray, List.set_cons_zero, List.set_cons_succ]
      refine held_v 1 (some 32) rfl (by kernel_rfl) (by kernel_rfl) (by kernel_rfl) (by kernel_rfl) (fun c a v w h => HQ2.out c a _ v w h) (by kernel_rfl) (.pointer (some ⟨g7, 0, none⟩)) (fun W h => by kernel_rfl) hH ?_
      try simp only [Act.put, List.setIfInBounds_toArray, List.set_cons_zero, List.set_cons_succ]
      refine held_load_arr 2 (some 33) rfl (by kernel_rfl) (by kernel_rfl) (by kernel_rfl) (by kernel_rfl) (fun c a v w h => HQ2.out c a _ v w h) (by kernel_rfl) 27 (.tmp 32) rfl g7 0 (by kernel_rfl) V2 (fun W h => HSRC.out W h.1) _ Tryd.underlying27 rfl SV2.out hH ?_
      try simp only [Act.put, List.setIfInBounds_toArray, List.set_cons_zero, List.set_cons_succ]
      refine held_v 3 (some 4) rfl (by kernel_rfl) (by kernel_rfl) (by kernel_rfl) (by kernel_rfl) (fun c a v w h => HQ2.out c a _ v w h) (by kernel_rfl) (.int .u64 N) (fun W h => by kernel_rfl) hH ?_
      try simp only [Act.put, List.setIfInBounds_toArray, List.set_cons_zero, List.set_cons_succ]
      refine wpAnyH_ready (rs := [4]) (by kernel_rfl) (by decide) ?_
      refine AllReadyH.cons rfl (fun K hK => ?_) AllReadyH.nil
      refine step_store none (by kernel_rfl) (by kernel_rfl) 27 (.tmp 5) (.tmp 33) rfl g5 (by kernel_rfl) 27 Z V2 HZ5.1 (by kernel_rfl) ZV2.out SV2.out OV2.out ?_
      intro w41 hkw41 hsw41 hbw41 how41
      have ex42 : Fx [.blk g5 27 V2] w41 := ⟨hkw41.out, trivial⟩
      refine hK.out _ _ (hH.store HZ5.1 ⟨Nat.ne_of_gt h57, h05, trivial⟩ hsw41.out hbw41 how41) (fun hw41 => ?_)
      clear hK K
      try simp only [Act.put, List.setIfInBounds_toArray, List.set_cons_zero, List.set_cons_succ]
      refine held_v 5 (some 6) rfl (by kernel_rfl) (by kernel_rfl) (by kernel_rfl) (by kernel_rfl) (fun c a v w h => HQ2.out c a _ v w h) (by kernel_rfl) (.int .i64 0) (fun W h => by kernel_rfl) hw41 ?_
      try simp only [Act.put, List.setIfInBounds_toArray, List.set_cons_zero, List.set_cons_succ]
      refine wpAnyH_done (by kernel_rfl) ?_ _
      refine HQ1.out _ _ ?_
      clear HQ1 HQ2
      go_wp2_with (refine bodyPost_mid 4 5 6 27 rfl g5 rfl (.int .u64 N) (.int .i64 0) rfl rfl 27 V2 ex42.1 _ Tryd.underlying27 rfl SV2.out rfl ?_)
      exact HEND.out _ hw41.2.1
def RetCl (w : World) (zs : List Int) (e : Ending) (w' : World) : Prop := ∃ A c, e = .returned (.slice A zs.length c) ∧ zs.length ≤ c ∧ c ≤ maxLen ∧ Rd .u8 w' w'.heap.size A zs.length zs ∧ (∀ b off, A = some ⟨b, off, none⟩ → w.heap.size ≤ b) ∧ Below w.heap.size w w'
theorem run_eql_slice_nil {P : Program} (w : World) (t e : TypeId) (a : Option Addr) (l c : Nat) (h : P.underlying t = some (.slice e)) : (binOp .eql t (.slice a l c) (.slice none 0 0)).run P w = .ok (.bool a.isNone) w := by
  simp [binOp, Op.maxDepth, run_equal_slice_nil w t e a l c h]
set_option maxHeartbeats 1000000 in
theorem bclone_c (A : Option Addr) (n c : Nat) (zs : List Int) (w : World) (hrd : Rd .u8 w w.heap.size A n zs) (hzl : zs.length ≤ 140737488355328) : Calls Tryd.prog 24 #[.slice A n c] w (RetCl w zs) := by
  obtain ⟨i0, hi, hz0, hz1, hzb⟩ := info_parts info_u8'
  have hl := hrd.len
  have hn : n ≤ 140737488355328 := by omega
  have HRD := Lib.hid hrd
  have HLZ := Lib.hid hl
  by_cases hA : A = none
  · have h0 : n = 0 := by
      rcases Nat.eq_zero_or_pos n with h | h
      · exact h
      · obtain ⟨b, off, e, _⟩ := hrd.2 h
        rw [hA] at e
        cases e
    subst hA h0
    clear hrd hl hzl
    have t1 : ∀ W, (binOp .eql 22 (.slice none 0 c) (.slice none 0 0)).run Tryd.prog W = .ok (.bool true) W := fun W => run_eql_slice_nil W _ _ none 0 c Tryd.underlying22
    go_enter Tryd.func24, Tryd.ntmps24
    go_wp2
    go_ret
    exact ⟨none, 0, by rw [HLZ.out]; rfl, by rw [HLZ.out]; exact Nat.le_refl _, Nat.zero_le _, by rw [HLZ.out]; exact HRD.out, (fun _ _ h => by cases h), Below.refl _ _⟩
  · obtain ⟨a, rfl⟩ := Option.ne_none_iff_exists'.1 hA
    clear hrd hl hzl hA
    have t1 : ∀ W, (binOp .eql 22 (.slice (some a) n c) (.slice none 0 0)).run Tryd.prog W = .ok (.bool false) W := fun W => run_eql_slice_nil W _ _ (some a) n c Tryd.underlying22
    go_enter Tryd.func24, Tryd.ntmps24
    go_wp2_with (at_builtin; refine wpList_append_ints _ rfl (.tmp 5) (.tmp 6) 22 rfl w.heap.size 5 i0 _ 1 .u8 Tryd.underlying22 hi hz0 hz1 hzb rfl _ [] rfl (own_empty w 5 .u8 (Nat.le_refl _)) w.heap.size (some a) n c zs rfl (HRD.out.alloc (Nat.le_refl _) _) (by simp [maxLen]; omega) (by simp; omega) (by simp) ?_; intro v2 w2 hown2 hg2 hat2; rw [List.nil_append] at hown2; have hb2 : Below w.heap.size w w2 := (own_empty w 5 .u8 (Nat.le_refl _)).below_ ((Below.refl _ _).alloc (Nat.le_refl _) _) (by simp) hg2; obtain ⟨A2, c2, rfl, hc2, hm2⟩ := hown2.form; have H2 := Lib.hid hown2; clear hown2)
    go_ret
    refine ⟨A2, c2, rfl, hc2, hm2, H2.out.rd rfl, fun b off hA => ?_, hb2⟩
    rcases H2.out.2 with ⟨h1, h2⟩ | ⟨g', cap, cur, h1, h2, h3⟩
    · injection h1 with e1 e2 e3
      rw [hA] at e1
      cases e1
    · injection h1 with e1 e2 e3
      rw [hA] at e1
      injection e1 with e1
      injection e1 with e1 e4
      omega
set_option maxHeartbeats 4000000 in
theorem qstape_c (zs : List Int) (hzl : zs.length ≤ 1000000) (b : Int) (b0 : 0 ≤ b) (b1 : b < 18446744073709551616) (A : Option Addr) (n c : Nat) (w : World) (hrd : Rd .u8 w w.heap.size A n zs) (hnc : n ≤ c) : Calls Tryd.prog 17 #[.slice A n c, .int .u64 b] w (RetTape w zs b) := by
  have hl := hrd.len
  have HZ0 := Lib.hid zero_src
  have SZ := Lib.hid (sizedS Src.zero rfl none 0)
  have OZ := Lib.hid (srcV_ones Src.zero none 0)
  have HB0 := Lib.hid (fun (a : Act) (o : Oper) W h => build_src0 (a := a) (o := o) W h)
  have HH := Lib.hid (fun W => qhas_c n b (by omega) A c W)
  have HCL := Lib.hid (fun W h => bclone_c A n c zs W h (by omega))
  have hR : RetTape w zs b = if b ≤ 8 * (zs.length : Int) then (fun e w' => ∃ A' c', e = .returned (.tuple #[.agg (srcV (Src.tapeOf zs b) A' c'), .int .i64 0]) ∧ Rd .u8 w' w'.heap.size A' zs.length zs ∧ zs.length ≤ c' ∧ c' ≤ maxLen ∧ Below w.heap.size w w') else (fun e w' => e = .returned (.tuple #[.agg (srcV Src.zero none 0), .int .i64 1]) ∧ Below w.heap.size w w') := by
    funext e w'
    unfold RetTape
    split <;> rfl
  rw [hR]
  obtain ⟨Z, hZ⟩ : ∃ Z, srcV Src.zero none 0 = Z := ⟨_, rfl⟩
  rw [hZ] at HZ0 SZ OZ HB0
  rw [hZ]
  by_cases hbig : b ≤ 8 * (zs.length : Int)
  · rw [if_pos hbig]
    have hT := Lib.hid (fun (A' : Option Addr) (c' : Nat) => sizedS (Src.tapeOf zs b) (by rfl) A' c')
    have OT := Lib.hid (fun (A' : Option Addr) (c' : Nat) => srcV_ones (Src.tapeOf zs b) A' c')
    have ZT := Lib.hid (fun (A' : Option Addr) (c' : Nat) => srcV_same Src.zero (Src.tapeOf zs b) rfl (by rfl) none A' 0 c')
    have BT := Lib.hid (fun (a : Act) (o : Oper) (x y z : Operand) (W : World) (A' : Option Addr) (c' : Nat) h1 h2 (h3 : a.eval y = .slice A' zs.length c') h4 => build_src1 (a := a) (o := o) (x := x) (y := y) (z := z) W A' c' zs b h1 h2 h3 h4)
    rw [hZ] at ZT
    rw [decide_eq_true (by omega)] at HH
    have HRD := Lib.hid hrd
    clear hZ hR hrd hl hzl hbig
    obtain ⟨F, hF⟩ : ∃ F : Ending → World → Prop, (fun e w' => ∃ A' c', e = .returned (.tuple #[.agg (srcV (Src.tapeOf zs b) A' c'), .int .i64 0]) ∧ Rd .u8 w' w'.heap.size A' zs.length zs ∧ zs.length ≤ c' ∧ c' ≤ maxLen ∧ Below w.heap.size w w') = F := ⟨_, rfl⟩
    have HF : Hid (∀ A' c' w', Rd .u8 w' w'.heap.size A' zs.length zs → zs.length ≤ c' → c' ≤ maxLen → Below w.heap.size w w' → F (.returned (.tuple #[.agg (srcV (Src.tapeOf zs b) A' c'), .int .i64 0])) w') := Lib.hid (fun A' c' w' h1 h2 h3 h4 => by rw [← hF]; exact ⟨A', c', rfl, h1, h2, h3, h4⟩)
    rw [hF]
    clear hF
    go_enter Tryd.func17, Tryd.ntmps17
    go_wp2_with (first
      | (with_reducible refine at_any ?_; refine at_dst 4 rfl ?_; refine wpList_alloc_any rfl 27 rfl Z HZ0.out ?_; intro w1 hk1 hs1 hb1)
      | (go_at_call 22; (with_reducible refine (HH.out _).mono ?_); rintro e _ ⟨rfl, rfl⟩)
      | (go_at_call 24; (with_reducible refine (HCL.out w1 ((HRD.out.below hb1).mono hb1.size)).mono ?_); rintro e w2 ⟨A2, c2, rfl, hc2, hm2, hrd2, hfr2, hb2⟩; have HFR := Lib.hid hfr2; clear hfr2; have k2 := Lib.hid (hk1.out.below hb2 hk1.out.lt); have R2 := Lib.hid hrd2; have B2 := Lib.hid (hb1.trans (hb2.mono hb1.size)); clear hrd2 hb2)
      | (with_reducible refine at_any ?_; refine at_dst 14 rfl ?_; refine wpList_val rfl (.agg (srcV (Src.tapeOf zs b) A2 c2)) (BT.out _ _ _ _ _ _ A2 c2 rfl rfl rfl rfl) ?_)
      | (with_reducible refine at_any ?_; refine at_store 4 rfl ?_; refine wpList_store_any rfl 27 (.tmp 4) (.tmp 14) rfl w.heap.size rfl 27 Z (srcV (Src.tapeOf zs b) A2 c2) k2.out rfl (ZT.out _ _) (hT.out _ _) (OT.out _ _) ?_; intro w3 hk3 hs3 hb3 ho3)
      | (refine bodyPost_any2 4 5 27 rfl w.heap.size rfl (.int .i64 0) rfl 27 (srcV (Src.tapeOf zs b) A2 c2) hk3.out _ Tryd.underlying27 rfl (hT.out _ _) rfl ?_))
    have hrd3 : Rd .u8 w3 w3.heap.size A2 zs.length zs := by
      refine ⟨R2.out.1, fun hn => ?_⟩
      obtain ⟨b0, off, e, hlt, hc⟩ := R2.out.2 hn
      have hne : b0 ≠ w.heap.size := by
        have h1 := HFR.out b0 off e
        have h2 := hs1.out
        omega
      refine ⟨b0, off, e, by rw [hs3.out]; exact hlt, fun j hj => ?_⟩
      rw [World.cell?_of_block (w := w2) (w' := w3) (a := ⟨b0, off + j, none⟩) (ho3 b0 hne)]
      exact hc j hj
    exact HF.out _ _ _ hrd3 hc2 hm2 (B2.out.trans (hb3 _ (Nat.le_refl _)))
  · rw [if_neg hbig]
    rw [decide_eq_false (by omega)] at HH
    clear hZ hR hrd hl hbig
    go_enter Tryd.func17, Tryd.ntmps17
    go_wp2_with (first
      | (with_reducible refine at_any ?_; refine at_dst 4 rfl ?_; refine wpList_alloc_any rfl 27 rfl Z HZ0.out ?_; intro w1 hk1 hs1 hb1)
      | (go_at_call 22; (with_reducible refine (HH.out _).mono ?_); rintro e _ ⟨rfl, rfl⟩)
      | (with_reducible refine at_any ?_; refine at_dst 10 rfl ?_; refine wpList_val rfl (.agg Z) (HB0.out _ _ _ rfl) ?_)
      | (with_reducible refine at_any ?_; refine at_store 4 rfl ?_; refine wpList_store_any rfl 27 (.tmp 4) (.tmp 10) rfl w.heap.size rfl 27 Z Z hk1.out rfl rfl SZ.out OZ.out ?_; intro w3 hk3 hs3 hb3 ho3)
      | (refine bodyPost_any2 4 5 27 rfl w.heap.size rfl (.int .i64 1) rfl 27 Z hk3.out _ Tryd.underlying27 rfl SZ.out rfl ?_))
    exact hb1.trans (hb3 _ (Nat.le_refl _))
set_option maxHeartbeats 4000000 in
theorem qssame_c (a b : Src) (oka : a.Ok) (okb : b.Ok) (A B : Option Addr) (c d : Nat) (w : World) (hra : Rd .u8 w w.heap.size A a.tape.length a.tape) (hrb : Rd .u8 w w.heap.size B b.tape.length b.tape) : Calls Tryd.prog 16 #[.agg (srcV a A c), .agg (srcV b B d)] w fun e w' => e = .returned (.bool (sameS a b)) ∧ Below w.heap.size w w' := by
  have HA := Lib.hid (fun (W : World) (g : Nat) (h : Blk W g 27 (srcV a A c)) => And.intro ((h.cell 0).trans (srcV_kind a A c)) (And.intro ((h.cell 1).trans (srcV_tape a A c)) (And.intro ((h.cell 2).trans (srcV_bits a A c)) (And.intro ((h.cell 35).trans (srcV_dom a oka.sl A c)) (And.intro ((h.cell 36).trans (srcV_at a oka.sl A c)) (srcV_seed h))))))
  have HB := Lib.hid (fun (W : World) (g : Nat) (h : Blk W g 27 (srcV b B d)) => And.intro ((h.cell 0).trans (srcV_kind b B d)) (And.intro ((h.cell 1).trans (srcV_tape b B d)) (And.intro ((h.cell 2).trans (srcV_bits b B d)) (And.intro ((h.cell 35).trans (srcV_dom b okb.sl B d)) (And.intro ((h.cell 36).trans (srcV_at b okb.sl B d)) (srcV_seed h))))))
  have SA := Lib.hid (show (Tryd.prog.info? 25).map (·.size) = some a.seed.length by rw [oka.sl]; exact size_hash)
  have SB := Lib.hid (show (Tryd.prog.info? 25).map (·.size) = some b.seed.length by rw [okb.sl]; exact size_hash)
  have HRA := Lib.hid hra
  have HRB := Lib.hid hrb
  have HBE := Lib.hid (fun W k1 k2 => bequal_c a.tape b.tape A B a.tape.length b.tape.length c d W k1 k2 oka.ti okb.ti)
  by_cases h0 : a.kind = b.kind
  · by_cases h2 : a.bits = b.bits
    · by_cases h3 : a.seed = b.seed
      · by_cases h4 : a.dom = b.dom
        · by_cases h5 : a.at_ = b.at_
          · by_cases h1 : a.tape = b.tape
            · have HR : Hid (sameS a b = true) := Lib.hid (by unfold sameS; rw [decide_eq_true h0, decide_eq_true h2, decide_eq_true h3, decide_eq_true h4, decide_eq_true h5, decide_eq_true h1]; simp)
              have t0 : (a.kind == b.kind) = true := by rw [beq_iff_eq]; exact h0
              have t2 : (a.bits == b.bits) = true := by rw [beq_iff_eq]; exact h2
              have t3 := fun W => (show (Op.equalIn 10000 25 (.agg (intsA .u8 a.seed)) (.agg (intsA .u8 b.seed))).run Tryd.prog W = .ok true W by rw [eq_hash a.seed b.seed oka.sl okb.sl, decide_eq_true h3])
              have t4 : (a.dom == b.dom) = true := by rw [beq_iff_eq]; exact h4
              have t5 : (a.at_ == b.at_) = true := by rw [beq_iff_eq]; exact h5
              rw [decide_eq_true h1] at HBE
              obtain ⟨Va, hVa⟩ : ∃ V, srcV a A c = V := ⟨_, rfl⟩
              obtain ⟨Vb, hVb⟩ : ∃ V, srcV b B d = V := ⟨_, rfl⟩
              rw [hVa] at HA
              rw [hVb] at HB
              rw [hVa, hVb]
              clear hVa hVb hra hrb h0 h2 h3 h4 h5 h1
              obtain ⟨a_kind, ha_kind⟩ : ∃ x, a.kind = x := ⟨_, rfl⟩
              obtain ⟨b_kind, hb_kind⟩ : ∃ x, b.kind = x := ⟨_, rfl⟩
              obtain ⟨a_bits, ha_bits⟩ : ∃ x, a.bits = x := ⟨_, rfl⟩
              obtain ⟨b_bits, hb_bits⟩ : ∃ x, b.bits = x := ⟨_, rfl⟩
              obtain ⟨a_dom, ha_dom⟩ : ∃ x, a.dom = x := ⟨_, rfl⟩
              obtain ⟨b_dom, hb_dom⟩ : ∃ x, b.dom = x := ⟨_, rfl⟩
              obtain ⟨a_at_, ha_at_⟩ : ∃ x, a.at_ = x := ⟨_, rfl⟩
              obtain ⟨b_at_, hb_at_⟩ : ∃ x, b.at_ = x := ⟨_, rfl⟩
              rw [ha_kind, ha_bits, ha_dom, ha_at_] at HA
              rw [hb_kind, hb_bits, hb_dom, hb_at_] at HB
              rw [ha_kind, hb_kind] at t0
              rw [ha_bits, hb_bits] at t2
              rw [ha_dom, hb_dom] at t4
              rw [ha_at_, hb_at_] at t5
              clear ha_kind ha_bits ha_dom ha_at_ hb_kind hb_bits hb_dom hb_at_
              go_enter Tryd.func16, Tryd.ntmps16
              go_wp2_with (first
                | (with_reducible refine at_any ?_; refine at_dst 2 rfl ?_; refine wpList_box_any rfl 27 (.tmp 0) rfl Va rfl ?_; intro w1 hk1 hs1 hb1)
                | (with_reducible refine at_any ?_; refine at_dst 3 rfl ?_; refine wpList_box_any rfl 27 (.tmp 1) rfl Vb rfl ?_; intro w2 hk2 hs2 hb2; have ka := Lib.hid (hk1.out.below hb2 hk1.out.lt); have bl := Lib.hid (hb1.trans (hb2.mono hb1.size)); have ca0 := (HA.out _ _ ka.out).1; have ca1 := (HA.out _ _ ka.out).2.1; have ca2 := (HA.out _ _ ka.out).2.2.1; have ca4 := (HA.out _ _ ka.out).2.2.2.1; have ca5 := (HA.out _ _ ka.out).2.2.2.2.1; have cb0 := (HB.out _ _ hk2.out).1; have cb1 := (HB.out _ _ hk2.out).2.1; have cb2 := (HB.out _ _ hk2.out).2.2.1; have cb4 := (HB.out _ _ hk2.out).2.2.2.1; have cb5 := (HB.out _ _ hk2.out).2.2.2.2.1)
                | (with_reducible refine at_any ?_; refine at_dst 19 rfl ?_; refine wpList_load_gdo (by kernel_rfl) 25 (.tmp 18) rfl w.heap.size 3 rfl .u8 a.seed (HA.out _ _ ka.out).2.2.2.2.2 _ Tryd.underlying25 rfl SA.out ?_)
                | (with_reducible refine at_any ?_; refine at_dst 21 rfl ?_; refine wpList_load_gdo (by kernel_rfl) 25 (.tmp 20) rfl w1.heap.size 3 rfl .u8 b.seed (HB.out _ _ hk2.out).2.2.2.2.2 _ Tryd.underlying25 rfl SB.out ?_)
                | (go_at_call 23; (with_reducible refine (HBE.out _ ((HRA.out.below bl.out).fit) ((HRB.out.below bl.out).fit)).mono ?_); rintro e _ ⟨rfl, rfl⟩))
              go_ret
              exact ⟨by rw [HR.out]; rfl, bl.out⟩
            · have HR : Hid (sameS a b = false) := Lib.hid (by unfold sameS; rw [decide_eq_true h0, decide_eq_true h2, decide_eq_true h3, decide_eq_true h4, decide_eq_true h5, decide_eq_false h1]; simp)
              have t0 : (a.kind == b.kind) = true := by rw [beq_iff_eq]; exact h0
              have t2 : (a.bits == b.bits) = true := by rw [beq_iff_eq]; exact h2
              have t3 := fun W => (show (Op.equalIn 10000 25 (.agg (intsA .u8 a.seed)) (.agg (intsA .u8 b.seed))).run Tryd.prog W = .ok true W by rw [eq_hash a.seed b.seed oka.sl okb.sl, decide_eq_true h3])
              have t4 : (a.dom == b.dom) = true := by rw [beq_iff_eq]; exact h4
              have t5 : (a.at_ == b.at_) = true := by rw [beq_iff_eq]; exact h5
              rw [decide_eq_false h1] at HBE
              obtain ⟨Va, hVa⟩ : ∃ V, srcV a A c = V := ⟨_, rfl⟩
              obtain ⟨Vb, hVb⟩ : ∃ V, srcV b B d = V := ⟨_, rfl⟩
              rw [hVa] at HA
              rw [hVb] at HB
              rw [hVa, hVb]
              clear hVa hVb hra hrb h0 h2 h3 h4 h5 h1
              obtain ⟨a_kind, ha_kind⟩ : ∃ x, a.kind = x := ⟨_, rfl⟩
              obtain ⟨b_kind, hb_kind⟩ : ∃ x, b.kind = x := ⟨_, rfl⟩
              obtain ⟨a_bits, ha_bits⟩ : ∃ x, a.bits = x := ⟨_, rfl⟩
              obtain ⟨b_bits, hb_bits⟩ : ∃ x, b.bits = x := ⟨_, rfl⟩
              obtain ⟨a_dom, ha_dom⟩ : ∃ x, a.dom = x := ⟨_, rfl⟩
              obtain ⟨b_dom, hb_dom⟩ : ∃ x, b.dom = x := ⟨_, rfl⟩
              obtain ⟨a_at_, ha_at_⟩ : ∃ x, a.at_ = x := ⟨_, rfl⟩
              obtain ⟨b_at_, hb_at_⟩ : ∃ x, b.at_ = x := ⟨_, rfl⟩
              rw [ha_kind, ha_bits, ha_dom, ha_at_] at HA
              rw [hb_kind, hb_bits, hb_dom, hb_at_] at HB
              rw [ha_kind, hb_kind] at t0
              rw [ha_bits, hb_bits] at t2
              rw [ha_dom, hb_dom] at t4
              rw [ha_at_, hb_at_] at t5
              clear ha_kind ha_bits ha_dom ha_at_ hb_kind hb_bits hb_dom hb_at_
              go_enter Tryd.func16, Tryd.ntmps16
              go_wp2_with (first
                | (with_reducible refine at_any ?_; refine at_dst 2 rfl ?_; refine wpList_box_any rfl 27 (.tmp 0) rfl Va rfl ?_; intro w1 hk1 hs1 hb1)
                | (with_reducible refine at_any ?_; refine at_dst 3 rfl ?_; refine wpList_box_any rfl 27 (.tmp 1) rfl Vb rfl ?_; intro w2 hk2 hs2 hb2; have ka := Lib.hid (hk1.out.below hb2 hk1.out.lt); have bl := Lib.hid (hb1.trans (hb2.mono hb1.size)); have ca0 := (HA.out _ _ ka.out).1; have ca1 := (HA.out _ _ ka.out).2.1; have ca2 := (HA.out _ _ ka.out).2.2.1; have ca4 := (HA.out _ _ ka.out).2.2.2.1; have ca5 := (HA.out _ _ ka.out).2.2.2.2.1; have cb0 := (HB.out _ _ hk2.out).1; have cb1 := (HB.out _ _ hk2.out).2.1; have cb2 := (HB.out _ _ hk2.out).2.2.1; have cb4 := (HB.out _ _ hk2.out).2.2.2.1; have cb5 := (HB.out _ _ hk2.out).2.2.2.2.1)
                | (with_reducible refine at_any ?_; refine at_dst 19 rfl ?_; refine wpList_load_gdo (by kernel_rfl) 25 (.tmp 18) rfl w.heap.size 3 rfl .u8 a.seed (HA.out _ _ ka.out).2.2.2.2.2 _ Tryd.underlying25 rfl SA.out ?_)
                | (with_reducible refine at_any ?_; refine at_dst 21 rfl ?_; refine wpList_load_gdo (by kernel_rfl) 25 (.tmp 20) rfl w1.heap.size 3 rfl .u8 b.seed (HB.out _ _ hk2.out).2.2.2.2.2 _ Tryd.underlying25 rfl SB.out ?_)
                | (go_at_call 23; (with_reducible refine (HBE.out _ ((HRA.out.below bl.out).fit) ((HRB.out.below bl.out).fit)).mono ?_); rintro e _ ⟨rfl, rfl⟩))
              go_ret
              exact ⟨by rw [HR.out]; rfl, bl.out⟩
          · have HR : Hid (sameS a b = false) := Lib.hid (by unfold sameS; rw [decide_eq_true h0, decide_eq_true h2, decide_eq_true h3, decide_eq_true h4, decide_eq_false h5]; simp)
            have t0 : (a.kind == b.kind) = true := by rw [beq_iff_eq]; exact h0
            have t2 : (a.bits == b.bits) = true := by rw [beq_iff_eq]; exact h2
            have t3 := fun W => (show (Op.equalIn 10000 25 (.agg (intsA .u8 a.seed)) (.agg (intsA .u8 b.seed))).run Tryd.prog W = .ok true W by rw [eq_hash a.seed b.seed oka.sl okb.sl, decide_eq_true h3])
            have t4 : (a.dom == b.dom) = true := by rw [beq_iff_eq]; exact h4
            have t5 : (a.at_ == b.at_) = false := by rw [beq_eq_false_iff_ne]; exact h5
            obtain ⟨Va, hVa⟩ : ∃ V, srcV a A c = V := ⟨_, rfl⟩
            obtain ⟨Vb, hVb⟩ : ∃ V, srcV b B d = V := ⟨_, rfl⟩
            rw [hVa] at HA
            rw [hVb] at HB
            rw [hVa, hVb]
            clear hVa hVb hra hrb h0 h2 h3 h4 h5
            obtain ⟨a_kind, ha_kind⟩ : ∃ x, a.kind = x := ⟨_, rfl⟩
            obtain ⟨b_kind, hb_kind⟩ : ∃ x, b.kind = x := ⟨_, rfl⟩
            obtain ⟨a_bits, ha_bits⟩ : ∃ x, a.bits = x := ⟨_, rfl⟩
            obtain ⟨b_bits, hb_bits⟩ : ∃ x, b.bits = x := ⟨_, rfl⟩
            obtain ⟨a_dom, ha_dom⟩ : ∃ x, a.dom = x := ⟨_, rfl⟩
            obtain ⟨b_dom, hb_dom⟩ : ∃ x, b.dom = x := ⟨_, rfl⟩
            obtain ⟨a_at_, ha_at_⟩ : ∃ x, a.at_ = x := ⟨_, rfl⟩
            obtain ⟨b_at_, hb_at_⟩ : ∃ x, b.at_ = x := ⟨_, rfl⟩
            rw [ha_kind, ha_bits, ha_dom, ha_at_] at HA
            rw [hb_kind, hb_bits, hb_dom, hb_at_] at HB
            rw [ha_kind, hb_kind] at t0
            rw [ha_bits, hb_bits] at t2
            rw [ha_dom, hb_dom] at t4
            rw [ha_at_, hb_at_] at t5
            clear ha_kind ha_bits ha_dom ha_at_ hb_kind hb_bits hb_dom hb_at_
            go_enter Tryd.func16, Tryd.ntmps16
            go_wp2_with (first
              | (with_reducible refine at_any ?_; refine at_dst 2 rfl ?_; refine wpList_box_any rfl 27 (.tmp 0) rfl Va rfl ?_; intro w1 hk1 hs1 hb1)
              | (with_reducible refine at_any ?_; refine at_dst 3 rfl ?_; refine wpList_box_any rfl 27 (.tmp 1) rfl Vb rfl ?_; intro w2 hk2 hs2 hb2; have ka := Lib.hid (hk1.out.below hb2 hk1.out.lt); have bl := Lib.hid (hb1.trans (hb2.mono hb1.size)); have ca0 := (HA.out _ _ ka.out).1; have ca1 := (HA.out _ _ ka.out).2.1; have ca2 := (HA.out _ _ ka.out).2.2.1; have ca4 := (HA.out _ _ ka.out).2.2.2.1; have ca5 := (HA.out _ _ ka.out).2.2.2.2.1; have cb0 := (HB.out _ _ hk2.out).1; have cb1 := (HB.out _ _ hk2.out).2.1; have cb2 := (HB.out _ _ hk2.out).2.2.1; have cb4 := (HB.out _ _ hk2.out).2.2.2.1; have cb5 := (HB.out _ _ hk2.out).2.2.2.2.1)
              | (with_reducible refine at_any ?_; refine at_dst 19 rfl ?_; refine wpList_load_gdo (by kernel_rfl) 25 (.tmp 18) rfl w.heap.size 3 rfl .u8 a.seed (HA.out _ _ ka.out).2.2.2.2.2 _ Tryd.underlying25 rfl SA.out ?_)
              | (with_reducible refine at_any ?_; refine at_dst 21 rfl ?_; refine wpList_load_gdo (by kernel_rfl) 25 (.tmp 20) rfl w1.heap.size 3 rfl .u8 b.seed (HB.out _ _ hk2.out).2.2.2.2.2 _ Tryd.underlying25 rfl SB.out ?_)
              | (go_at_call 23; (with_reducible refine (HBE.out _ ((HRA.out.below bl.out).fit) ((HRB.out.below bl.out).fit)).mono ?_); rintro e _ ⟨rfl, rfl⟩))
            go_ret
            exact ⟨by rw [HR.out]; rfl, bl.out⟩
        · have HR : Hid (sameS a b = false) := Lib.hid (by unfold sameS; rw [decide_eq_true h0, decide_eq_true h2, decide_eq_true h3, decide_eq_false h4]; simp)
          have t0 : (a.kind == b.kind) = true := by rw [beq_iff_eq]; exact h0
          have t2 : (a.bits == b.bits) = true := by rw [beq_iff_eq]; exact h2
          have t3 := fun W => (show (Op.equalIn 10000 25 (.agg (intsA .u8 a.seed)) (.agg (intsA .u8 b.seed))).run Tryd.prog W = .ok true W by rw [eq_hash a.seed b.seed oka.sl okb.sl, decide_eq_true h3])
          have t4 : (a.dom == b.dom) = false := by rw [beq_eq_false_iff_ne]; exact h4
          obtain ⟨Va, hVa⟩ : ∃ V, srcV a A c = V := ⟨_, rfl⟩
          obtain ⟨Vb, hVb⟩ : ∃ V, srcV b B d = V := ⟨_, rfl⟩
          rw [hVa] at HA
          rw [hVb] at HB
          rw [hVa, hVb]
          clear hVa hVb hra hrb h0 h2 h3 h4
          obtain ⟨a_kind, ha_kind⟩ : ∃ x, a.kind = x := ⟨_, rfl⟩
          obtain ⟨b_kind, hb_kind⟩ : ∃ x, b.kind = x := ⟨_, rfl⟩
          obtain ⟨a_bits, ha_bits⟩ : ∃ x, a.bits = x := ⟨_, rfl⟩
          obtain ⟨b_bits, hb_bits⟩ : ∃ x, b.bits = x := ⟨_, rfl⟩
          obtain ⟨a_dom, ha_dom⟩ : ∃ x, a.dom = x := ⟨_, rfl⟩
          obtain ⟨b_dom, hb_dom⟩ : ∃ x, b.dom = x := ⟨_, rfl⟩
          obtain ⟨a_at_, ha_at_⟩ : ∃ x, a.at_ = x := ⟨_, rfl⟩
          obtain ⟨b_at_, hb_at_⟩ : ∃ x, b.at_ = x := ⟨_, rfl⟩
          rw [ha_kind, ha_bits, ha_dom, ha_at_] at HA
          rw [hb_kind, hb_bits, hb_dom, hb_at_] at HB
          rw [ha_kind, hb_kind] at t0
          rw [ha_bits, hb_bits] at t2
          rw [ha_dom, hb_dom] at t4
          clear ha_kind ha_bits ha_dom ha_at_ hb_kind hb_bits hb_dom hb_at_
          go_enter Tryd.func16, Tryd.ntmps16
          go_wp2_with (first
            | (with_reducible refine at_any ?_; refine at_dst 2 rfl ?_; refine wpList_box_any rfl 27 (.tmp 0) rfl Va rfl ?_; intro w1 hk1 hs1 hb1)
            | (with_reducible refine at_any ?_; refine at_dst 3 rfl ?_; refine wpList_box_any rfl 27 (.tmp 1) rfl Vb rfl ?_; intro w2 hk2 hs2 hb2; have ka := Lib.hid (hk1.out.below hb2 hk1.out.lt); have bl := Lib.hid (hb1.trans (hb2.mono hb1.size)); have ca0 := (HA.out _ _ ka.out).1; have ca1 := (HA.out _ _ ka.out).2.1; have ca2 := (HA.out _ _ ka.out).2.2.1; have ca4 := (HA.out _ _ ka.out).2.2.2.1; have ca5 := (HA.out _ _ ka.out).2.2.2.2.1; have cb0 := (HB.out _ _ hk2.out).1; have cb1 := (HB.out _ _ hk2.out).2.1; have cb2 := (HB.out _ _ hk2.out).2.2.1; have cb4 := (HB.out _ _ hk2.out).2.2.2.1; have cb5 := (HB.out _ _ hk2.out).2.2.2.2.1)
            | (with_reducible refine at_any ?_; refine at_dst 19 rfl ?_; refine wpList_load_gdo (by kernel_rfl) 25 (.tmp 18) rfl w.heap.size 3 rfl .u8 a.seed (HA.out _ _ ka.out).2.2.2.2.2 _ Tryd.underlying25 rfl SA.out ?_)
            | (with_reducible refine at_any ?_; refine at_dst 21 rfl ?_; refine wpList_load_gdo (by kernel_rfl) 25 (.tmp 20) rfl w1.heap.size 3 rfl .u8 b.seed (HB.out _ _ hk2.out).2.2.2.2.2 _ Tryd.underlying25 rfl SB.out ?_)
            | (go_at_call 23; (with_reducible refine (HBE.out _ ((HRA.out.below bl.out).fit) ((HRB.out.below bl.out).fit)).mono ?_); rintro e _ ⟨rfl, rfl⟩))
          go_ret
          exact ⟨by rw [HR.out]; rfl, bl.out⟩
      · have HR : Hid (sameS a b = false) := Lib.hid (by unfold sameS; rw [decide_eq_true h0, decide_eq_true h2, decide_eq_false h3]; simp)
        have t0 : (a.kind == b.kind) = true := by rw [beq_iff_eq]; exact h0
        have t2 : (a.bits == b.bits) = true := by rw [beq_iff_eq]; exact h2
        have t3 := fun W => (show (Op.equalIn 10000 25 (.agg (intsA .u8 a.seed)) (.agg (intsA .u8 b.seed))).run Tryd.prog W = .ok false W by rw [eq_hash a.seed b.seed oka.sl okb.sl, decide_eq_false h3])
        obtain ⟨Va, hVa⟩ : ∃ V, srcV a A c = V := ⟨_, rfl⟩
        obtain ⟨Vb, hVb⟩ : ∃ V, srcV b B d = V := ⟨_, rfl⟩
        rw [hVa] at HA
        rw [hVb] at HB
        rw [hVa, hVb]
        clear hVa hVb hra hrb h0 h2 h3
        obtain ⟨a_kind, ha_kind⟩ : ∃ x, a.kind = x := ⟨_, rfl⟩
        obtain ⟨b_kind, hb_kind⟩ : ∃ x, b.kind = x := ⟨_, rfl⟩
        obtain ⟨a_bits, ha_bits⟩ : ∃ x, a.bits = x := ⟨_, rfl⟩
        obtain ⟨b_bits, hb_bits⟩ : ∃ x, b.bits = x := ⟨_, rfl⟩
        obtain ⟨a_dom, ha_dom⟩ : ∃ x, a.dom = x := ⟨_, rfl⟩
        obtain ⟨b_dom, hb_dom⟩ : ∃ x, b.dom = x := ⟨_, rfl⟩
        obtain ⟨a_at_, ha_at_⟩ : ∃ x, a.at_ = x := ⟨_, rfl⟩
        obtain ⟨b_at_, hb_at_⟩ : ∃ x, b.at_ = x := ⟨_, rfl⟩
        rw [ha_kind, ha_bits, ha_dom, ha_at_] at HA
        rw [hb_kind, hb_bits, hb_dom, hb_at_] at HB
        rw [ha_kind, hb_kind] at t0
        rw [ha_bits, hb_bits] at t2
        clear ha_kind ha_bits ha_dom ha_at_ hb_kind hb_bits hb_dom hb_at_
        go_enter Tryd.func16, Tryd.ntmps16
        go_wp2_with (first
          | (with_reducible refine at_any ?_; refine at_dst 2 rfl ?_; refine wpList_box_any rfl 27 (.tmp 0) rfl Va rfl ?_; intro w1 hk1 hs1 hb1)
          | (with_reducible refine at_any ?_; refine at_dst 3 rfl ?_; refine wpList_box_any rfl 27 (.tmp 1) rfl Vb rfl ?_; intro w2 hk2 hs2 hb2; have ka := Lib.hid (hk1.out.below hb2 hk1.out.lt); have bl := Lib.hid (hb1.trans (hb2.mono hb1.size)); have ca0 := (HA.out _ _ ka.out).1; have ca1 := (HA.out _ _ ka.out).2.1; have ca2 := (HA.out _ _ ka.out).2.2.1; have ca4 := (HA.out _ _ ka.out).2.2.2.1; have ca5 := (HA.out _ _ ka.out).2.2.2.2.1; have cb0 := (HB.out _ _ hk2.out).1; have cb1 := (HB.out _ _ hk2.out).2.1; have cb2 := (HB.out _ _ hk2.out).2.2.1; have cb4 := (HB.out _ _ hk2.out).2.2.2.1; have cb5 := (HB.out _ _ hk2.out).2.2.2.2.1)
          | (with_reducible refine at_any ?_; refine at_dst 19 rfl ?_; refine wpList_load_gdo (by kernel_rfl) 25 (.tmp 18) rfl w.heap.size 3 rfl .u8 a.seed (HA.out _ _ ka.out).2.2.2.2.2 _ Tryd.underlying25 rfl SA.out ?_)
          | (with_reducible refine at_any ?_; refine at_dst 21 rfl ?_; refine wpList_load_gdo (by kernel_rfl) 25 (.tmp 20) rfl w1.heap.size 3 rfl .u8 b.seed (HB.out _ _ hk2.out).2.2.2.2.2 _ Tryd.underlying25 rfl SB.out ?_)
          | (go_at_call 23; (with_reducible refine (HBE.out _ ((HRA.out.below bl.out).fit) ((HRB.out.below bl.out).fit)).mono ?_); rintro e _ ⟨rfl, rfl⟩))
        go_ret
        exact ⟨by rw [HR.out]; rfl, bl.out⟩
    · have HR : Hid (sameS a b = false) := Lib.hid (by unfold sameS; rw [decide_eq_true h0, decide_eq_false h2]; simp)
      have t0 : (a.kind == b.kind) = true := by rw [beq_iff_eq]; exact h0
      have t2 : (a.bits == b.bits) = false := by rw [beq_eq_false_iff_ne]; exact h2
      obtain ⟨Va, hVa⟩ : ∃ V, srcV a A c = V := ⟨_, rfl⟩
      obtain ⟨Vb, hVb⟩ : ∃ V, srcV b B d = V := ⟨_, rfl⟩
      rw [hVa] at HA
      rw [hVb] at HB
      rw [hVa, hVb]
      clear hVa hVb hra hrb h0 h2
      obtain ⟨a_kind, ha_kind⟩ : ∃ x, a.kind = x := ⟨_, rfl⟩
      obtain ⟨b_kind, hb_kind⟩ : ∃ x, b.kind = x := ⟨_, rfl⟩
      obtain ⟨a_bits, ha_bits⟩ : ∃ x, a.bits = x := ⟨_, rfl⟩
      obtain ⟨b_bits, hb_bits⟩ : ∃ x, b.bits = x := ⟨_, rfl⟩
      obtain ⟨a_dom, ha_dom⟩ : ∃ x, a.dom = x := ⟨_, rfl⟩
      obtain ⟨b_dom, hb_dom⟩ : ∃ x, b.dom = x := ⟨_, rfl⟩
      obtain ⟨a_at_, ha_at_⟩ : ∃ x, a.at_ = x := ⟨_, rfl⟩
      obtain ⟨b_at_, hb_at_⟩ : ∃ x, b.at_ = x := ⟨_, rfl⟩
      rw [ha_kind, ha_bits, ha_dom, ha_at_] at HA
      rw [hb_kind, hb_bits, hb_dom, hb_at_] at HB
      rw [ha_kind, hb_kind] at t0
      rw [ha_bits, hb_bits] at t2
      clear ha_kind ha_bits ha_dom ha_at_ hb_kind hb_bits hb_dom hb_at_
      go_enter Tryd.func16, Tryd.ntmps16
      go_wp2_with (first
        | (with_reducible refine at_any ?_; refine at_dst 2 rfl ?_; refine wpList_box_any rfl 27 (.tmp 0) rfl Va rfl ?_; intro w1 hk1 hs1 hb1)
        | (with_reducible refine at_any ?_; refine at_dst 3 rfl ?_; refine wpList_box_any rfl 27 (.tmp 1) rfl Vb rfl ?_; intro w2 hk2 hs2 hb2; have ka := Lib.hid (hk1.out.below hb2 hk1.out.lt); have bl := Lib.hid (hb1.trans (hb2.mono hb1.size)); have ca0 := (HA.out _ _ ka.out).1; have ca1 := (HA.out _ _ ka.out).2.1; have ca2 := (HA.out _ _ ka.out).2.2.1; have ca4 := (HA.out _ _ ka.out).2.2.2.1; have ca5 := (HA.out _ _ ka.out).2.2.2.2.1; have cb0 := (HB.out _ _ hk2.out).1; have cb1 := (HB.out _ _ hk2.out).2.1; have cb2 := (HB.out _ _ hk2.out).2.2.1; have cb4 := (HB.out _ _ hk2.out).2.2.2.1; have cb5 := (HB.out _ _ hk2.out).2.2.2.2.1)
        | (with_reducible refine at_any ?_; refine at_dst 19 rfl ?_; refine wpList_load_gdo (by kernel_rfl) 25 (.tmp 18) rfl w.heap.size 3 rfl .u8 a.seed (HA.out _ _ ka.out).2.2.2.2.2 _ Tryd.underlying25 rfl SA.out ?_)
        | (with_reducible refine at_any ?_; refine at_dst 21 rfl ?_; refine wpList_load_gdo (by kernel_rfl) 25 (.tmp 20) rfl w1.heap.size 3 rfl .u8 b.seed (HB.out _ _ hk2.out).2.2.2.2.2 _ Tryd.underlying25 rfl SB.out ?_)
        | (go_at_call 23; (with_reducible refine (HBE.out _ ((HRA.out.below bl.out).fit) ((HRB.out.below bl.out).fit)).mono ?_); rintro e _ ⟨rfl, rfl⟩))
      go_ret
      exact ⟨by rw [HR.out]; rfl, bl.out⟩
  · have HR : Hid (sameS a b = false) := Lib.hid (by unfold sameS; rw [decide_eq_false h0]; simp)
    have t0 : (a.kind == b.kind) = false := by rw [beq_eq_false_iff_ne]; exact h0
    obtain ⟨Va, hVa⟩ : ∃ V, srcV a A c = V := ⟨_, rfl⟩
    obtain ⟨Vb, hVb⟩ : ∃ V, srcV b B d = V := ⟨_, rfl⟩
    rw [hVa] at HA
    rw [hVb] at HB
    rw [hVa, hVb]
    clear hVa hVb hra hrb h0
    obtain ⟨a_kind, ha_kind⟩ : ∃ x, a.kind = x := ⟨_, rfl⟩
    obtain ⟨b_kind, hb_kind⟩ : ∃ x, b.kind = x := ⟨_, rfl⟩
    obtain ⟨a_bits, ha_bits⟩ : ∃ x, a.bits = x := ⟨_, rfl⟩
    obtain ⟨b_bits, hb_bits⟩ : ∃ x, b.bits = x := ⟨_, rfl⟩
    obtain ⟨a_dom, ha_dom⟩ : ∃ x, a.dom = x := ⟨_, rfl⟩
    obtain ⟨b_dom, hb_dom⟩ : ∃ x, b.dom = x := ⟨_, rfl⟩
    obtain ⟨a_at_, ha_at_⟩ : ∃ x, a.at_ = x := ⟨_, rfl⟩
    obtain ⟨b_at_, hb_at_⟩ : ∃ x, b.at_ = x := ⟨_, rfl⟩
    rw [ha_kind, ha_bits, ha_dom, ha_at_] at HA
    rw [hb_kind, hb_bits, hb_dom, hb_at_] at HB
    rw [ha_kind, hb_kind] at t0
    clear ha_kind ha_bits ha_dom ha_at_ hb_kind hb_bits hb_dom hb_at_
    go_enter Tryd.func16, Tryd.ntmps16
    go_wp2_with (first
      | (with_reducible refine at_any ?_; refine at_dst 2 rfl ?_; refine wpList_box_any rfl 27 (.tmp 0) rfl Va rfl ?_; intro w1 hk1 hs1 hb1)
      | (with_reducible refine at_any ?_; refine at_dst 3 rfl ?_; refine wpList_box_any rfl 27 (.tmp 1) rfl Vb rfl ?_; intro w2 hk2 hs2 hb2; have ka := Lib.hid (hk1.out.below hb2 hk1.out.lt); have bl := Lib.hid (hb1.trans (hb2.mono hb1.size)); have ca0 := (HA.out _ _ ka.out).1; have ca1 := (HA.out _ _ ka.out).2.1; have ca2 := (HA.out _ _ ka.out).2.2.1; have ca4 := (HA.out _ _ ka.out).2.2.2.1; have ca5 := (HA.out _ _ ka.out).2.2.2.2.1; have cb0 := (HB.out _ _ hk2.out).1; have cb1 := (HB.out _ _ hk2.out).2.1; have cb2 := (HB.out _ _ hk2.out).2.2.1; have cb4 := (HB.out _ _ hk2.out).2.2.2.1; have cb5 := (HB.out _ _ hk2.out).2.2.2.2.1)
      | (with_reducible refine at_any ?_; refine at_dst 19 rfl ?_; refine wpList_load_gdo (by kernel_rfl) 25 (.tmp 18) rfl w.heap.size 3 rfl .u8 a.seed (HA.out _ _ ka.out).2.2.2.2.2 _ Tryd.underlying25 rfl SA.out ?_)
      | (with_reducible refine at_any ?_; refine at_dst 21 rfl ?_; refine wpList_load_gdo (by kernel_rfl) 25 (.tmp 20) rfl w1.heap.size 3 rfl .u8 b.seed (HB.out _ _ hk2.out).2.2.2.2.2 _ Tryd.underlying25 rfl SB.out ?_)
      | (go_at_call 23; (with_reducible refine (HBE.out _ ((HRA.out.below bl.out).fit) ((HRB.out.below bl.out).fit)).mono ?_); rintro e _ ⟨rfl, rfl⟩))
    go_ret
    exact ⟨by rw [HR.out]; rfl, bl.out⟩
theorem qsstream_c (s : List Int) (hl : s.length = 32) (d : Int) (w : World) : Calls Tryd.prog 19 #[.agg (intsA .u8 s), .int .u64 d] w (RetStrm w s d) := by
  have HZ0 := Lib.hid zero_src
  have SS := Lib.hid (show (Tryd.prog.info? 25).map (·.size) = some s.length by rw [hl]; exact size_hash)
  have ST := Lib.hid (sizedS (Src.strm s d) hl none 0)
  have OT := Lib.hid (srcV_ones (Src.strm s d) none 0)
  have ZT := Lib.hid (srcV_same Src.zero (Src.strm s d) rfl hl none none 0 0)
  have BT := Lib.hid (fun (a : Act) (o : Oper) (x y z : Operand) (W : World) h1 h2 h3 h4 => build_src2 (a := a) (o := o) (x := x) (y := y) (z := z) W s hl d h1 h2 h3 h4)
  unfold RetStrm
  obtain ⟨Z, hZ⟩ : ∃ Z, srcV Src.zero none 0 = Z := ⟨_, rfl⟩
  rw [hZ] at HZ0 ZT
  clear hZ hl
  go_enter Tryd.func19, Tryd.ntmps19
  go_wp2_with (first
    | (with_reducible refine at_any ?_; refine at_dst 2 rfl ?_; refine wpList_box_ints rfl 25 (.tmp 0) rfl .u8 s rfl ?_; intro w1 hk1 hs1 hb1)
    | (with_reducible refine at_any ?_; refine at_dst 4 rfl ?_; refine wpList_alloc_any rfl 27 rfl Z HZ0.out ?_; intro w2 hk2 hs2 hb2; have k2 := Lib.hid (hk1.out.below hb2 hk1.out.lt); have bl2 := Lib.hid (hb1.trans (hb2.mono hb1.size)))
    | (with_reducible refine at_any ?_; refine at_dst 5 rfl ?_; refine wpList_load_ints rfl 25 (.tmp 2) rfl w.heap.size rfl 25 .u8 s k2.out _ Tryd.underlying25 rfl SS.out ?_)
    | (with_reducible refine at_any ?_; refine at_dst 7 rfl ?_; refine wpList_val rfl (.agg (srcV (Src.strm s d) none 0)) (BT.out _ _ _ _ _ _ rfl rfl rfl rfl) ?_)
    | (with_reducible refine at_any ?_; refine at_store 4 rfl ?_; refine wpList_store_any rfl 27 (.tmp 4) (.tmp 7) rfl w1.heap.size rfl 27 Z (srcV (Src.strm s d) none 0) hk2.out rfl ZT.out ST.out OT.out ?_; intro w3 hk3 hs3 hb3 ho3)
    | (refine bodyPost_any 4 27 rfl w1.heap.size rfl 27 (srcV (Src.strm s d) none 0) hk3.out _ Tryd.underlying27 rfl ST.out rfl ?_))
  exact ⟨none, 0, rfl, Nat.zero_le _, bl2.out.trans (hb3 _ hb1.size)⟩
end Go.Proofs.YtabfgkokilghcaaDoor
/-
  What stage 7's fixed fact returns, and what its laws share.
  Conditions: the table of constants holds what the program's text lays.
-/
set_option linter.unusedSimpArgs false
namespace Go.Proofs.YtabfgkokilghcaaDoor
open Go.ChangeShapes Go.WideShapes Go.ChangeAt Go.RowKit
set_option linter.unusedVariables false
theorem wpList_val_gd {P : Program} {w : World} {ops : Array Oper} {rest : List Oper} {o : Oper} {a : Act} {Q : Exit → Act → World → Prop} (hw : Region.wanted o (yielded ops a.tmps) = true) (v : Value) (hv : (execOp a.eval o).run P w = .ok (.value v) w)
    (h : wpList P ops Q rest (a.put o.dst v) w) : wpList P ops Q (o :: rest) a w :=
  wpList_step fun K hK => by
    rw [if_pos hw]
    unfold Oper.wp
    simp only [hv]
    exact hK _ _ h
theorem great_c (s : Src) (tl : s.tape.length ≤ 9223372036854775807) (A : Option Addr) (c : Nat) (w : World) : Calls Tryd.prog 8 #[.agg (srcV s A c)] w fun e w' => e = .returned (.bool (decide (500 < s.tape.length))) ∧ Below w.heap.size w w' := by
  have HC := Lib.hid (fun (W : World) (g : Nat) (h : Blk W g 27 (srcV s A c)) => (h.cell 1).trans (srcV_tape s A c))
  obtain ⟨V, hV⟩ : ∃ V, srcV s A c = V := ⟨_, rfl⟩
  obtain ⟨L, hL⟩ : ∃ x, s.tape.length = x := ⟨_, rfl⟩
  rw [hV, hL] at HC
  rw [hL] at tl
  rw [hV, hL]
  have HD := Lib.hid (show decide ((500 : Int) < (L : Int)) = decide (500 < L) by rw [decide_eq_decide]; omega)
  clear hV hL
  go_enter Tryd.func8, Tryd.ntmps8
  go_wp2_with (with_reducible refine at_any ?_; refine at_dst 1 rfl ?_; refine wpList_box_any rfl 27 (.tmp 0) rfl V rfl ?_; intro w1 hk1 hs1 hb1; have c1 := HC.out _ _ hk1.out)
  go_ret
  exact ⟨by simp; omega, hb1⟩
theorem rd_zero (k : IntKind) (w : World) (A : Option Addr) : Rd k w w.heap.size A 0 [] := ⟨rfl, fun h => absurd h (by omega)⟩
theorem run_build_one (w : World) : (Instr.build 25 #[(0, .int .u8 1)]).run Tryd.prog w = .ok (.agg (intsA .u8 (1 :: List.replicate 31 0))) w := by
  have h : (Instr.build 25 #[(0, .int .u8 1)]).run Tryd.prog w = .ok (.agg #[.int .u8 1, .int .u8 0, .int .u8 0, .int .u8 0, .int .u8 0, .int .u8 0, .int .u8 0, .int .u8 0, .int .u8 0, .int .u8 0, .int .u8 0, .int .u8 0, .int .u8 0, .int .u8 0, .int .u8 0, .int .u8 0, .int .u8 0, .int .u8 0, .int .u8 0, .int .u8 0, .int .u8 0, .int .u8 0, .int .u8 0, .int .u8 0, .int .u8 0, .int .u8 0, .int .u8 0, .int .u8 0, .int .u8 0, .int .u8 0, .int .u8 0, .int .u8 0]) w := by go_simp
  exact h
theorem build_one {a : Act} {o : Oper} (w : World) (ho : o.op = .build 25 #[(0, .const (.int .u8 1))]) : (execOp a.eval o).run Tryd.prog w = .ok (.value (.agg (intsA .u8 (1 :: List.replicate 31 0)))) w := by
  unfold execOp
  simp only [ho, List.map_toArray, List.map_cons, List.map_nil]
  change ((Instr.build 25 #[(0, .int .u8 1)]) >>= fun v => pure (Next.value v)).run Tryd.prog w = _
  simp only [Sem.run_bind, run_build_one, Result.andThen_ok, Sem.run_pure]
theorem S0_ok : (Src.tapeOf [176] 8).Ok := ⟨by decide, by decide, by decide, by decide, by decide, by decide, rfl, (fun z h => by obtain ⟨_, rfl⟩ := List.mem_replicate.1 h; exact ⟨by omega, by omega⟩), by decide, by decide, by decide, by decide⟩
theorem Sw_ok : (Src.strm (1 :: List.replicate 31 0) 7).Ok := ⟨by decide, by decide, by decide, fun _ h => (by cases h), by decide, by decide, rfl, by decide, by decide, by decide, by decide, by decide⟩
set_option maxHeartbeats 8000000 in
theorem alive7_c (w : World) (hkst : Kst w) : Calls Tryd.prog 7 #[] w fun e w' => e = .returned (.bool true) ∧ Below w.heap.size w w' := by
  have ok0 := S0_ok
  have okw := Sw_ok
  have hT1 : ∀ A W, Rd .u8 W W.heap.size A 1 [176] → Calls Tryd.prog 17 #[.slice A 1 1, .int .u64 8] W (fun e w' => ∃ A' c', e = .returned (.tuple #[.agg (srcV (Src.tapeOf [176] 8) A' c'), .int .i64 0]) ∧ Rd .u8 w' w'.heap.size A' 1 [176] ∧ 1 ≤ c' ∧ c' ≤ maxLen ∧ Below W.heap.size W w') := fun A W h => qstape_c [176] (by simp) 8 (by omega) (by omega) A 1 1 W h (Nat.le_refl _)
  have hT2 : ∀ A W, Rd .u8 W W.heap.size A 1 [176] → Calls Tryd.prog 17 #[.slice A 1 1, .int .u64 9] W (fun e w' => e = .returned (.tuple #[.agg (srcV Src.zero none 0), .int .i64 1]) ∧ Below W.heap.size W w') := fun A W h => qstape_c [176] (by simp) 9 (by omega) (by omega) A 1 1 W h (Nat.le_refl _)
  have hsm := fun W => qsstream_c (1 :: List.replicate 31 0) rfl 7 W
  unfold RetStrm at hsm
  have okU := takeS_ok ok0 3
  have okZ := takeS_ok okw 64
  have q1 : takeE (Src.tapeOf [176] 8) 3 = 0 := by decide +kernel
  have q2 : takeV (Src.tapeOf [176] 8) 3 = 5 := by decide +kernel
  have q3 : takeE (takeS (Src.tapeOf [176] 8) 3) 6 = 8 := by decide +kernel
  have q4 : takeV (takeS (Src.tapeOf [176] 8) 3) 6 = 0 := by unfold takeV; rw [if_neg (by rw [q3]; omega)]
  have q5 : takeS (takeS (Src.tapeOf [176] 8) 3) 6 = takeS (Src.tapeOf [176] 8) 3 := by rw [takeS]; rw [if_neg (by rw [q3]; omega)]
  have q6 : leftS (takeS (Src.tapeOf [176] 8) 3) = 5 := by decide +kernel
  have q7 : (takeS (Src.tapeOf [176] 8) 3).tape = [176] := takeS_tape _ _
  have q8 : sameS (Src.tapeOf [176] 8) (takeS (Src.tapeOf [176] 8) 3) = false := by decide +kernel
  have p1 : takeE (Src.strm (1 :: List.replicate 31 0) 7) 65 = 1 := by decide +kernel
  have p2 : takeV (Src.strm (1 :: List.replicate 31 0) 7) 65 = 0 := by unfold takeV; rw [if_neg (by rw [p1]; omega)]
  have p3 : takeS (Src.strm (1 :: List.replicate 31 0) 7) 65 = Src.strm (1 :: List.replicate 31 0) 7 := by rw [takeS]; rw [if_neg (by rw [p1]; omega)]
  have p4 : takeE (Src.strm (1 :: List.replicate 31 0) 7) 64 = 0 := by decide +kernel
  have p5 : leftS (Src.strm (1 :: List.replicate 31 0) 7) = 4611686018427387904 := by decide +kernel
  have p6 : rightS (Src.strm (1 :: List.replicate 31 0) 7) = true := by decide +kernel
  have p7 : (takeS (Src.strm (1 :: List.replicate 31 0) 7) 64).at_ = 64 := by unfold takeS; rw [if_pos p4]; rfl
  have p8 : rightS Src.zero = false := by decide +kernel
  have hk1 : ∀ A c W, 1 ≤ c → c ≤ maxLen → Rd .u8 W W.heap.size A 1 [176] → Kst W → Calls Tryd.prog 9 #[.agg (srcV (Src.tapeOf [176] 8) A c), .int .i64 3] W (fun e w' => ∃ A' c', e = .returned (.tuple #[.int .u64 5, .agg (srcV (takeS (Src.tapeOf [176] 8) 3) A' c'), .int .i64 0]) ∧ Rd .u8 w' w'.heap.size A' 1 [176] ∧ 1 ≤ c' ∧ c' ≤ maxLen ∧ Sep W A A' ∧ Below W.heap.size W w') := fun A c W h1 h2 h3 h4 => by
    have h := qstake_c (Src.tapeOf [176] 8) ok0 3 (by omega) (by omega) A c h1 h2 W h3 h4
    unfold RetTake at h
    rw [q1, q2] at h
    exact h
  have hk2 : ∀ A c W, 1 ≤ c → c ≤ maxLen → Rd .u8 W W.heap.size A 1 [176] → Kst W → Calls Tryd.prog 9 #[.agg (srcV (takeS (Src.tapeOf [176] 8) 3) A c), .int .i64 6] W (fun e w' => ∃ A' c', e = .returned (.tuple #[.int .u64 0, .agg (srcV (takeS (Src.tapeOf [176] 8) 3) A' c'), .int .i64 8]) ∧ Rd .u8 w' w'.heap.size A' 1 [176] ∧ 1 ≤ c' ∧ c' ≤ maxLen ∧ Sep W A A' ∧ Below W.heap.size W w') := fun A c W h1 h2 h3 h4 => by
    have h := qstake_c (takeS (Src.tapeOf [176] 8) 3) okU 6 (by omega) (by omega) A c (by rw [q7]; exact h1) h2 W (by rw [q7]; exact h3) h4
    unfold RetTake at h
    rw [q3, q4, q5, q7] at h
    exact h
  have hk3 : ∀ A c W, 0 ≤ c → c ≤ maxLen → Rd .u8 W W.heap.size A 0 [] → Kst W → Calls Tryd.prog 9 #[.agg (srcV (Src.strm (1 :: List.replicate 31 0) 7) A c), .int .i64 65] W (fun e w' => ∃ A' c', e = .returned (.tuple #[.int .u64 0, .agg (srcV (Src.strm (1 :: List.replicate 31 0) 7) A' c'), .int .i64 1]) ∧ Rd .u8 w' w'.heap.size A' 0 [] ∧ 0 ≤ c' ∧ c' ≤ maxLen ∧ Sep W A A' ∧ Below W.heap.size W w') := fun A c W h1 h2 h3 h4 => by
    have h := qstake_c (Src.strm (1 :: List.replicate 31 0) 7) okw 65 (by omega) (by omega) A c h1 h2 W h3 h4
    unfold RetTake at h
    rw [p1, p2, p3] at h
    exact h
  obtain ⟨y, hy⟩ : ∃ y, takeV (Src.strm (1 :: List.replicate 31 0) 7) 64 = y := ⟨_, rfl⟩
  have hk4 : ∀ A c W, 0 ≤ c → c ≤ maxLen → Rd .u8 W W.heap.size A 0 [] → Kst W → Calls Tryd.prog 9 #[.agg (srcV (Src.strm (1 :: List.replicate 31 0) 7) A c), .int .i64 64] W (fun e w' => ∃ A' c', e = .returned (.tuple #[.int .u64 y, .agg (srcV (takeS (Src.strm (1 :: List.replicate 31 0) 7) 64) A' c'), .int .i64 0]) ∧ Rd .u8 w' w'.heap.size A' 0 [] ∧ 0 ≤ c' ∧ c' ≤ maxLen ∧ Sep W A A' ∧ Below W.heap.size W w') := fun A c W h1 h2 h3 h4 => by
    have h := qstake_c (Src.strm (1 :: List.replicate 31 0) 7) okw 64 (by omega) (by omega) A c h1 h2 W h3 h4
    unfold RetTake at h
    rw [p4, hy] at h
    exact h
  have hlu := fun A c W => qsleft_c (takeS (Src.tapeOf [176] 8) 3) okU A c W
  rw [q6] at hlu
  have hlw := fun A c W => qsleft_c (Src.strm (1 :: List.replicate 31 0) 7) okw A c W
  rw [p5] at hlw
  have hrw := fun A c W => qsright_c (Src.strm (1 :: List.replicate 31 0) 7) okw A c W
  rw [p6] at hrw
  have hrz := fun W => qsright_c Src.zero Src.ok_zero none 0 W
  rw [p8] at hrz
  have hs1 := fun A B c d W h1 h2 => qssame_c (takeS (Src.tapeOf [176] 8) 3) (takeS (Src.tapeOf [176] 8) 3) okU okU A B c d W h1 h2
  rw [sameS_refl, q7] at hs1
  have hs2 := fun A B c d W h1 h2 => qssame_c (Src.tapeOf [176] 8) (takeS (Src.tapeOf [176] 8) 3) ok0 okU A B c d W h1 h2
  rw [q8, q7, show (Src.tapeOf [176] 8).tape = [176] from rfl] at hs2
  have hcz := fun (W : World) (g : Nat) A c (h : Blk W g 27 (srcV (takeS (Src.strm (1 :: List.replicate 31 0) 7) 64) A c)) => (h.cell 36).trans (srcV_at (takeS (Src.strm (1 :: List.replicate 31 0) 7) 64) okZ.sl A c)
  rw [p7] at hcz
  have hLu := okU.sl
  have hLz := okZ.sl
  have hL0 := ok0.sl
  have hLw := okw.sl
  have HZZ := Lib.hid (fun (s : Src) (h : s.seed.length = 32) (A : Option Addr) (c : Nat) => srcV_same Src.zero s rfl h none A 0 c)
  have HBH := Lib.hid (fun (a : Act) (o : Oper) W h => build_one (a := a) (o := o) W h)
  have HBZ := Lib.hid (fun (a : Act) (o : Oper) W h => build_src0 (a := a) (o := o) W h)
  have HZ0 := Lib.hid zero_src
  have HLS9 := Lib.hid (show Src.zero.seed.length = 32 from rfl)
  obtain ⟨Su, hSu⟩ : ∃ S, takeS (Src.tapeOf [176] 8) 3 = S := ⟨_, rfl⟩
  obtain ⟨Sz, hSz⟩ : ∃ S, takeS (Src.strm (1 :: List.replicate 31 0) 7) 64 = S := ⟨_, rfl⟩
  obtain ⟨S0, hS0⟩ : ∃ S, Src.tapeOf [176] 8 = S := ⟨_, rfl⟩
  obtain ⟨Sw, hSw⟩ : ∃ S, Src.strm (1 :: List.replicate 31 0) 7 = S := ⟨_, rfl⟩
  obtain ⟨H1, hH1⟩ : ∃ l : List Int, 1 :: List.replicate 31 0 = l := ⟨_, rfl⟩
  rw [hSu, hS0] at hk1 hs2
  rw [hSu] at hk2 hlu hs1 hLu
  rw [hS0] at hT1 hL0
  rw [hSz] at hcz hLz
  rw [hSz, hSw] at hk4
  rw [hSw] at hk3 hlw hrw hLw
  rw [hSw] at hsm
  rw [hH1] at hsm HBH
  obtain ⟨Z, hZ⟩ : ∃ Z, srcV Src.zero none 0 = Z := ⟨_, rfl⟩
  rw [hZ] at HZ0 HBZ hrz hT2
  have HZ9 := Lib.hid (show srcV Src.zero none 0 = Z from hZ)
  obtain ⟨S9, hS9⟩ : ∃ S, Src.zero = S := ⟨_, rfl⟩
  rw [hS9] at HLS9 HZZ HZ9
  rw [HZ9.out] at HZZ
  rw [← HZ9.out] at hT2
  have HT1 := Lib.hid hT1
  have HT2 := Lib.hid hT2
  have HSM := Lib.hid hsm
  have HK1 := Lib.hid hk1
  have HK2 := Lib.hid hk2
  have HK3 := Lib.hid hk3
  have HK4 := Lib.hid hk4
  have HLu := Lib.hid hlu
  have HLw := Lib.hid hlw
  have HRw := Lib.hid hrw
  have HRz := Lib.hid hrz
  have HS1 := Lib.hid hs1
  have HS2 := Lib.hid hs2
  have HCZ := Lib.hid hcz
  have HLSu := Lib.hid hLu
  have HLSz := Lib.hid hLz
  have HLS0 := Lib.hid hL0
  have HLSw := Lib.hid hLw
  have HKS := Lib.hid hkst
  have F0 := Lib.hid (Fx.bel0 w)
  clear ok0 okw okU okZ q1 q2 q3 q4 q5 q6 q7 q8 p1 p2 p3 p4 p5 p6 p7 p8 hT1 hT2 hsm hk1 hk2 hk3 hk4 hlu hlw hrw hrz hs1 hs2 hcz hLu hLz hL0 hLw hSu hSz hS0 hSw hH1 hZ hS9 hy hkst HZ9
  go_enter Tryd.func7, Tryd.ntmps7
  go_wp2_with (first
    | (go_at_call 17; (with_reducible refine (HT1.out _ _ (Rd.fit (rd_one _ _ _ _))).mono ?_); rintro e w1 ⟨A1, c1, rfl, hrw1, hlw1, hmw1, hbw1⟩; have lc1 := Lib.hid hlw1; have mc1 := Lib.hid hmw1; have F1 := Lib.hid (Fx.addR (Fx.alloc F0.out _) hbw1 hrw1); clear F0; clear hrw1 hbw1 hlw1 hmw1)
    | (with_reducible refine at_any ?_; refine at_dst 1 rfl ?_; refine wpList_alloc_any rfl 27 rfl Z HZ0.out ?_; intro w2 hkw2 hsw2 hbw2; have U3 := Lib.hid (Fx.under_new F1.out rfl); have F2 := Lib.hid (Fx.newB F1.out hkw2.out hbw2); clear F1; clear hkw2 hsw2 hbw2)
    | (with_reducible refine at_any ?_; refine at_store 1 rfl ?_; refine wpList_store_any rfl 27 (.tmp 1) (.tmp 21) rfl w1.heap.size rfl 27 Z (srcV S0 A1 c1) (Fx.b0 F2.out) rfl (HZZ.out S0 HLS0.out _ _) (sizedS S0 HLS0.out _ _) (srcV_ones _ _ _) ?_; intro w4 hkw4 hsw4 hbw4 how4; have F3 := Lib.hid (Fx.put1B F2.out U3.out hkw4.out hsw4.out hbw4 how4); clear F2; clear hkw4 hsw4 hbw4 how4)
    | (with_reducible refine at_any ?_; refine at_dst 24 rfl ?_; refine wpList_load_blk rfl 27 (.tmp 1) rfl w1.heap.size rfl 27 (srcV S0 A1 c1) (Fx.b0 F3.out) _ Tryd.underlying27 rfl (sizedS S0 HLS0.out _ _) ?_)
    | (go_at_call 9; (with_reducible refine (HK1.out A1 c1 _ lc1.out mc1.out (Fx.r1 F3.out) (HKS.out.below (Fx.e2 F3.out))).mono ?_); rintro e w5 ⟨A6, c7, rfl, hrw5, hlw5, hmw5, _, hbw5⟩; have lc7 := Lib.hid hlw5; have mc7 := Lib.hid hmw5; have F4 := Lib.hid (Fx.addR F3.out hbw5 hrw5); clear F3; clear hrw5 hbw5 hlw5 hmw5)
    | (with_reducible refine at_any ?_; refine at_dst 4 rfl ?_; refine wpList_alloc_any rfl 27 rfl Z HZ0.out ?_; intro w8 hkw8 hsw8 hbw8; have U9 := Lib.hid (Fx.under_new F4.out rfl); have F5 := Lib.hid (Fx.newB F4.out hkw8.out hbw8); clear F4; clear hkw8 hsw8 hbw8)
    | (with_reducible refine at_any ?_; refine at_store 4 rfl ?_; refine wpList_store_any rfl 27 (.tmp 4) (.tmp 27) rfl w5.heap.size rfl 27 Z (srcV Su A6 c7) (Fx.b0 F5.out) rfl (HZZ.out Su HLSu.out _ _) (sizedS Su HLSu.out _ _) (srcV_ones _ _ _) ?_; intro w10 hkw10 hsw10 hbw10 how10; have F6 := Lib.hid (Fx.put1B F5.out U9.out hkw10.out hsw10.out hbw10 how10); clear F5; clear hkw10 hsw10 hbw10 how10)
    | (with_reducible refine at_any ?_; refine at_dst 30 rfl ?_; refine wpList_load_blk rfl 27 (.tmp 4) rfl w5.heap.size rfl 27 (srcV Su A6 c7) (Fx.b0 F6.out) _ Tryd.underlying27 rfl (sizedS Su HLSu.out _ _) ?_)
    | (go_at_call 9; (with_reducible refine (HK2.out A6 c7 _ lc7.out mc7.out (Fx.r1 F6.out) (HKS.out.below (Fx.e4 F6.out))).mono ?_); rintro e w11 ⟨A12, c13, rfl, hrw11, hlw11, hmw11, _, hbw11⟩; have lc13 := Lib.hid hlw11; have mc13 := Lib.hid hmw11; have F7 := Lib.hid (Fx.addR F6.out hbw11 hrw11); clear F6; clear hrw11 hbw11 hlw11 hmw11)
    | (with_reducible refine at_any ?_; refine at_dst 7 rfl ?_; refine wpList_alloc_any rfl 27 rfl Z HZ0.out ?_; intro w14 hkw14 hsw14 hbw14; have U15 := Lib.hid (Fx.under_new F7.out rfl); have F8 := Lib.hid (Fx.newB F7.out hkw14.out hbw14); clear F7; clear hkw14 hsw14 hbw14)
    | (with_reducible refine at_any ?_; refine at_store 7 rfl ?_; refine wpList_store_any rfl 27 (.tmp 7) (.tmp 33) rfl w11.heap.size rfl 27 Z (srcV Su A12 c13) (Fx.b0 F8.out) rfl (HZZ.out Su HLSu.out _ _) (sizedS Su HLSu.out _ _) (srcV_ones _ _ _) ?_; intro w16 hkw16 hsw16 hbw16 how16; have F9 := Lib.hid (Fx.put1B F8.out U15.out hkw16.out hsw16.out hbw16 how16); clear F8; clear hkw16 hsw16 hbw16 how16)
    | (go_at_call 17; (with_reducible refine (HT2.out _ _ (Rd.fit (rd_one _ _ _ _))).mono ?_); rintro e w17 ⟨rfl, hbw17⟩; have F10 := Lib.hid (Fx.below (Fx.alloc F9.out _) hbw17); clear F9; clear hbw17)
    | (with_reducible refine at_any ?_; refine at_dst 9 rfl ?_; refine wpList_alloc_any rfl 27 rfl Z HZ0.out ?_; intro w18 hkw18 hsw18 hbw18; have U19 := Lib.hid (Fx.under_new F10.out rfl); have F11 := Lib.hid (Fx.newB F10.out hkw18.out hbw18); clear F10; clear hkw18 hsw18 hbw18)
    | (with_reducible refine at_any ?_; refine at_store 9 rfl ?_; refine wpList_store_any rfl 27 (.tmp 9) (.tmp 38) rfl w17.heap.size rfl 27 Z (srcV S9 none 0) (Fx.b0 F11.out) rfl (HZZ.out S9 HLS9.out _ _) (sizedS S9 HLS9.out _ _) (srcV_ones _ _ _) ?_; intro w20 hkw20 hsw20 hbw20 how20; have F12 := Lib.hid (Fx.put1B F11.out U19.out hkw20.out hsw20.out hbw20 how20); clear F11; clear hkw20 hsw20 hbw20 how20)
    | (with_reducible refine at_any ?_; refine at_dst 40 rfl ?_; refine wpList_val rfl (.agg (intsA .u8 H1)) (HBH.out _ _ _ rfl) ?_)
    | (go_at_call 19; (with_reducible refine (HSM.out _).mono ?_); rintro e w21 ⟨A8, c8, rfl, hmw21, hbw21⟩; have mc8 := Lib.hid hmw21; have lc8 := Lib.hid (Nat.zero_le c8); have F13 := Lib.hid (Fx.below F12.out hbw21); clear F12; clear hbw21 hmw21)
    | (with_reducible refine at_any ?_; refine at_dst 11 rfl ?_; refine wpList_alloc_any rfl 27 rfl Z HZ0.out ?_; intro w22 hkw22 hsw22 hbw22; have U23 := Lib.hid (Fx.under_new F13.out rfl); have F14 := Lib.hid (Fx.newB F13.out hkw22.out hbw22); clear F13; clear hkw22 hsw22 hbw22)
    | (with_reducible refine at_any ?_; refine at_store 11 rfl ?_; refine wpList_store_any rfl 27 (.tmp 11) (.tmp 41) rfl w21.heap.size rfl 27 Z (srcV Sw A8 c8) (Fx.b0 F14.out) rfl (HZZ.out Sw HLSw.out _ _) (sizedS Sw HLSw.out _ _) (srcV_ones _ _ _) ?_; intro w24 hkw24 hsw24 hbw24 how24; have F15 := Lib.hid (Fx.put1B F14.out U23.out hkw24.out hsw24.out hbw24 how24); clear F14; clear hkw24 hsw24 hbw24 how24)
    | (with_reducible refine at_any ?_; refine at_dst 43 rfl ?_; refine wpList_load_blk rfl 27 (.tmp 11) rfl w21.heap.size rfl 27 (srcV Sw A8 c8) (Fx.b0 F15.out) _ Tryd.underlying27 rfl (sizedS Sw HLSw.out _ _) ?_)
    | (go_at_call 9; (with_reducible refine (HK3.out A8 c8 _ lc8.out mc8.out (rd_zero _ _ _) (HKS.out.below (Fx.e8 F15.out))).mono ?_); rintro e w25 ⟨A26, c27, rfl, _, hlw25, hmw25, _, hbw25⟩; have F16 := Lib.hid (Fx.below F15.out hbw25); clear F15; clear hbw25 hlw25 hmw25)
    | (with_reducible refine at_any ?_; refine at_dst 13 rfl ?_; refine wpList_alloc_any rfl 27 rfl Z HZ0.out ?_; intro w28 hkw28 hsw28 hbw28; have U29 := Lib.hid (Fx.under_new F16.out rfl); have F17 := Lib.hid (Fx.newB F16.out hkw28.out hbw28); clear F16; clear hkw28 hsw28 hbw28)
    | (with_reducible refine at_any ?_; refine at_store 13 rfl ?_; refine wpList_store_any rfl 27 (.tmp 13) (.tmp 46) rfl w25.heap.size rfl 27 Z (srcV Sw A26 c27) (Fx.b0 F17.out) rfl (HZZ.out Sw HLSw.out _ _) (sizedS Sw HLSw.out _ _) (srcV_ones _ _ _) ?_; intro w30 hkw30 hsw30 hbw30 how30; have F18 := Lib.hid (Fx.put1B F17.out U29.out hkw30.out hsw30.out hbw30 how30); clear F17; clear hkw30 hsw30 hbw30 how30)
    | (with_reducible refine at_any ?_; refine at_dst 49 rfl ?_; refine wpList_load_blk rfl 27 (.tmp 11) rfl w21.heap.size rfl 27 (srcV Sw A8 c8) (Fx.b1 F18.out) _ Tryd.underlying27 rfl (sizedS Sw HLSw.out _ _) ?_)
    | (go_at_call 9; (with_reducible refine (HK4.out A8 c8 _ lc8.out mc8.out (rd_zero _ _ _) (HKS.out.below (Fx.e9 F18.out))).mono ?_); rintro e w31 ⟨A32, c33, rfl, _, hlw31, hmw31, _, hbw31⟩; have F19 := Lib.hid (Fx.below F18.out hbw31); clear F18; clear hbw31 hlw31 hmw31)
    | (with_reducible refine at_any ?_; refine at_dst 16 rfl ?_; refine wpList_alloc_any rfl 27 rfl Z HZ0.out ?_; intro w34 hkw34 hsw34 hbw34; have U35 := Lib.hid (Fx.under_new F19.out rfl); have F20 := Lib.hid (Fx.newB F19.out hkw34.out hbw34); clear F19; clear hkw34 hsw34 hbw34)
    | (with_reducible refine at_any ?_; refine at_store 16 rfl ?_; refine wpList_store_any rfl 27 (.tmp 16) (.tmp 52) rfl w31.heap.size rfl 27 Z (srcV Sz A32 c33) (Fx.b0 F20.out) rfl (HZZ.out Sz HLSz.out _ _) (sizedS Sz HLSz.out _ _) (srcV_ones _ _ _) ?_; intro w36 hkw36 hsw36 hbw36 how36; have F21 := Lib.hid (Fx.put1B F20.out U35.out hkw36.out hsw36.out hbw36 how36); clear F20; clear hkw36 hsw36 hbw36 how36)
    | (with_reducible refine at_any ?_; refine at_dst 81 rfl ?_; refine wpList_load_gdb (by kernel_rfl) 27 (.tmp 4) rfl w5.heap.size rfl 27 (srcV Su A6 c7) (Fx.b6 F21.out) _ Tryd.underlying27 rfl (sizedS Su HLSu.out _ _) ?_)
    | (go_at_call 14; (with_reducible refine (HLu.out A6 c7 _).mono ?_); rintro e w37 ⟨rfl, hbw37⟩; have F22 := Lib.hid (Fx.below F21.out hbw37); clear F21; clear hbw37)
    | (with_reducible refine at_any ?_; refine at_dst 86 rfl ?_; refine wpList_load_gdb (by kernel_rfl) 27 (.tmp 4) rfl w5.heap.size rfl 27 (srcV Su A6 c7) (Fx.b6 F22.out) _ Tryd.underlying27 rfl (sizedS Su HLSu.out _ _) ?_)
    | (with_reducible refine at_any ?_; refine at_dst 87 rfl ?_; refine wpList_load_gdb (by kernel_rfl) 27 (.tmp 7) rfl w11.heap.size rfl 27 (srcV Su A12 c13) (Fx.b4 F22.out) _ Tryd.underlying27 rfl (sizedS Su HLSu.out _ _) ?_)
    | (go_at_call 16; (with_reducible refine (HS1.out A6 A12 c7 c13 _ (Fx.r7 F22.out) (Fx.r5 F22.out)).mono ?_); rintro e w38 ⟨rfl, hbw38⟩; have F23 := Lib.hid (Fx.below F22.out hbw38); clear F22; clear hbw38)
    | (with_reducible refine at_any ?_; refine at_dst 91 rfl ?_; refine wpList_load_gdb (by kernel_rfl) 27 (.tmp 1) rfl w1.heap.size rfl 27 (srcV S0 A1 c1) (Fx.b8 F23.out) _ Tryd.underlying27 rfl (sizedS S0 HLS0.out _ _) ?_)
    | (with_reducible refine at_any ?_; refine at_dst 92 rfl ?_; refine wpList_load_gdb (by kernel_rfl) 27 (.tmp 4) rfl w5.heap.size rfl 27 (srcV Su A6 c7) (Fx.b6 F23.out) _ Tryd.underlying27 rfl (sizedS Su HLSu.out _ _) ?_)
    | (go_at_call 16; (with_reducible refine (HS2.out A1 A6 c1 c7 _ (Fx.r9 F23.out) (Fx.r7 F23.out)).mono ?_); rintro e w39 ⟨rfl, hbw39⟩; have F24 := Lib.hid (Fx.below F23.out hbw39); clear F23; clear hbw39; have cz := HCZ.out _ _ A32 c33 (Fx.b0 F24.out))
    | (with_reducible refine at_any ?_; refine at_dst 102 rfl ?_; refine wpList_load_gdb (by kernel_rfl) 27 (.tmp 11) rfl w21.heap.size rfl 27 (srcV Sw A8 c8) (Fx.b2 F24.out) _ Tryd.underlying27 rfl (sizedS Sw HLSw.out _ _) ?_)
    | (go_at_call 14; (with_reducible refine (HLw.out A8 c8 _).mono ?_); rintro e w40 ⟨rfl, hbw40⟩; have F25 := Lib.hid (Fx.below F24.out hbw40); clear F24; clear hbw40)
    | (with_reducible refine at_any ?_; refine at_dst 107 rfl ?_; refine wpList_load_gdb (by kernel_rfl) 27 (.tmp 11) rfl w21.heap.size rfl 27 (srcV Sw A8 c8) (Fx.b2 F25.out) _ Tryd.underlying27 rfl (sizedS Sw HLSw.out _ _) ?_)
    | (go_at_call 12; (with_reducible refine (HRw.out A8 c8 _).mono ?_); rintro e w41 ⟨rfl, hbw41⟩; have F26 := Lib.hid (Fx.below F25.out hbw41); clear F25; clear hbw41)
    | (with_reducible refine at_any ?_; refine at_dst 111 rfl ?_; refine wpList_val_gd (by kernel_rfl) (.agg Z) (HBZ.out _ _ _ rfl) ?_)
    | (go_at_call 12; (with_reducible refine (HRz.out _).mono ?_); rintro e w42 ⟨rfl, hbw42⟩; have F27 := Lib.hid (Fx.below F26.out hbw42); clear F26; clear hbw42))
  go_ret
  exact ⟨rfl, (Fx.e10 F27.out)⟩
end Go.Proofs.YtabfgkokilghcaaDoor
/-
  A law's argument that is a slice of integers, opened.
  Conditions: the element's type is an integer type of one cell.
-/
set_option maxRecDepth 100000
namespace Go.Proofs.YtabfgkokilghcaaDoor
open Go.ChangeShapes Go.WideShapes Go.ChangeAt Go.RowKit
theorem open_rd {H : Type} {enc : TypeId × Value → H} {P : Program} {w : World} {base : Nat} {spare : Nat → Bool} {held : Bool} {t e : TypeId} {k : IntKind} {a : Option Addr} {len cap : Nat} {d : DataW H} {p : List MemPlace}
    (ht : P.underlying t = some (.slice e)) (he : P.underlying e = some (.int k)) (hc : P.cellsOf e = 1) (h : DataW.Trod enc P w base spare held t (.slice a len cap) d p) :
    ∃ zs : List Int, Rd k w w.heap.size a len zs ∧ len ≤ cap ∧ cap ≤ maxLen ∧ ∀ z ∈ zs, (Lit.int k z).wf = true := by
  obtain ⟨fuel, hf⟩ := h
  rcases open_ints ht he hc hf with ⟨hcs, _⟩ | ⟨x, l, c, zs, hcs, _, hl, hm, hz, _, hcell, hwz⟩
  · simp [Value.cells] at hcs
    obtain ⟨rfl, rfl, rfl⟩ := hcs
    exact ⟨[], Rd.none_, Nat.le_refl _, by simp [maxLen], fun _ h => by cases h⟩
  · simp [Value.cells] at hcs
    obtain ⟨rfl, rfl, rfl⟩ := hcs
    refine ⟨zs.take len, ⟨?_, fun hn => ?_⟩, hl, hm, fun z hz' => hwz z (List.mem_of_mem_take hz')⟩
    · have : len ≤ zs.length := by rw [hz]; split <;> omega
      rw [List.length_take]; omega
    · have hlen : len ≤ zs.length := by rw [hz]; split <;> omega
      obtain ⟨b, off, spot⟩ := x
      have h0 := hcell 0 (by omega)
      have hspot : spot = none := by simpa [Addr.add] using World.cell?_spot h0
      subst hspot
      have h1 : w.cell? ⟨b, off, none⟩ = some (.int k (zs.getD 0 0)) := by simpa [Addr.add] using h0
      refine ⟨b, off, rfl, World.block_lt_of_cell? w _ h1, fun j hj => ?_⟩
      have h2 := hcell j (by omega)
      rw [add_flat] at h2
      rw [h2]
      congr 2
      simp only [List.getD_eq_getElem?_getD, List.getElem?_take]
      rw [if_pos hj]
end Go.Proofs.YtabfgkokilghcaaDoor
/-
  A law's arguments, opened: a slice of slices of bytes; the cells of an array.
  Conditions: those that each theorem names.
-/
set_option maxRecDepth 100000
set_option linter.unusedVariables false
set_option linter.unusedSimpArgs false
namespace Go.Proofs.YtabfgkokilghcaaDoor
open Go.ChangeShapes Go.WideShapes Go.ChangeAt Go.RowKit
theorem rd_of_cells {k : IntKind} {w : World} {A : Option Addr} {L C : Nat} {Z : List Int} (hl : L ≤ C) (hz : Z.length = C) (h0 : A = none → C = 0) (hc : ∀ a', A = some a' → ∀ c, c < C → w.cell? (a'.add c) = some (.int k (Z.getD c 0))) : Rd k w w.heap.size A L (Z.take L) := by
  refine ⟨by rw [List.length_take]; omega, fun hn => ?_⟩
  rcases A with _ | ⟨b, off, spot⟩
  · have := h0 rfl; omega
  · have h1 := hc _ rfl 0 (by omega)
    have hspot : spot = none := by simpa [Addr.add] using World.cell?_spot h1
    subst hspot
    have h2 : w.cell? ⟨b, off, none⟩ = some (.int k (Z.getD 0 0)) := by simpa [Addr.add] using h1
    refine ⟨b, off, rfl, World.block_lt_of_cell? w _ h2, fun j hj => ?_⟩
    have h3 := hc _ rfl j (by omega)
    rw [add_flat] at h3
    rw [h3]
    congr 2
    simp only [List.getD_eq_getElem?_getD, List.getElem?_take]
    rw [if_pos hj]
theorem open_rows {H : Type} {enc : TypeId × Value → H} {P : Program} {w : World} {base : Nat} {held : Bool} {t e q : TypeId} {a : Option Addr} {len cap : Nat} {d : DataW H} {p : List MemPlace}
    (ht : P.underlying t = some (.slice e)) (he : P.underlying e = some (.slice q)) (hq : P.underlying q = some (.int .u8)) (ce : P.cellsOf e = 1) (cq : P.cellsOf q = 1) (h : DataW.Trod enc P w base (fun _ => true) held t (.slice a len cap) d p) :
    ∃ rs : List Row, RdRows w w.heap.size a len rs ∧ len ≤ cap ∧ cap ≤ maxLen ∧ ∀ r ∈ rs, r.n ≤ maxLen ∧ r.zs.length = r.n ∧ ∀ z ∈ r.zs, (Lit.int .u8 z).wf = true := by
  obtain ⟨fuel, hf⟩ := h
  rcases Go.Deep.open_int_rows ht he hq ce cq hf with ⟨hcs, _⟩ | ⟨x, l, c, A, L, C, Z, hcs, _, hl, hm, _, hr⟩
  · simp [Value.cells] at hcs
    obtain ⟨rfl, rfl, rfl⟩ := hcs
    exact ⟨[], ⟨rfl, fun h => absurd h (by omega), fun _ h => by cases h⟩, Nat.le_refl _, by simp [maxLen], fun _ h => by cases h⟩
  · simp [Value.cells] at hcs
    obtain ⟨rfl, rfl, rfl⟩ := hcs
    have hrd : ∀ r, r < len → Rd .u8 w w.heap.size (A r) (L r) ((Z r).take (L r)) := fun r h => by
      obtain ⟨_, h1, _, h3, _, h5, h6⟩ := hr r (by omega)
      exact rd_of_cells h1 h3 h5 (fun a' e' => (h6 a' e').2)
    refine ⟨(List.range len).map fun r => ⟨A r, L r, C r, (Z r).take (L r)⟩, ⟨by simp, fun hn => ?_, fun r hr' => ?_⟩, hl, hm, fun r hr' => ?_⟩
    · obtain ⟨b, off, spot⟩ := x
      have h0 := (hr 0 (by omega)).1
      have hspot : spot = none := by simpa [Addr.add] using World.cell?_spot h0
      subst hspot
      have h1 : w.cell? ⟨b, off, none⟩ = some (.slice (A 0) (L 0) (C 0)) := by simpa [Addr.add] using h0
      refine ⟨b, off, rfl, World.block_lt_of_cell? w _ h1, fun j r hj => ?_⟩
      rw [List.getElem?_map] at hj
      have hjl : j < len := by
        rcases Nat.lt_or_ge j len with h2 | h2
        · exact h2
        · rw [List.getElem?_eq_none (by simpa using h2)] at hj; cases hj
      rw [List.getElem?_range hjl] at hj
      injection hj with hj
      subst hj
      have h2 := (hr j (by omega)).1
      rw [add_flat] at h2
      exact h2
    · obtain ⟨i, hi, rfl⟩ := List.mem_map.1 hr'
      have hi' := List.mem_range.1 hi
      exact ⟨hrd i hi', (hr i (by omega)).2.1⟩
    · obtain ⟨i, hi, rfl⟩ := List.mem_map.1 hr'
      have hi' := List.mem_range.1 hi
      obtain ⟨_, h1, h2, h3, h4, _⟩ := hr i (by omega)
      exact ⟨by dsimp only; omega, (hrd i hi').1, fun z hz => h4 z (List.mem_of_mem_take hz)⟩
section
variable {H : Type} {enc : TypeId × Value → H} {P : Program} {w : World} {base : Nat} {spare : Nat → Bool} {held : Bool}
/-- The cells of an array of integers. -/
theorem trod_ints {fuel n : Nat} {t e : TypeId} {q : IntKind} {cs : List Value} {x : DataW H × List MemPlace} (ht : P.underlying t = some (.array n e)) (he : P.underlying e = some (.int q)) (hc : P.cellsOf e = 1) (hC : P.cellsOf t = n)
    (hf : DataW.trod enc P w base spare held fuel t cs = some x) : ∃ zs : List Int, zs.length = n ∧ cs = zs.map (Value.int q) ∧ ∀ z ∈ zs, (Lit.int q z).wf = true := by
  obtain ⟨xs, m, _, hx, hl, hxl, hat⟩ := DataW.trod_array ht hf
  rw [hC] at hl
  rw [hc] at hat
  have hz : ∀ i (hi : i < n), ∃ z : Int, cs[i]? = some (.int q z) ∧ (Lit.int q z).wf = true := by
    intro i hi
    have h1 := hat i hi
    have e1 : List.take 1 (List.drop (i * 1) cs) = [cs[i]'(by omega)] := by
      rw [Nat.mul_one, List.drop_eq_getElem_cons (show i < cs.length by omega), List.take_succ_cons, List.take_zero]
    rw [e1] at h1
    have hxi : xs[i]? = some (xs[i]'(by omega)) := List.getElem?_eq_getElem (by omega)
    rw [hxi] at h1
    obtain ⟨a, ea, _, wa⟩ := DataW.trod_int he h1
    refine ⟨a, ?_, wa⟩
    rw [List.getElem?_eq_getElem (by omega)]
    simpa using ea
  obtain ⟨zs, hzl, hzs⟩ := list_of n hz
  refine ⟨zs, hzl, ?_, ?_⟩
  · apply List.ext_getElem?
    intro i
    by_cases hi : i < n
    · obtain ⟨z, e1, e2, _⟩ := hzs i hi
      rw [e2, List.getElem?_map, e1]
      rfl
    · rw [List.getElem?_eq_none (by omega), List.getElem?_eq_none (by simp; omega)]
  · intro z hz'
    obtain ⟨i, hi, e⟩ := List.mem_iff_getElem.1 hz'
    obtain ⟨z', e1, _, e4⟩ := hzs i (by omega)
    rw [List.getElem?_eq_getElem hi, e] at e1
    injection e1 with e1
    rw [e1]
    exact e4
end
end Go.Proofs.YtabfgkokilghcaaDoor
/-
  A law's argument that is a source, opened.
  Conditions: those that the theorem names.
-/
set_option maxRecDepth 100000
set_option linter.unusedVariables false
set_option linter.unusedSimpArgs false
namespace Go.Proofs.YtabfgkokilghcaaDoor
open Go.ChangeShapes Go.WideShapes Go.ChangeAt Go.RowKit
theorem Src.ok_mk {kd bt dm at_ : Int} {zs sd : List Int} (k0 : -9223372036854775808 ≤ kd) (k1 : kd < 9223372036854775808) (ti : ∀ z ∈ zs, 0 ≤ z ∧ z < 256) (b0 : 0 ≤ bt) (b1 : bt < 18446744073709551616) (sl : sd.length = 32) (si : ∀ z ∈ sd, 0 ≤ z ∧ z < 256) (d0 : 0 ≤ dm) (d1 : dm < 18446744073709551616) (a0 : 0 ≤ at_) (a1 : at_ < 18446744073709551616) :
    (⟨kd, zs, bt, sd, dm, at_⟩ : Src).tape.length ≤ 140737488355328 → (⟨kd, zs, bt, sd, dm, at_⟩ : Src).Ok := fun tl => ⟨k0, k1, tl, ti, b0, b1, sl, si, d0, d1, a0, a1⟩
set_option maxHeartbeats 1000000 in
theorem open_src {H : Type} {enc : TypeId × Value → H} {w : World} {base b0 : Nat} {spare : Nat → Bool} {held : Bool} {r : Reach} {v : Value} {d : DataW H} {p : List MemPlace}
    (hv : Value.okWide Tryd.prog w r b0 27 v) (h : DataW.Trod enc Tryd.prog w base spare held 27 v d p) :
    ∃ (s : Src) (A : Option Addr) (c : Nat), v = .agg (srcV s A c) ∧ (s.tape.length ≤ 140737488355328 → s.Ok) ∧ Rd .u8 w w.heap.size A s.tape.length s.tape ∧ s.tape.length ≤ c ∧ c ≤ maxLen ∧ s.seed.length = 32 := by
  have hv' : ∃ cs : Array Value, v = .agg cs := by
    simp only [Value.okWide, Tryd.underlying27] at hv
    obtain ⟨cs, h1, _⟩ := hv
    exact ⟨cs, h1⟩
  obtain ⟨cs, rfl⟩ := hv'
  obtain ⟨fuel, hf⟩ := h
  obtain ⟨xs, m, _, _, hl, hxl, hat⟩ := DataW.trod_struct Tryd.underlying27 hf
  have hC : Tryd.prog.cellsOf 27 = 37 := by kernel_rfl
  rw [hC] at hl
  obtain ⟨ls, hls⟩ : ∃ ls, (Value.cells (.agg cs)).toList = ls := ⟨_, rfl⟩
  have hcs : cs = ls.toArray := by rw [← hls]; rfl
  rw [hls] at hl hat
  have ci : Tryd.prog.cellsOf 3 = 1 := by kernel_rfl
  have cl : Tryd.prog.cellsOf 22 = 1 := by kernel_rfl
  have cu : Tryd.prog.cellsOf 23 = 1 := by kernel_rfl
  have ch : Tryd.prog.cellsOf 25 = 32 := by kernel_rfl
  have g0 := hat 0 _ rfl
  have g1 := hat 1 _ rfl
  have g2 := hat 2 _ rfl
  have g3 := hat 3 _ rfl
  have g4 := hat 4 _ rfl
  have g5 := hat 5 _ rfl
  change DataW.trod enc Tryd.prog w base spare held m 3 (List.take (Tryd.prog.cellsOf 3) (List.drop 0 ls)) = xs[0]? at g0
  change DataW.trod enc Tryd.prog w base spare held m 22 (List.take (Tryd.prog.cellsOf 22) (List.drop 1 ls)) = xs[1]? at g1
  change DataW.trod enc Tryd.prog w base spare held m 23 (List.take (Tryd.prog.cellsOf 23) (List.drop 2 ls)) = xs[2]? at g2
  change DataW.trod enc Tryd.prog w base spare held m 25 (List.take (Tryd.prog.cellsOf 25) (List.drop 3 ls)) = xs[3]? at g3
  change DataW.trod enc Tryd.prog w base spare held m 23 (List.take (Tryd.prog.cellsOf 23) (List.drop 35 ls)) = xs[4]? at g4
  change DataW.trod enc Tryd.prog w base spare held m 23 (List.take (Tryd.prog.cellsOf 23) (List.drop 36 ls)) = xs[5]? at g5
  have hx6 : xs.length = 6 := hxl
  rw [ci, List.drop_zero, List.getElem?_eq_getElem (show 0 < xs.length by omega)] at g0
  rw [cl, List.getElem?_eq_getElem (show 1 < xs.length by omega)] at g1
  rw [cu, List.getElem?_eq_getElem (show 2 < xs.length by omega)] at g2
  rw [ch, List.getElem?_eq_getElem (show 3 < xs.length by omega)] at g3
  rw [cu, List.getElem?_eq_getElem (show 4 < xs.length by omega)] at g4
  rw [cu, List.getElem?_eq_getElem (show 5 < xs.length by omega)] at g5
  have one : ∀ i, i < 37 → List.take 1 (List.drop i ls) = [ls.getD i undef] := fun i hi => by
    rw [List.drop_eq_getElem_cons (show i < ls.length by omega), List.take_succ_cons, List.take_zero, List.getD_eq_getElem?_getD, List.getElem?_eq_getElem (show i < ls.length by omega), Option.getD_some]
  have g0' : DataW.trod enc Tryd.prog w base spare held m 3 [ls.getD 0 undef] = some (xs[0]'(by omega)) := by rw [← one 0 (by omega), List.drop_zero]; exact g0
  rw [one 1 (by omega)] at g1
  rw [one 2 (by omega)] at g2
  rw [one 35 (by omega)] at g4
  rw [one 36 (by omega)] at g5
  obtain ⟨kd, hk, _, wk⟩ := DataW.trod_int Tryd.underlying3 g0'
  obtain ⟨bt, hb, _, wb⟩ := DataW.trod_int Tryd.underlying23 g2
  obtain ⟨dm, hd, _, wd⟩ := DataW.trod_int Tryd.underlying23 g4
  obtain ⟨at_, ha, _, wa⟩ := DataW.trod_int Tryd.underlying23 g5
  injection hk with hk _
  injection hb with hb _
  injection hd with hd _
  injection ha with ha _
  obtain ⟨sd, hsl, hs, hsw⟩ := trod_ints Tryd.underlying25 Tryd.underlying5 (by kernel_rfl) (by kernel_rfl) g3
  have hsplit : ls = [ls.getD 0 undef, ls.getD 1 undef, ls.getD 2 undef] ++ (List.take 32 (List.drop 3 ls) ++ [ls.getD 35 undef, ls.getD 36 undef]) := by
    have e1 : ls = ls.take 3 ++ ls.drop 3 := (List.take_append_drop 3 ls).symm
    have e2 : ls.drop 3 = (ls.drop 3).take 32 ++ (ls.drop 3).drop 32 := (List.take_append_drop 32 _).symm
    have e3 : ls.take 3 = [ls.getD 0 undef, ls.getD 1 undef, ls.getD 2 undef] := by
      match ls, hl with
      | a :: b :: c :: l, _ => rfl
    have e4 : (ls.drop 3).drop 32 = [ls.getD 35 undef, ls.getD 36 undef] := by
      rw [List.drop_drop, List.drop_eq_getElem_cons (show 3 + 32 < ls.length by omega), List.drop_eq_getElem_cons (show 3 + 32 + 1 < ls.length by omega), List.drop_eq_nil_of_le (by omega)]
      simp [List.getD_eq_getElem?_getD, List.getElem?_eq_getElem (show 35 < ls.length by omega), List.getElem?_eq_getElem (show 36 < ls.length by omega)]
    conv => lhs; rw [e1, e2, e3, e4]
  have bk := bounds_i64 wk
  have bb := bounds_u64 wb
  have bd := bounds_u64 wd
  have ba := bounds_u64 wa
  rcases open_ints Tryd.underlying22 Tryd.underlying5 (by kernel_rfl) g1 with ⟨hcs1, _⟩ | ⟨x, l, c, zs, hcs1, _, hl1, hm1, hz1, _, hcell, hwz⟩
  · injection hcs1 with hcs1 _
    refine ⟨⟨kd, [], bt, sd, dm, at_⟩, none, 0, ?_, Src.ok_mk (by omega) (by omega) (fun _ h => (by cases h)) (by omega) (by omega) hsl (u8b hsw) (by omega) (by omega) (by omega) (by omega), Rd.none_, Nat.le_refl _, by simp [maxLen], hsl⟩
    rw [hcs, hsplit, hs, hk, hcs1, hb, hd, ha]
    rfl
  · injection hcs1 with hcs1 _
    have hlz : l ≤ zs.length := by rw [hz1]; split <;> omega
    have htl : (zs.take l).length = l := by rw [List.length_take]; omega
    refine ⟨⟨kd, zs.take l, bt, sd, dm, at_⟩, some x, c, ?_, Src.ok_mk (by omega) (by omega) (fun z hz => u8b hwz z (List.mem_of_mem_take hz)) (by omega) (by omega) hsl (u8b hsw) (by omega) (by omega) (by omega) (by omega), ?_, by rw [htl]; exact hl1, hm1, hsl⟩
    · rw [hcs, hsplit, hs, hk, hcs1, hb, hd, ha]
      unfold srcV
      rw [htl]
    · rw [htl]
      exact rd_of_cells hlz rfl (fun h => by cases h) (fun a' e' c' hc' => by injection e' with e'; subst e'; exact hcell c' hc')
end Go.Proofs.YtabfgkokilghcaaDoor

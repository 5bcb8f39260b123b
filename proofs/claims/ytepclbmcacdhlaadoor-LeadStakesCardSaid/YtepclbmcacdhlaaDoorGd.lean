/-
  Texts of this claim, joined: TapA, UniA, ShlB, FenK, FenC, FenD, FenE, FenT, FenG, SafA, FenH, FenI, FenF, FenJ, FenA, LedA, LawR, OpenA, OpenC, SrcO, CntP, LedP, RefNd. What each shows, and its conditions, stand at its own head.
-/
import Derived.Test.YtepclbmcacdhlaaDoorGc
import Derived.Test.YtepclbmcacdhlaaDoorRows
import Derived.Shelf.Strconv.Itoa0
import Derived.Shelf.Small.Bits
import Derived.Shelf.Spec.TrailingZeros
import Derived.Shelf.Spec.SlicesGrow
import Derived.Lib.SliceRun
import Derived.Laws.Externs
import Derived.Lib.Mul64
import Derived.ShutString
import Derived.ChangeOld
import Derived.Deep.Matrix
/-
  What the landed tape's calls return (Right, Left, Take, Tape, Stream, Same), and that memory is left as it was.
  Conditions: the arguments lie in their types' ranges; the table of constants holds what the text lays.
-/
set_option maxRecDepth 100000
set_option linter.unusedSimpArgs false
namespace Go.Proofs.YtepclbmcacdhlaaDoor
open Go.ChangeShapes Go.WideShapes Go.ChangeAt Go.RowKit
set_option linter.unusedVariables false
theorem qhas_c (L : Nat) (b : Int) (tl : L ≤ 140737488355328) (A : Option Addr) (c : Nat) (w : World) : Calls Tryd.prog 36 #[.slice A L c, .int .u64 b] w fun e w' => e = .returned (.bool (decide (b ≤ 8 * (L : Int)))) ∧ w = w' := by
  have e1 : IntKind.u64.wrap ((L : Int) * 8) = L * 8 := by rw [IntKind.wrap_u64]; omega
  rw [Int.mul_comm 8]
  by_cases h1 : b ≤ (L : Int) * 8
  all_goals
    first | rw [decide_eq_true h1] | rw [decide_eq_false h1]
    go_enter Tryd.func36, Tryd.ntmps36
    go_wp2
    go_ret
    exact ⟨rfl, rfl⟩
set_option maxHeartbeats 4000000 in
theorem qsright_c (s : Src) (ok : s.Ok) (A : Option Addr) (c : Nat) (w : World) : Calls Tryd.prog 27 #[.agg (srcV s A c)] w fun e w' => e = .returned (.bool (rightS s)) ∧ Below w.heap.size w w' := by
  have HC := Lib.hid (fun (W : World) (g : Nat) (h : Blk W g 34 (srcV s A c)) => And.intro ((h.cell 0).trans (srcV_kind s A c)) (And.intro ((h.cell 1).trans (srcV_tape s A c)) (And.intro ((h.cell 2).trans (srcV_bits s A c)) ((h.cell 36).trans (srcV_at s ok.sl A c)))))
  have k0 := ok.k0
  have k1 := ok.k1
  have tl := ok.tl
  have b0 := ok.b0
  have b1 := ok.b1
  have a0 := ok.a0
  have a1 := ok.a1
  have hR : rightS s = if s.kind = 1 then decide (s.bits ≤ 8 * (s.tape.length : Int)) && decide (s.at_ ≤ s.bits) else decide (s.kind = 2) && decide (s.at_ ≤ 4611686018427387904) := rfl
  obtain ⟨V, hV⟩ : ∃ V, srcV s A c = V := ⟨_, rfl⟩
  obtain ⟨kd, hkd⟩ : ∃ x, s.kind = x := ⟨_, rfl⟩
  obtain ⟨L, hL⟩ : ∃ x, s.tape.length = x := ⟨_, rfl⟩
  obtain ⟨bt, hbt⟩ : ∃ x, s.bits = x := ⟨_, rfl⟩
  obtain ⟨at_, hat⟩ : ∃ x, s.at_ = x := ⟨_, rfl⟩
  rw [hV, hkd, hL, hbt, hat] at HC
  rw [hkd, hL, hbt, hat] at hR
  rw [hkd] at k0 k1
  rw [hL] at tl
  rw [hbt] at b0 b1
  rw [hat] at a0 a1
  rw [hV, hR]
  clear hV hkd hL hbt hat hR ok
  have HH := Lib.hid (fun W => qhas_c L bt tl A c W)
  by_cases hk : kd = 1
  · rw [if_pos hk]
    subst hk
    by_cases h1 : bt ≤ 8 * (L : Int)
    all_goals
      first | rw [decide_eq_true h1] at HH ⊢ | rw [decide_eq_false h1] at HH ⊢
      first | rw [Bool.true_and] | rw [Bool.false_and]
      go_enter Tryd.func27, Tryd.ntmps27
      go_wp2_with (first
        | (with_reducible refine at_any ?_; refine at_dst 1 rfl ?_; refine wpList_box_any rfl 34 (.tmp 0) rfl V rfl ?_; intro w1 hk1 hs1 hb1; have c0 := (HC.out _ _ hk1.out).1; have c1 := (HC.out _ _ hk1.out).2.1; have c2 := (HC.out _ _ hk1.out).2.2.1; have c3 := (HC.out _ _ hk1.out).2.2.2)
        | (go_at_call 36; (with_reducible refine (HH.out _).mono ?_); rintro e _ ⟨rfl, rfl⟩))
      go_ret
      exact ⟨rfl, hb1⟩
  · rw [if_neg hk]
    have t1 : (kd == 1) = false := by rw [beq_eq_false_iff_ne]; exact hk
    by_cases h1 : kd = 2
    all_goals
      first | rw [decide_eq_true h1] | rw [decide_eq_false h1]
      first | rw [Bool.true_and] | rw [Bool.false_and]
      first | subst h1 | (have t2 : (kd == 2) = false := by rw [beq_eq_false_iff_ne]; exact h1)
      go_enter Tryd.func27, Tryd.ntmps27
      go_wp2_with (with_reducible refine at_any ?_; refine at_dst 1 rfl ?_; refine wpList_box_any rfl 34 (.tmp 0) rfl V rfl ?_; intro w1 hk1 hs1 hb1; have c0 := (HC.out _ _ hk1.out).1; have c1 := (HC.out _ _ hk1.out).2.1; have c2 := (HC.out _ _ hk1.out).2.2.1; have c3 := (HC.out _ _ hk1.out).2.2.2)
      go_ret
      exact ⟨rfl, hb1⟩
set_option maxHeartbeats 4000000 in
theorem qsleft_c (s : Src) (ok : s.Ok) (A : Option Addr) (c : Nat) (w : World) : Calls Tryd.prog 38 #[.agg (srcV s A c)] w fun e w' => e = .returned (.int .u64 (leftS s)) ∧ Below w.heap.size w w' := by
  have HC := Lib.hid (fun (W : World) (g : Nat) (h : Blk W g 34 (srcV s A c)) => And.intro ((h.cell 0).trans (srcV_kind s A c)) (And.intro ((h.cell 2).trans (srcV_bits s A c)) ((h.cell 36).trans (srcV_at s ok.sl A c))))
  have HRT := Lib.hid (fun W => qsright_c s ok A c W)
  have SV := Lib.hid (sizedS s ok.sl A c)
  have k0 := ok.k0
  have k1 := ok.k1
  have b0 := ok.b0
  have b1 := ok.b1
  have a0 := ok.a0
  have a1 := ok.a1
  have hl := left_le ok
  have hL : leftS s = if rightS s = true then (if s.kind = 1 then s.bits - s.at_ else 4611686018427387904 - s.at_) else 0 := rfl
  obtain ⟨V, hV⟩ : ∃ V, srcV s A c = V := ⟨_, rfl⟩
  obtain ⟨kd, hkd⟩ : ∃ x, s.kind = x := ⟨_, rfl⟩
  obtain ⟨bt, hbt⟩ : ∃ x, s.bits = x := ⟨_, rfl⟩
  obtain ⟨at_, hat⟩ : ∃ x, s.at_ = x := ⟨_, rfl⟩
  obtain ⟨r, hr⟩ : ∃ x, rightS s = x := ⟨_, rfl⟩
  rw [hV, hkd, hbt, hat] at HC
  rw [hV, hr] at HRT
  rw [hV] at SV
  rw [hkd, hbt, hat, hr] at hL
  rw [hkd] at k0 k1
  rw [hbt] at b0 b1
  rw [hat] at a0 a1
  rw [hV]
  rw [hL] at hl
  rw [hL]
  clear hV hkd hbt hat hr hL ok
  cases r
  · rw [if_neg (by decide)]
    go_enter Tryd.func38, Tryd.ntmps38
    go_wp2_with (first
      | (with_reducible refine at_any ?_; refine at_dst 1 rfl ?_; refine wpList_box_any rfl 34 (.tmp 0) rfl V rfl ?_; intro w1 hk1 hs1 hb1)
      | (with_reducible refine at_any ?_; refine at_dst 3 rfl ?_; refine wpList_load_blk rfl 34 (.tmp 1) rfl w.heap.size rfl 34 V hk1.out _ Tryd.underlying34 rfl SV.out ?_)
      | (go_at_call 27; (with_reducible refine (HRT.out _).mono ?_); rintro e w2 ⟨rfl, hb2⟩))
    go_ret
    exact ⟨rfl, hb1.trans (hb2.mono hb1.size)⟩
  · rw [if_pos rfl] at hl ⊢
    by_cases hk : kd = 1
    all_goals
      first | rw [if_pos hk] at hl ⊢ | rw [if_neg hk] at hl ⊢
      first | subst hk | (have t1 : (kd == 1) = false := by rw [beq_eq_false_iff_ne]; exact hk)
      first | (have e1 : IntKind.u64.wrap (bt - at_) = bt - at_ := by rw [IntKind.wrap_u64]; omega) | (have e2 : IntKind.u64.wrap (4611686018427387904 - at_) = 4611686018427387904 - at_ := by rw [IntKind.wrap_u64]; omega)
      go_enter Tryd.func38, Tryd.ntmps38
      go_wp2_with (first
        | (with_reducible refine at_any ?_; refine at_dst 1 rfl ?_; refine wpList_box_any rfl 34 (.tmp 0) rfl V rfl ?_; intro w1 hk1 hs1 hb1)
        | (with_reducible refine at_any ?_; refine at_dst 3 rfl ?_; refine wpList_load_blk rfl 34 (.tmp 1) rfl w.heap.size rfl 34 V hk1.out _ Tryd.underlying34 rfl SV.out ?_)
        | (go_at_call 27; (with_reducible refine (HRT.out _).mono ?_); rintro e w2 ⟨rfl, hb2⟩; have k2 := hk1.out.below hb2 hk1.out.lt; have c0 := (HC.out _ _ k2).1; have c2 := (HC.out _ _ k2).2.1; have c3 := (HC.out _ _ k2).2.2))
      go_ret
      exact ⟨rfl, hb1.trans (hb2.mono hb1.size)⟩
set_option maxHeartbeats 4000000 in
theorem qstake_c (s : Src) (ok : s.Ok) (k : Int) (k0 : -9223372036854775808 ≤ k) (k1 : k < 9223372036854775808) (A : Option Addr) (c : Nat) (hc : s.tape.length ≤ c) (hcm : c ≤ maxLen) (w : World) (hrd : Rd .u8 w w.heap.size A s.tape.length s.tape) (hkst : Kst w) : Calls Tryd.prog 30 #[.agg (srcV s A c), .int .i64 k] w (RetTake w s k A) := by
  have HRT := Lib.hid (fun W => qsright_c s ok A c W)
  have HLT := Lib.hid (fun W => qsleft_c s ok A c W)
  have hll := left_le ok
  have SV := Lib.hid (sizedS s ok.sl A c)
  have OV := Lib.hid (srcV_ones s A c)
  have ZV := Lib.hid (srcV_same Src.zero s rfl ok.sl none A 0 c)
  have HZ0 := Lib.hid zero_src
  obtain ⟨Z, hZ⟩ : ∃ Z, srcV Src.zero none 0 = Z := ⟨_, rfl⟩
  rw [hZ] at ZV HZ0
  have hRd := Lib.hid hrd
  have HKS := Lib.hid hkst
  by_cases hbad : ¬ (rightS s = true ∧ 0 ≤ k ∧ k ≤ 64)
  · have hE : takeE s k = 1 := by unfold takeE; rw [if_neg hbad]
    have HEND : Hid (∀ w', Below w.heap.size w w' → RetTake w s k A (.returned (.tuple #[.int .u64 0, .agg (srcV s A c), .int .i64 1])) w') := Lib.hid (fun w' hb => ⟨A, c, by unfold takeV takeS; rw [hE]; rfl, (hRd.out.below hb).mono hb.size, hc, hcm, .inl rfl, hb⟩)
    obtain ⟨V, hV⟩ : ∃ V, srcV s A c = V := ⟨_, rfl⟩
    rw [hV] at HRT HLT SV OV ZV HEND
    rw [hV]
    have hcase : (rightS s = false) ∨ (rightS s = true ∧ k < 0) ∨ (rightS s = true ∧ ¬ k < 0 ∧ 64 < k) := by
      cases h : rightS s
      · exact .inl rfl
      · refine .inr ?_
        by_cases h0 : k < 0
        · exact .inl ⟨rfl, h0⟩
        · exact .inr ⟨rfl, h0, Decidable.byContradiction fun h7 => hbad ⟨h, by omega, by omega⟩⟩
    clear hZ hV hE hbad hll hrd hkst
    rcases hcase with hr | ⟨hr, h0⟩ | ⟨hr, h0, h6⟩
    all_goals
      rw [hr] at HRT
      go_enter Tryd.func30, Tryd.ntmps30
      go_wp2_with (first
        | (with_reducible refine at_any ?_; refine at_dst 2 rfl ?_; refine wpList_box_any rfl 34 (.tmp 0) rfl V rfl ?_; intro w1 hk1 hs1 hb1)
        | (with_reducible refine at_any ?_; refine at_dst 5 rfl ?_; refine wpList_alloc_any rfl 34 rfl Z HZ0.out ?_; intro w2 hk2 hs2 hb2; have k2 := Lib.hid (hk1.out.below hb2 hk1.out.lt); have bl2 := Lib.hid (hb1.trans (hb2.mono hb1.size)))
        | (with_reducible refine at_any ?_; refine at_dst 9 rfl ?_; refine wpList_load_blk rfl 34 (.tmp 2) rfl w.heap.size rfl 34 V k2.out _ Tryd.underlying34 rfl SV.out ?_)
        | (go_at_call 27; (with_reducible refine (HRT.out _).mono ?_); rintro e wz ⟨rfl, hbz⟩))
      have HB2 : Src2 w w.heap.size w1.heap.size V Z wz := ⟨hk2.out.below hbz hk2.out.lt, k2.out.below hbz k2.out.lt, bl2.out.trans (hbz.mono bl2.out.size), trivial⟩
      have h25 : w.heap.size < w1.heap.size := by rw [hs1.out]; omega
      obtain ⟨g2, hg2⟩ : ∃ g, w.heap.size = g := ⟨_, rfl⟩
      obtain ⟨g5, hg5⟩ : ∃ g, w1.heap.size = g := ⟨_, rfl⟩
      have h02 : w.heap.size ≤ g2 := by omega
      rw [hg2, hg5] at HB2 h25
      rw [hg2, hg5]
      clear hg2 hg5 hk1 hs1 hb1 hk2 hs2 hb2 k2 bl2 hbz
      have hS := HB2.keep.drew
      have HZ5 := HB2.old.drew
      refine wp_region_held_drew (S := (Fx [.blk g2 34 V, .bel w])) (by kernel_rfl) hS (fun hH => ?_)
      refine wpAnyH_letter #[false, false, false, false] (by kernel_rfl) (fun _ _ d _ _ h => by cases d <;> exact h) (fun QL HQ1 HQ2 => ?_)
      refine held_row 0 (some 20) rfl (by kernel_rfl) (by kernel_rfl) (by kernel_rfl) (by kernel_rfl) (fun c a v w h => HQ2.out c a _ v w h) (by kernel_rfl) 34 (.tmp 2) rfl g2 (by kernel_rfl) 34 V (fun _ h => h.1) _ Tryd.underlying34 rfl SV.out hH ?_
      try simp only [Act.put, List.setIfInBounds_toArray, List.set_cons_zero, List.set_cons_succ]
      refine held_v 1 (some 4) rfl (by kernel_rfl) (by kernel_rfl) (by kernel_rfl) (by kernel_rfl) (fun c a v w h => HQ2.out c a _ v w h) (by kernel_rfl) (.int .u64 0) (fun W h => by kernel_rfl) hH ?_
      try simp only [Act.put, List.setIfInBounds_toArray, List.set_cons_zero, List.set_cons_succ]
      refine wpAnyH_ready (rs := [2]) (by kernel_rfl) (by decide) ?_
      refine AllReadyH.cons rfl (fun K hK => ?_) AllReadyH.nil
      refine step_store none (by kernel_rfl) (by kernel_rfl) 34 (.tmp 5) (.tmp 20) rfl g5 (by kernel_rfl) 34 Z V HZ5.1 (by kernel_rfl) ZV.out SV.out OV.out ?_
      intro w41 hkw41 hsw41 hbw41 how41
      have ex42 : Fx [.blk g5 34 V] w41 := ⟨hkw41.out, trivial⟩
      refine hK.out _ _ (hH.store HZ5.1 ⟨Nat.ne_of_lt h25, Nat.le_trans h02 (Nat.le_of_lt h25), trivial⟩ hsw41.out hbw41 how41) (fun hw41 => ?_)
      clear hK K
      try simp only [Act.put, List.setIfInBounds_toArray, List.set_cons_zero, List.set_cons_succ]
      refine held_v 3 (some 6) rfl (by kernel_rfl) (by kernel_rfl) (by kernel_rfl) (by kernel_rfl) (fun c a v w h => HQ2.out c a _ v w h) (by kernel_rfl) (.int .i64 1) (fun W h => by kernel_rfl) hw41 ?_
      try simp only [Act.put, List.setIfInBounds_toArray, List.set_cons_zero, List.set_cons_succ]
      refine wpAnyH_done (by kernel_rfl) ?_ _
      refine HQ1.out _ _ ?_
      clear HQ1 HQ2
      go_wp2_with (refine bodyPost_mid 4 5 6 34 rfl g5 rfl (.int .u64 0) (.int .i64 1) rfl rfl 34 V ex42.1 _ Tryd.underlying34 rfl SV.out rfl ?_)
      exact HEND.out _ hw41.2.1
  · have hgood : rightS s = true ∧ 0 ≤ k ∧ k ≤ 64 := Decidable.of_not_not hbad
    obtain ⟨hr, kk0, kk1⟩ := hgood
    have ng0 : ¬ k < 0 := by omega
    have ng1 : ¬ 64 < k := by omega
    rw [hr] at HRT
    obtain ⟨K, rfl⟩ := Int.eq_ofNat_of_zero_le kk0
    have e3 : IntKind.u64.wrap (K : Int) = K := by rw [IntKind.wrap_u64]; omega
    clear k0 k1
    obtain ⟨lf, hlf⟩ : ∃ x, leftS s = x := ⟨_, rfl⟩
    rw [hlf] at HLT hll
    by_cases hmore : lf < (K : Int)
    · have hE : takeE s (K : Int) = 8 := by unfold takeE; rw [if_pos ⟨hr, kk0, kk1⟩, hlf, if_neg (by omega)]
      have HEND : Hid (∀ w', Below w.heap.size w w' → RetTake w s (K : Int) A (.returned (.tuple #[.int .u64 0, .agg (srcV s A c), .int .i64 8])) w') := Lib.hid (fun w' hb => ⟨A, c, by unfold takeV takeS; rw [hE]; rfl, (hRd.out.below hb).mono hb.size, hc, hcm, .inl rfl, hb⟩)
      obtain ⟨V, hV⟩ : ∃ V, srcV s A c = V := ⟨_, rfl⟩
      rw [hV] at HRT HLT SV OV ZV HEND
      rw [hV]
      clear hZ hV hE hbad hrd hlf hkst
      go_enter Tryd.func30, Tryd.ntmps30
      go_wp2_with (first
        | (with_reducible refine at_any ?_; refine at_dst 2 rfl ?_; refine wpList_box_any rfl 34 (.tmp 0) rfl V rfl ?_; intro w1 hk1 hs1 hb1)
        | (with_reducible refine at_any ?_; refine at_dst 5 rfl ?_; refine wpList_alloc_any rfl 34 rfl Z HZ0.out ?_; intro w2 hk2 hs2 hb2; have k2 := Lib.hid (hk1.out.below hb2 hk1.out.lt); have bl2 := Lib.hid (hb1.trans (hb2.mono hb1.size)))
        | (with_reducible refine at_any ?_; refine at_dst 9 rfl ?_; refine wpList_load_blk rfl 34 (.tmp 2) rfl w.heap.size rfl 34 V k2.out _ Tryd.underlying34 rfl SV.out ?_)
        | (go_at_call 27; (with_reducible refine (HRT.out _).mono ?_); rintro e wy ⟨rfl, hby⟩; have k2y := Lib.hid (k2.out.below hby k2.out.lt); have bly := Lib.hid (bl2.out.trans (hby.mono bl2.out.size)))
        | (with_reducible refine at_any ?_; refine at_dst 23 rfl ?_; refine wpList_load_blk rfl 34 (.tmp 2) rfl w.heap.size rfl 34 V k2y.out _ Tryd.underlying34 rfl SV.out ?_)
        | (go_at_call 38; (with_reducible refine (HLT.out _).mono ?_); rintro e wz ⟨rfl, hbz⟩))
      have HB2 : Src2 w w.heap.size w1.heap.size V Z wz := ⟨(hk2.out.below hby hk2.out.lt).below hbz (hk2.out.below hby hk2.out.lt).lt, k2y.out.below hbz k2y.out.lt, bly.out.trans (hbz.mono bly.out.size), trivial⟩
      have h25 : w.heap.size < w1.heap.size := by rw [hs1.out]; omega
      obtain ⟨g2, hg2⟩ : ∃ g, w.heap.size = g := ⟨_, rfl⟩
      obtain ⟨g5, hg5⟩ : ∃ g, w1.heap.size = g := ⟨_, rfl⟩
      have h02 : w.heap.size ≤ g2 := by omega
      rw [hg2, hg5] at HB2 h25
      rw [hg2, hg5]
      clear hg2 hg5 hk1 hs1 hb1 hk2 hs2 hb2 k2 bl2 hbz hby k2y bly
      have hS := HB2.keep.drew
      have HZ5 := HB2.old.drew
      refine wp_region_held_drew (S := (Fx [.blk g2 34 V, .bel w])) (by kernel_rfl) hS (fun hH => ?_)
      refine wpAnyH_letter #[false, false, false, false] (by kernel_rfl) (fun _ _ d _ _ h => by cases d <;> exact h) (fun QL HQ1 HQ2 => ?_)
      refine held_row 0 (some 26) rfl (by kernel_rfl) (by kernel_rfl) (by kernel_rfl) (by kernel_rfl) (fun c a v w h => HQ2.out c a _ v w h) (by kernel_rfl) 34 (.tmp 2) rfl g2 (by kernel_rfl) 34 V (fun _ h => h.1) _ Tryd.underlying34 rfl SV.out hH ?_
      try simp only [Act.put, List.setIfInBounds_toArray, List.set_cons_zero, List.set_cons_succ]
      refine held_v 1 (some 4) rfl (by kernel_rfl) (by kernel_rfl) (by kernel_rfl) (by kernel_rfl) (fun c a v w h => HQ2.out c a _ v w h) (by kernel_rfl) (.int .u64 0) (fun W h => by kernel_rfl) hH ?_
      try simp only [Act.put, List.setIfInBounds_toArray, List.set_cons_zero, List.set_cons_succ]
      refine wpAnyH_ready (rs := [2]) (by kernel_rfl) (by decide) ?_
      refine AllReadyH.cons rfl (fun K hK => ?_) AllReadyH.nil
      refine step_store none (by kernel_rfl) (by kernel_rfl) 34 (.tmp 5) (.tmp 26) rfl g5 (by kernel_rfl) 34 Z V HZ5.1 (by kernel_rfl) ZV.out SV.out OV.out ?_
      intro w41 hkw41 hsw41 hbw41 how41
      have ex42 : Fx [.blk g5 34 V] w41 := ⟨hkw41.out, trivial⟩
      refine hK.out _ _ (hH.store HZ5.1 ⟨Nat.ne_of_lt h25, Nat.le_trans h02 (Nat.le_of_lt h25), trivial⟩ hsw41.out hbw41 how41) (fun hw41 => ?_)
      clear hK K
      try simp only [Act.put, List.setIfInBounds_toArray, List.set_cons_zero, List.set_cons_succ]
      refine held_v 3 (some 6) rfl (by kernel_rfl) (by kernel_rfl) (by kernel_rfl) (by kernel_rfl) (fun c a v w h => HQ2.out c a _ v w h) (by kernel_rfl) (.int .i64 8) (fun W h => by kernel_rfl) hw41 ?_
      try simp only [Act.put, List.setIfInBounds_toArray, List.set_cons_zero, List.set_cons_succ]
      refine wpAnyH_done (by kernel_rfl) ?_ _
      refine HQ1.out _ _ ?_
      clear HQ1 HQ2
      go_wp2_with (refine bodyPost_mid 4 5 6 34 rfl g5 rfl (.int .u64 0) (.int .i64 8) rfl rfl 34 V ex42.1 _ Tryd.underlying34 rfl SV.out rfl ?_)
      exact HEND.out _ hw41.2.1
    · have hle : (K : Int) ≤ lf := by omega
      have hE : takeE s (K : Int) = 0 := by unfold takeE; rw [if_pos ⟨hr, kk0, kk1⟩, hlf, if_pos hle]
      have hat : s.at_ + lf < 18446744073709551616 := by
        rcases rightS_end hr with h | h
        · rw [hlf] at h; exact h.1
        · exact absurd ok h
      have a0 := ok.a0
      have hnum : takeV s (K : Int) = numS s s.at_ K := by unfold takeV; rw [if_pos hE, Int.toNat_natCast]
      have hsrc : takeS s (K : Int) = s.to (s.at_ + K) := by unfold takeS; rw [if_pos hE]
      have hkd : s.kind = 2 ∨ s.kind = 1 ∧ s.at_ + (K : Int) ≤ 8 * (s.tape.length : Int) := by
        unfold leftS at hlf
        rw [if_pos hr] at hlf
        unfold rightS at hr
        split at hr
        · rename_i h1
          rw [if_pos h1] at hlf
          simp at hr
          exact .inr ⟨h1, by omega⟩
        · simp at hr
          exact .inl hr.1
      have HNUM := Lib.hid (fun (g : Nat) (W : World) hg (hbl : Below w.heap.size w W) (hg0 : w.heap.size ≤ g) => qnumr_c w g s A c (List.replicate 32 0) false ok K (by omega) hkd (by omega) (BkA.zero s) W hg hrd hkst hbl hg0)
      have BR := Lib.hid (fun (a : Act) (o : Oper) (x : Operand) (W : World) h1 h2 => build_rd (a := a) (o := o) (x := x) W s ok.sl A c h1 h2)
      have SRV := Lib.hid (sizedR s ok.sl A c (List.replicate 32 0) (by simp) false)
      have ORV := Lib.hid (rdV_ones s A c (List.replicate 32 0) false)
      have ZRV := Lib.hid (show (rdV Src.zero none 0 (List.replicate 32 0) false).size = (rdV s A c (List.replicate 32 0) false).size by rw [rdV_size _ rfl _ _ _ (by simp), rdV_size _ ok.sl _ _ _ (by simp)])
      have HZR := Lib.hid zero_rdg
      have SV2 := Lib.hid (sizedS (s.to (s.at_ + K)) ok.sl A c)
      have OV2 := Lib.hid (srcV_ones (s.to (s.at_ + K)) A c)
      have ZV2 := Lib.hid (srcV_same Src.zero (s.to (s.at_ + K)) rfl ok.sl none A 0 c)
      have HSR := Lib.hid (fun (W : World) (g : Nat) (b : List Int) (h : Bool) (hk : Blk W g 71 (rdV (s.to (s.at_ + K)) A c b h)) => rdV_src hk)
      have HEND : Hid (∀ w', Below w.heap.size w w' → RetTake w s (K : Int) A (.returned (.tuple #[.int .u64 (numS s s.at_ K), .agg (srcV (s.to (s.at_ + K)) A c), .int .i64 0])) w') := Lib.hid (fun w' hb => ⟨A, c, by rw [hnum, hsrc, hE], (hRd.out.below hb).mono hb.size, hc, hcm, .inl rfl, hb⟩)
      rw [hZ] at ZV2
      obtain ⟨V, hV⟩ : ∃ V, srcV s A c = V := ⟨_, rfl⟩
      rw [hV] at HRT HLT SV OV ZV BR
      rw [hV]
      obtain ⟨X0, hX0⟩ : ∃ X, rdV s A c (List.replicate 32 0) false = X := ⟨_, rfl⟩
      rw [hX0] at BR SRV ORV ZRV HNUM
      obtain ⟨Y0, hY0⟩ : ∃ X, rdV Src.zero none 0 (List.replicate 32 0) false = X := ⟨_, rfl⟩
      rw [hY0] at ZRV HZR
      obtain ⟨V2, hV2⟩ : ∃ V, srcV (s.to (s.at_ + K)) A c = V := ⟨_, rfl⟩
      rw [hV2] at SV2 OV2 ZV2 HEND
      have HV2 := Lib.hid hV2
      obtain ⟨N, hN⟩ : ∃ x, numS s s.at_ K = x := ⟨_, rfl⟩
      rw [hN] at HEND HNUM
      clear hZ hV hE hbad hrd hlf hnum hsrc hkd hr hkst hX0 hY0 hV2 hN
      go_enter Tryd.func30, Tryd.ntmps30
      go_wp2_with (first
        | (with_reducible refine at_any ?_; refine at_dst 2 rfl ?_; refine wpList_box_any rfl 34 (.tmp 0) rfl V rfl ?_; intro w1 hk1 hs1 hb1)
        | (with_reducible refine at_any ?_; refine at_dst 5 rfl ?_; refine wpList_alloc_any rfl 34 rfl Z HZ0.out ?_; intro w2 hk2 hs2 hb2; have k2 := Lib.hid (hk1.out.below hb2 hk1.out.lt); have bl2 := Lib.hid (hb1.trans (hb2.mono hb1.size)))
        | (with_reducible refine at_any ?_; refine at_dst 9 rfl ?_; refine wpList_load_blk rfl 34 (.tmp 2) rfl w.heap.size rfl 34 V k2.out _ Tryd.underlying34 rfl SV.out ?_)
        | (go_at_call 27; (with_reducible refine (HRT.out _).mono ?_); rintro e wy ⟨rfl, hby⟩; have k2y := Lib.hid (k2.out.below hby k2.out.lt); have k5y := Lib.hid (hk2.out.below hby hk2.out.lt); have bly := Lib.hid (bl2.out.trans (hby.mono bl2.out.size)))
        | (with_reducible refine at_any ?_; refine at_dst 23 rfl ?_; refine wpList_load_blk rfl 34 (.tmp 2) rfl w.heap.size rfl 34 V k2y.out _ Tryd.underlying34 rfl SV.out ?_)
        | (go_at_call 38; (with_reducible refine (HLT.out _).mono ?_); rintro e wz ⟨rfl, hbz⟩; have k2z := Lib.hid (k2y.out.below hbz k2y.out.lt); have k5z := Lib.hid (k5y.out.below hbz k5y.out.lt); have blz := Lib.hid (bly.out.trans (hbz.mono bly.out.size)))
        | (with_reducible refine at_any ?_; refine at_dst 27 rfl ?_; refine wpList_load_blk rfl 34 (.tmp 2) rfl w.heap.size rfl 34 V k2z.out _ Tryd.underlying34 rfl SV.out ?_)
        | (with_reducible refine at_any ?_; refine at_dst 28 rfl ?_; refine wpList_val rfl (.agg X0) (BR.out _ _ _ _ rfl rfl) ?_)
        | (with_reducible refine at_any ?_; refine at_dst 7 rfl ?_; refine wpList_alloc_any rfl 71 rfl Y0 HZR.out ?_; intro w7 hk7 hs7 hb7; have k57 := Lib.hid (k5z.out.below hb7 k5z.out.lt); have bl7 := Lib.hid (blz.out.trans (hb7.mono blz.out.size)))
        | (with_reducible refine at_any ?_; refine at_store 7 rfl ?_; refine wpList_store_any rfl 71 (.tmp 7) (.tmp 28) rfl wz.heap.size rfl 71 Y0 X0 hk7.out rfl ZRV.out SRV.out ORV.out ?_; intro w8 hk8 hs8 hb8 ho8; have bl8 := Lib.hid (bl7.out.trans (hb8 _ blz.out.size)))
        | (go_at_call 39; (with_reducible refine (HNUM.out wz.heap.size w8 hk8.out bl8.out blz.out.size).mono ?_); rintro e w9 ⟨b9, h9, rfl, hk9, hb9, ho9⟩; have HK9 := Lib.hid hk9; have HO9 := Lib.hid ho9; clear hk9 hb9 ho9))
      have h57 : w1.heap.size < wz.heap.size := by
        have h1 := hs2.out
        have h2 := hby.size
        have h3 := hbz.size
        omega
      have h05 : w.heap.size ≤ w1.heap.size := hb1.size
      have HSRC := Lib.hid (fun (W : World) (hk : Blk W wz.heap.size 71 (rdV (s.to (s.at_ + K)) A c b9 h9)) => HSR.out W _ b9 h9 hk)
      rw [HV2.out] at HSRC
      have K9 := HK9.out
      have B9 : Below w.heap.size w w9 := bl8.out.trans (HO9.out.below blz.out.size bl8.out.size)
      have K5 : Blk w9 w1.heap.size 34 Z := Blk.only (Blk.other k57.out ho8 (Nat.ne_of_lt h57)) HO9.out (Nat.ne_of_lt h57)
      obtain ⟨X9, hX9⟩ : ∃ X, rdV (s.to (s.at_ + K)) A c b9 h9 = X := ⟨_, rfl⟩
      rw [hX9] at HSRC K9
      obtain ⟨g7, hg7⟩ : ∃ g, wz.heap.size = g := ⟨_, rfl⟩
      obtain ⟨g5, hg5⟩ : ∃ g, w1.heap.size = g := ⟨_, rfl⟩
      rw [hg7] at K9 HSRC
      rw [hg5] at K5 h05
      rw [hg7, hg5] at h57
      rw [hg7, hg5]
      have hS : Fx [.blk g7 71 X9, .bel w] w9.drew := Fx.drew ⟨K9, B9, trivial⟩
      have HZ5 : Fx [.blk g5 34 Z] w9.drew := Fx.drew ⟨K5, trivial⟩
      clear hg7 hg5 hX9 K9 K5 B9 HK9 HO9 hk1 hs1 hb1 hk2 hs2 hb2 k2 bl2 hby k2y k5y bly hbz k2z k5z blz hk7 hs7 hb7 k57 bl7 hk8 hs8 hb8 ho8 bl8
      refine wp_region_held_drew (S := (Fx [.blk g7 71 X9, .bel w])) (by kernel_rfl) hS (fun hH => ?_)
      refine wpAnyH_letter #[false, false, false, false, false, false] (by kernel_rfl) (fun _ _ d _ _ h => by cases d <;> exact h) (fun QL HQ1 HQ2 => ?_)
      refine held_v 0 (some 31) rfl (by kernel_rfl) (by kernel_rfl) (by kernel_rfl) (by kernel_rfl) (fun c a v w h => HQ2.out c a _ v w h) (by kernel_rfl) (.int .u64 N) (fun W h => by kernel_rfl) hH ?_
      try simp only [Act.put, List.setIfInBounds_toArray, List.set_cons_zero, List.set_cons_succ]
      refine held_v 1 (some 32) rfl (by kernel_rfl) (by kernel_rfl) (by kernel_rfl) (by kernel_rfl) (fun c a v w h => HQ2.out c a _ v w h) (by kernel_rfl) (.pointer (some ⟨g7, 0, none⟩)) (fun W h => by kernel_rfl) hH ?_
      try simp only [Act.put, List.setIfInBounds_toArray, List.set_cons_zero, List.set_cons_succ]
      refine held_load_arr 2 (some 33) rfl (by kernel_rfl) (by kernel_rfl) (by kernel_rfl) (by kernel_rfl) (fun c a v w h => HQ2.out c a _ v w h) (by kernel_rfl) 34 (.tmp 32) rfl g7 0 (by kernel_rfl) V2 (fun W h => HSRC.out W h.1) _ Tryd.underlying34 rfl SV2.out hH ?_
      try simp only [Act.put, List.setIfInBounds_toArray, List.set_cons_zero, List.set_cons_succ]
      refine held_v 3 (some 4) rfl (by kernel_rfl) (by kernel_rfl) (by kernel_rfl) (by kernel_rfl) (fun c a v w h => HQ2.out c a _ v w h) (by kernel_rfl) (.int .u64 N) (fun W h => by kernel_rfl) hH ?_
      try simp only [Act.put, List.setIfInBounds_toArray, List.set_cons_zero, List.set_cons_succ]
      refine wpAnyH_ready (rs := [4]) (by kernel_rfl) (by decide) ?_
      refine AllReadyH.cons rfl (fun K hK => ?_) AllReadyH.nil
      refine step_store none (by kernel_rfl) (by kernel_rfl) 34 (.tmp 5) (.tmp 33) rfl g5 (by kernel_rfl) 34 Z V2 HZ5.1 (by kernel_rfl) ZV2.out SV2.out OV2.out ?_
      intro w41 hkw41 hsw41 hbw41 how41
      have ex42 : Fx [.blk g5 34 V2] w41 := ⟨hkw41.out, trivial⟩
      refine hK.out _ _ (hH.store HZ5.1 ⟨Nat.ne_of_gt h57, h05, trivial⟩ hsw41.out hbw41 how41) (fun hw41 => ?_)
      clear hK K
      try simp only [Act.put, List.setIfInBounds_toArray, List.set_cons_zero, List.set_cons_succ]
      refine held_v 5 (some 6) rfl (by kernel_rfl) (by kernel_rfl) (by kernel_rfl) (by kernel_rfl) (fun c a v w h => HQ2.out c a _ v w h) (by kernel_rfl) (.int .i64 0) (fun W h => by kernel_rfl) hw41 ?_
      try simp only [Act.put, List.setIfInBounds_toArray, List.set_cons_zero, List.set_cons_succ]
      refine wpAnyH_done (by kernel_rfl) ?_ _
      refine HQ1.out _ _ ?_
      clear HQ1 HQ2
      go_wp2_with (refine bodyPost_mid 4 5 6 34 rfl g5 rfl (.int .u64 N) (.int .i64 0) rfl rfl 34 V2 ex42.1 _ Tryd.underlying34 rfl SV2.out rfl ?_)
      exact HEND.out _ hw41.2.1
end Go.Proofs.YtepclbmcacdhlaaDoor
/-
  What the landed uniform's functions return (Need, bounds, Draw), and that memory is left as it was.
  Conditions: the arguments lie in their types' ranges; the table of constants holds what the text lays.
-/
set_option maxRecDepth 100000
set_option linter.unusedSimpArgs false
namespace Go.Proofs.YtepclbmcacdhlaaDoor
open Go.ChangeShapes Go.WideShapes Go.ChangeAt Go.RowKit
set_option linter.unusedVariables false
theorem q8need_c (n : Int) (n0 : 0 ≤ n) (n1 : n < 18446744073709551616) (w : World) : Calls Tryd.prog 29 #[.int .u64 n] w fun e w' => e = .returned (.int .i64 (needN n : Nat)) ∧ w = w' := by
  by_cases h : n = 0
  · subst h
    go_enter Tryd.func29, Tryd.ntmps29
    go_wp2
    go_ret
    exact ⟨rfl, rfl⟩
  · have HB := Lib.hid (fun W => bits_i (n - 1) (by omega) (by omega) W)
    have hR : needN n = Wd.bitsL (n - 1).toNat := by unfold needN; rw [if_neg h]
    rw [hR]
    obtain ⟨B, hB⟩ : ∃ B, Wd.bitsL (n - 1).toNat = B := ⟨_, rfl⟩
    rw [hB] at HB ⊢
    have t1 : (n == 0) = false := by rw [beq_eq_false_iff_ne]; exact h
    have e1 : IntKind.u64.wrap (n - 1) = n - 1 := by rw [IntKind.wrap_u64]; omega
    clear h hR hB
    go_enter Tryd.func29, Tryd.ntmps29
    go_wp2_with (go_at_call 37; (with_reducible refine (HB.out _).mono ?_); rintro e _ ⟨rfl, rfl⟩)
    go_ret
    exact ⟨rfl, rfl⟩
/-- Whether a number may be a bound. -/
theorem q8bound_c (n : Int) (n0 : 0 ≤ n) (n1 : n < 18446744073709551616) (w : World) : Calls Tryd.prog 28 #[.int .u64 n] w fun e w' => e = .returned (.bool (decide (1 ≤ n ∧ n < 9223372036854775808))) ∧ w = w' := by
  by_cases h1 : 1 ≤ n
  · by_cases h2 : n < 9223372036854775808
    · rw [decide_eq_true ⟨h1, h2⟩]
      go_enter Tryd.func28, Tryd.ntmps28
      go_wp2
      go_ret
      exact ⟨rfl, rfl⟩
    · rw [decide_eq_false (fun h => h2 h.2)]
      go_enter Tryd.func28, Tryd.ntmps28
      go_wp2
      go_ret
      exact ⟨rfl, rfl⟩
  · rw [decide_eq_false (fun h => h1 h.1)]
    go_enter Tryd.func28, Tryd.ntmps28
    go_wp2
    go_ret
    exact ⟨rfl, rfl⟩
set_option maxHeartbeats 8000000 in
theorem q8draw_c (s : Src) (ok : s.Ok) (n : Int) (n0 : 0 ≤ n) (n1 : n < 18446744073709551616) (a : Int) (a0 : -9223372036854775808 ≤ a) (a1 : a < 9223372036854775808) (A0 : Option Addr) (c0 : Nat) (hc : s.tape.length ≤ c0) (hcm : c0 ≤ maxLen) (w : World) (hrd : Rd .u8 w w.heap.size A0 s.tape.length s.tape) (hkst : Kst w) : Calls Tryd.prog 21 #[.agg (srcV s A0 c0), .int .u64 n, .int .i64 a] w (RetDraw w s A0 (drawR s n a)) := by
  have HRT := Lib.hid (fun W => qsright_c s ok A0 c0 W)
  have HBD := Lib.hid (fun W => q8bound_c n n0 n1 W)
  have HZ0 := Lib.hid zero_src
  have hRd := Lib.hid hrd
  have HKS := Lib.hid hkst
  have HZSS := Lib.hid (fun (t : Src) (h : t.seed.length = 32) A c => srcV_same Src.zero t rfl h none A 0 c)
  obtain ⟨Z, hZ⟩ : ∃ Z, srcV Src.zero none 0 = Z := ⟨_, rfl⟩
  rw [hZ] at HZ0 HZSS
  by_cases hbad : ¬ drawB s n a = true
  · have hE : drawR s n a = (0, s, 1) := by unfold drawR; rw [if_neg hbad]
    have HEND : Hid (∀ w', RdP A0 s.tape.length s.tape w' → Below w.heap.size w w' → RetDraw w s A0 (drawR s n a) (.returned (.tuple #[.int .u64 0, .agg (srcV s A0 c0), .int .i64 1])) w') := Lib.hid (fun w' hr hb => ⟨A0, c0, by rw [hE], hr, hc, hcm, .inl rfl, hb⟩)
    have hcase : (rightS s = false) ∨ (rightS s = true ∧ decide (1 ≤ n ∧ n < 9223372036854775808) = false) ∨ (rightS s = true ∧ decide (1 ≤ n ∧ n < 9223372036854775808) = true ∧ a < 1) ∨ (rightS s = true ∧ decide (1 ≤ n ∧ n < 9223372036854775808) = true ∧ ¬ a < 1 ∧ 64 < a) := by
      cases h : rightS s
      · exact .inl rfl
      · refine .inr ?_
        by_cases h1 : 1 ≤ n ∧ n < 9223372036854775808
        · refine .inr ?_
          by_cases h3 : a < 1
          · exact .inl ⟨rfl, decide_eq_true h1, h3⟩
          · refine .inr ⟨rfl, decide_eq_true h1, h3, Decidable.byContradiction fun h4 => hbad ?_⟩
            unfold drawB
            rw [h, Bool.true_and]
            exact decide_eq_true ⟨h1.1, h1.2, by omega, by omega⟩
        · exact .inl ⟨rfl, decide_eq_false h1⟩
    have SV := Lib.hid (sizedS s ok.sl A0 c0)
    have OV := Lib.hid (srcV_ones s A0 c0)
    have ZV := Lib.hid (HZSS.out s ok.sl A0 c0)
    obtain ⟨V, hV⟩ : ∃ V, srcV s A0 c0 = V := ⟨_, rfl⟩
    rw [hV] at HRT HEND SV OV ZV
    rw [hV]
    obtain ⟨rr, hrr⟩ : ∃ r, drawR s n a = r := ⟨_, rfl⟩
    rw [hrr] at HEND ⊢
    obtain ⟨bd, hbd⟩ : ∃ b, decide (1 ≤ n ∧ n < 9223372036854775808) = b := ⟨_, rfl⟩
    rw [hbd] at HBD hcase
    clear hZ hV hE hbad hrd hkst hrr hbd
    rcases hcase with hr | ⟨hr, rfl⟩ | ⟨hr, rfl, h3⟩ | ⟨hr, rfl, h3, h4⟩
    all_goals
      rw [hr] at HRT
      go_enter Tryd.func21, Tryd.ntmps21
      go_wp2_with (first
        | (with_reducible refine at_any ?_; refine at_dst 3 rfl ?_; refine wpList_box_any rfl 34 (.tmp 0) rfl V rfl ?_; intro w1 hk1 hs1 hb1)
        | (with_reducible refine at_any ?_; refine at_dst 7 rfl ?_; refine wpList_alloc_any rfl 34 rfl Z HZ0.out ?_; intro w2 hk2 hs2 hb2; have k2 := Lib.hid (hk1.out.below hb2 hk1.out.lt))
        | (with_reducible refine at_any ?_; refine at_dst 13 rfl ?_; refine wpList_load_blk rfl 34 (.tmp 3) rfl w.heap.size rfl 34 V k2.out _ Tryd.underlying34 rfl SV.out ?_)
        | (go_at_call 27; (with_reducible refine (HRT.out _).mono ?_); rintro e wz ⟨rfl, hbz⟩)
        | (go_at_call 28; (with_reducible refine (HBD.out _).mono ?_); rintro e _ ⟨rfl, rfl⟩))
      have HS := DrS.mk2 hRd.out hk1.out hb1 hk2.out hb2 hbz
      have HZ : Fx [.blk w1.heap.size 34 Z] wz := ⟨hk2.out.below hbz hk2.out.lt, trivial⟩
      obtain ⟨g3, hg3⟩ : ∃ g, w.heap.size = g := ⟨_, rfl⟩
      obtain ⟨g7, hg7⟩ : ∃ g, w1.heap.size = g := ⟨_, rfl⟩
      obtain ⟨zs, hzs⟩ : ∃ zs, s.tape = zs := ⟨_, rfl⟩
      obtain ⟨L, hL⟩ : ∃ L, zs.length = L := ⟨_, rfl⟩
      rw [hzs, hL] at HEND
      rw [hg3, hg7, hzs, hL] at HS
      rw [hg7] at HZ
      rw [hg3, hg7]
      clear hg3 hg7 hzs hL hk1 hs1 hb1 hk2 hs2 hb2 k2 hbz
      have HZ7 := HZ.drew
      refine wp_region_held_drew (S := (DrS w g3 g7 V A0 L zs)) (by kernel_rfl) HS.drew (fun hH => ?_)
      refine wpAnyH_letter #[false, false, false, false] (by kernel_rfl) (fun _ _ d _ _ h => by cases d <;> exact h) (fun QL HQ1 HQ2 => ?_)
      refine held_row 0 (some 29) rfl (by kernel_rfl) (by kernel_rfl) (by kernel_rfl) (by kernel_rfl) (fun c a v w h => HQ2.out c a _ v w h) (by kernel_rfl) 34 (.tmp 3) rfl g3 (by kernel_rfl) 34 V (fun _ h => h.blk) _ Tryd.underlying34 rfl SV.out hH ?_
      try simp only [Act.put, List.setIfInBounds_toArray, List.set_cons_zero, List.set_cons_succ]
      refine held_v 1 (some 6) rfl (by kernel_rfl) (by kernel_rfl) (by kernel_rfl) (by kernel_rfl) (fun c a v w h => HQ2.out c a _ v w h) (by kernel_rfl) (.int .u64 0) (fun W h => by kernel_rfl) hH ?_
      try simp only [Act.put, List.setIfInBounds_toArray, List.set_cons_zero, List.set_cons_succ]
      refine wpAnyH_ready (rs := [2]) (by kernel_rfl) (by decide) ?_
      refine AllReadyH.cons rfl (fun K hK => ?_) AllReadyH.nil
      refine step_store none (by kernel_rfl) (by kernel_rfl) 34 (.tmp 7) (.tmp 29) rfl g7 (by kernel_rfl) 34 Z V HZ7.1 (by kernel_rfl) ZV.out SV.out OV.out ?_
      intro w41 hkw41 hsw41 hbw41 how41
      have ex42 : Fx [.blk g7 34 V] w41 := ⟨hkw41.out, trivial⟩
      refine hK.out _ _ (hH.store HZ7.1 hH.store7 hsw41.out hbw41 how41) (fun hw41 => ?_)
      clear hK K
      try simp only [Act.put, List.setIfInBounds_toArray, List.set_cons_zero, List.set_cons_succ]
      refine held_v 3 (some 8) rfl (by kernel_rfl) (by kernel_rfl) (by kernel_rfl) (by kernel_rfl) (fun c a v w h => HQ2.out c a _ v w h) (by kernel_rfl) (.int .i64 1) (fun W h => by kernel_rfl) hw41 ?_
      try simp only [Act.put, List.setIfInBounds_toArray, List.set_cons_zero, List.set_cons_succ]
      refine wpAnyH_done (by kernel_rfl) ?_ _
      refine HQ1.out _ _ ?_
      clear HQ1 HQ2
      go_wp2_with (refine bodyPost_mid 6 7 8 34 rfl g7 rfl (.int .u64 0) (.int .i64 1) rfl rfl 34 V ex42.1 _ Tryd.underlying34 rfl SV.out rfl ?_)
      exact HEND.out _ hw41.rd hw41.bel
  · have hgood : drawB s n a = true := Decidable.of_not_not hbad
    have hE : drawR s n a = drawGo (needN n) n a.toNat s := by unfold drawR; rw [if_pos hgood]
    obtain ⟨hr, hd⟩ : rightS s = true ∧ decide (1 ≤ n ∧ n < 9223372036854775808 ∧ 1 ≤ a ∧ a ≤ 64) = true := by unfold drawB at hgood; rwa [Bool.and_eq_true] at hgood
    obtain ⟨nn0, nn1, aa0, aa1⟩ := of_decide_eq_true hd
    rw [decide_eq_true ⟨nn0, nn1⟩] at HBD
    have h3 : ¬ a < 1 := by omega
    have h4 : ¬ 64 < a := by omega
    have hk64 := needN_le n n0 n1
    have HND := Lib.hid (fun W => q8need_c n n0 n1 W)
    obtain ⟨k, hk⟩ : ∃ k, needN n = k := ⟨_, rfl⟩
    rw [hk] at hE hk64 HND
    rw [hE]
    obtain ⟨a, rfl⟩ := Int.eq_ofNat_of_zero_le (show 0 ≤ a by omega)
    rw [Int.toNat_natCast]
    rw [hr] at HRT
    have HTAKE := Lib.hid (fun (t : Src) (okt : t.Ok) (A : Option Addr) (c : Nat) (h1 : t.tape.length ≤ c) (h2 : c ≤ maxLen) (W : World) (h3 : Rd .u8 W W.heap.size A t.tape.length t.tape) (kk : Kst W) => qstake_c t okt (k : Int) (by omega) (by omega) A c h1 h2 W h3 kk)
    have SV := Lib.hid (sizedS s ok.sl A0 c0)
    have HL0 : Hid (∀ g3 g7 W, DrS w g3 g7 (srcV s A0 c0) A0 s.tape.length s.tape W → Fx [.blk g7 34 Z] W → DrL w g3 g7 s k n a A0 Z 0 W) := Lib.hid (fun g3 g7 W h1 h2 => ⟨s, A0, c0, rfl, ok, rfl, h1, h2, .inl rfl, hc, hcm⟩)
    obtain ⟨V, hV⟩ : ∃ V, srcV s A0 c0 = V := ⟨_, rfl⟩
    rw [hV] at HRT SV HL0
    rw [hV]
    obtain ⟨rr, hrr⟩ : ∃ r, drawGo k n a s = r := ⟨_, rfl⟩
    rw [hrr]
    have HRR := Lib.hid hrr
    clear hZ hV hE hbad hrd hkst hrr hgood hd hr hk a0 a1 aa0 hc hcm
    have aa2 : a ≤ 64 := by omega
    clear aa1
    go_enter Tryd.func21, Tryd.ntmps21
    go_wp2_with (first
      | (with_reducible refine at_any ?_; refine at_dst 3 rfl ?_; refine wpList_box_any rfl 34 (.tmp 0) rfl V rfl ?_; intro w1 hk1 hs1 hb1)
      | (with_reducible refine at_any ?_; refine at_dst 7 rfl ?_; refine wpList_alloc_any rfl 34 rfl Z HZ0.out ?_; intro w2 hk2 hs2 hb2; have k2 := Lib.hid (hk1.out.below hb2 hk1.out.lt))
      | (with_reducible refine at_any ?_; refine at_dst 13 rfl ?_; refine wpList_load_blk rfl 34 (.tmp 3) rfl w.heap.size rfl 34 V k2.out _ Tryd.underlying34 rfl SV.out ?_)
      | (go_at_call 27; (with_reducible refine (HRT.out _).mono ?_); rintro e wz ⟨rfl, hbz⟩)
      | (go_at_call 28; (with_reducible refine (HBD.out _).mono ?_); rintro e _ ⟨rfl, rfl⟩)
      | (go_at_call 29; (with_reducible refine (HND.out _).mono ?_); rintro e _ ⟨rfl, rfl⟩))
    have HS := DrS.mk2 hRd.out hk1.out hb1 hk2.out hb2 hbz
    have HZ : Fx [.blk w1.heap.size 34 Z] wz := ⟨hk2.out.below hbz hk2.out.lt, trivial⟩
    have HL := Lib.hid (HL0.out _ _ _ HS HZ)
    obtain ⟨g3, hg3⟩ : ∃ g, w.heap.size = g := ⟨_, rfl⟩
    obtain ⟨g7, hg7⟩ : ∃ g, w1.heap.size = g := ⟨_, rfl⟩
    rw [hg3, hg7] at HL
    rw [hg3, hg7]
    clear hg3 hg7 hk1 hs1 hb1 hk2 hs2 hb2 k2 hbz HS HZ HL0 HRT SV HBD h3 h4
    go_loopw [33] (fun cc wr => ∃ i : Nat, i ≤ a ∧ cc = .int .i64 i ∧ DrL w g3 g7 s k n a A0 Z i wr) (fun cc _ => a - (intOf cc).toNat)
    case atStart => exact ⟨0, by omega, rfl, HL.out⟩
    case round =>
      clear HL
      obtain ⟨i, hi, rfl, si, A, c, hgo, oki, htp, HS, HZ, hsp, hcl, hcm⟩ := hrel
      have SV := Lib.hid (sizedS si oki.sl A c)
      have OV := Lib.hid (srcV_ones si A c)
      have ZV := Lib.hid (HZSS.out si oki.sl A c)
      have HSP := Lib.hid hsp
      rw [HRR.out] at hgo
      by_cases hlt : i < a
      · have HTK := Lib.hid (fun (W : World) (h3 : RdP A s.tape.length s.tape W) (kk : Kst W) => HTAKE.out si oki A c (by rw [htp]; exact hcl) hcm W (by rw [htp]; exact h3) kk)
        have hst : a - i = a - i - 1 + 1 := by omega
        rw [hst] at hgo
        have hti := takeE_in si k
        have hvi := takeV_in si k
        have htok := takeS_ok oki k
        have http := takeS_tape si k
        rw [htp] at http
        have hgz : takeE si k ≠ 0 → rr = (0, si, takeE si k) := fun h => by rw [hgo, drawGo_err h]
        have hgh : takeE si k = 0 → takeV si k < n → rr = (takeV si k, takeS si k, 0) := fun h h2 => by rw [hgo, drawGo_hit h h2]
        have hgm : takeE si k = 0 → ¬ takeV si k < n → rr = drawGo k n (a - (i + 1)) (takeS si k) := fun h h2 => by rw [hgo, drawGo_miss h h2, show a - i - 1 = a - (i + 1) by omega]
        have hsi : takeE si k ≠ 0 → takeS si k = si := fun h => by unfold takeS; rw [if_neg h]
        unfold RetTake at HTK
        rw [htp] at HTK
        obtain ⟨X, hX⟩ : ∃ X, takeV si k = X := ⟨_, rfl⟩
        obtain ⟨E, hE⟩ : ∃ E, takeE si k = E := ⟨_, rfl⟩
        obtain ⟨t, ht⟩ : ∃ t, takeS si k = t := ⟨_, rfl⟩
        rw [hX, hE, ht] at HTK
        rw [hX] at hvi hgh hgm
        rw [hE] at hti hgz hgh hgm hsi
        rw [ht] at htok http hgh hgm hsi
        have ST := Lib.hid (fun A c => sizedS t htok.sl A c)
        have OT := Lib.hid (fun A c => srcV_ones t A c)
        have ZT := Lib.hid (fun A c => HZSS.out t htok.sl A c)
        obtain ⟨zs, hzs⟩ : ∃ zs, s.tape = zs := ⟨_, rfl⟩
        obtain ⟨L, hL⟩ : ∃ L, zs.length = L := ⟨_, rfl⟩
        have HG1 : Hid (∀ A2 c2 g11 W, DrS w g3 g7 (srcV si A c) A L zs W → Blk W g7 34 Z → Blk W g11 34 (srcV t A2 c2) → RdP A2 L zs W → Apt L A2 g3 → Apt L A2 g7 → Sep w A0 A2 → L ≤ c2 → c2 ≤ maxLen → g3 ≠ g11 → g7 ≠ g11 → True) := Lib.hid (fun _ _ _ _ _ _ _ _ _ _ _ _ _ _ _ => trivial)
        have HEZ : Hid (E ≠ 0 → ∀ w', RdP A L zs w' → Below w.heap.size w w' → RetDraw w s A0 rr (.returned (.tuple #[.int .u64 0, .agg (srcV si A c), .int .i64 E])) w') := Lib.hid (fun h w' hr hb => ⟨A, c, by rw [hgz h], by rw [hzs, hL]; exact hr, hcl, hcm, hsp, hb⟩)
        have HEH : Hid (E = 0 → X < n → ∀ A2 c2 w', Sep w A0 A2 → L ≤ c2 → c2 ≤ maxLen → RdP A2 L zs w' → Below w.heap.size w w' → RetDraw w s A0 rr (.returned (.tuple #[.int .u64 X, .agg (srcV t A2 c2), .int .i64 0])) w') := Lib.hid (fun h h2 A2 c2 w' h3 h4 h5 hr hb => ⟨A2, c2, by rw [hgh h h2], by rw [hzs, hL]; exact hr, by rw [hzs, hL]; exact h4, h5, h3, hb⟩)
        have HEM : Hid (E = 0 → ¬ X < n → ∀ A2 c2 W, DrS w g3 g7 (srcV t A2 c2) A2 L zs W → Fx [.blk g7 34 Z] W → Sep w A0 A2 → L ≤ c2 → c2 ≤ maxLen → DrL w g3 g7 s k n a A0 Z (i + 1) W) := Lib.hid (fun h h2 A2 c2 W h3 h4 h5 h6 h7 => ⟨t, A2, c2, by rw [HRR.out]; exact hgm h h2, htok, by rw [http, hzs], by rw [hzs, hL]; exact h3, h4, h5, by rw [hzs, hL]; exact h6, h7⟩)
        rw [hzs, hL] at HTK
        rw [hzs, hL] at HS hcl
        clear hgo oki htp hsp hst htok http hgz hgh hgm hsi hX hE ht hzs hL HG1
        obtain ⟨V, hV⟩ : ∃ V, srcV si A c = V := ⟨_, rfl⟩
        rw [hV] at SV OV ZV HS HTK HEZ
        clear hV HTAKE HZSS
        by_cases hE0 : E = 0
        · have t1 : (E == 0) = true := by rw [beq_iff_eq]; exact hE0
          have t2 : (E != 0) = false := by rw [bne, t1]; rfl
          by_cases hx : X < n
          · have t0 : True := trivial
            go_wp2_with (first
              | (with_reducible refine at_any ?_; refine at_dst 36 rfl ?_; refine wpList_load_blk rfl 34 (.tmp 3) rfl g3 rfl 34 V HS.blk _ Tryd.underlying34 rfl SV.out ?_)
              | (go_at_call 30; (with_reducible refine (HTK.out _ HS.rd (HKS.out.below HS.bel)).mono ?_); rintro e w5 ⟨A2, c2, rfl, hrd2, hc2, hm2, hsp2, hb5⟩; obtain ⟨V2, hV2⟩ : ∃ V2, srcV t A2 c2 = V2 := ⟨_, rfl⟩; have SV2 := Lib.hid (ST.out A2 c2); have OV2 := Lib.hid (OT.out A2 c2); have ZV2 := Lib.hid (ZT.out A2 c2); have HM2 := Lib.hid (fun h h2 W h3 h4 => HEM.out h h2 A2 c2 W h3 h4 (Sep.trans HSP.out hsp2 HS.bel.size) hc2 hm2); have HH2 := Lib.hid (fun h h2 w' h3 h4 => HEH.out h h2 A2 c2 w' (Sep.trans HSP.out hsp2 HS.bel.size) hc2 hm2 h3 h4); rw [hV2] at SV2 OV2 ZV2 HM2 HH2 ⊢; clear hV2 hc2 hm2)
              | (with_reducible refine at_any ?_; refine at_dst 11 rfl ?_; refine wpList_alloc_any rfl 34 rfl Z HZ0.out ?_; intro w6 hk6 hs6 hb6)
              | (with_reducible refine at_any ?_; refine at_store 11 rfl ?_; refine wpList_store_any rfl 34 (.tmp 11) (.tmp 40) rfl w5.heap.size rfl 34 Z V2 hk6.out rfl ZV2.out SV2.out OV2.out ?_; intro w7 hk7 hs7 hb7 ho7; have T := Lib.hid (HS.took HZ hrd2 hsp2 hb5 hb6 hk6.out hk7.out hs7.out hb7 ho7)))
            obtain ⟨-, HZ, -, -, -, HD⟩ := T.out
            obtain ⟨g11, hg11⟩ : ∃ g, w5.heap.size = g := ⟨_, rfl⟩
            rw [hg11] at HD
            try rw [hg11]
            have HZ7 := HZ.drew
            refine wp_region_held_drew (S := (DrH w g7 g11 V2 A2 L zs)) (by kernel_rfl) HD.drew (fun hH => ?_)
            refine wpAnyH_letter #[false, false, false, false, false] (by kernel_rfl) (fun _ _ d _ _ h => by cases d <;> exact h) (fun QL HQ1 HQ2 => ?_)
            refine held_v 0 (some 49) rfl (by kernel_rfl) (by kernel_rfl) (by kernel_rfl) (by kernel_rfl) (fun c a v w h => HQ2.out c a _ v w h) (by kernel_rfl) (.int .u64 X) (fun W h => by kernel_rfl) hH ?_
            try simp only [Act.put, List.setIfInBounds_toArray, List.set_cons_zero, List.set_cons_succ]
            refine held_row 1 (some 50) rfl (by kernel_rfl) (by kernel_rfl) (by kernel_rfl) (by kernel_rfl) (fun c a v w h => HQ2.out c a _ v w h) (by kernel_rfl) 34 (.tmp 11) rfl g11 (by kernel_rfl) 34 V2 (fun _ h => h.blk) _ Tryd.underlying34 rfl SV2.out hH ?_
            try simp only [Act.put, List.setIfInBounds_toArray, List.set_cons_zero, List.set_cons_succ]
            refine held_v 2 (some 6) rfl (by kernel_rfl) (by kernel_rfl) (by kernel_rfl) (by kernel_rfl) (fun c a v w h => HQ2.out c a _ v w h) (by kernel_rfl) (.int .u64 X) (fun W h => by kernel_rfl) hH ?_
            try simp only [Act.put, List.setIfInBounds_toArray, List.set_cons_zero, List.set_cons_succ]
            refine wpAnyH_ready (rs := [3]) (by kernel_rfl) (by decide) ?_
            refine AllReadyH.cons rfl (fun K hK => ?_) AllReadyH.nil
            refine step_store none (by kernel_rfl) (by kernel_rfl) 34 (.tmp 7) (.tmp 50) rfl g7 (by kernel_rfl) 34 Z V2 HZ7.1 (by kernel_rfl) ZV2.out SV2.out OV2.out ?_
            intro w141 hkw141 hsw141 hbw141 how141
            have ex142 : Fx [.blk g7 34 V2] w141 := ⟨hkw141.out, trivial⟩
            refine hK.out _ _ (hH.store HZ7.1 hH.store7 hsw141.out hbw141 how141) (fun hw141 => ?_)
            clear hK K
            try simp only [Act.put, List.setIfInBounds_toArray, List.set_cons_zero, List.set_cons_succ]
            refine held_v 4 (some 8) rfl (by kernel_rfl) (by kernel_rfl) (by kernel_rfl) (by kernel_rfl) (fun c a v w h => HQ2.out c a _ v w h) (by kernel_rfl) (.int .i64 0) (fun W h => by kernel_rfl) hw141 ?_
            try simp only [Act.put, List.setIfInBounds_toArray, List.set_cons_zero, List.set_cons_succ]
            refine wpAnyH_done (by kernel_rfl) ?_ _
            refine HQ1.out _ _ ?_
            clear HQ1 HQ2
            go_wp2_with (refine bodyPost_mid 6 7 8 34 rfl g7 rfl (.int .u64 X) (.int .i64 0) rfl rfl 34 V2 ex142.1 _ Tryd.underlying34 rfl SV2.out rfl ?_)
            exact HH2.out hE0 hx _ hw141.rd.rd hw141.bel
          · have hx2 : n ≤ X := by omega
            go_wp2_with (first
              | (with_reducible refine at_any ?_; refine at_dst 36 rfl ?_; refine wpList_load_blk rfl 34 (.tmp 3) rfl g3 rfl 34 V HS.blk _ Tryd.underlying34 rfl SV.out ?_)
              | (go_at_call 30; (with_reducible refine (HTK.out _ HS.rd (HKS.out.below HS.bel)).mono ?_); rintro e w5 ⟨A2, c2, rfl, hrd2, hc2, hm2, hsp2, hb5⟩; obtain ⟨V2, hV2⟩ : ∃ V2, srcV t A2 c2 = V2 := ⟨_, rfl⟩; have SV2 := Lib.hid (ST.out A2 c2); have OV2 := Lib.hid (OT.out A2 c2); have ZV2 := Lib.hid (ZT.out A2 c2); have HM2 := Lib.hid (fun h h2 W h3 h4 => HEM.out h h2 A2 c2 W h3 h4 (Sep.trans HSP.out hsp2 HS.bel.size) hc2 hm2); have HH2 := Lib.hid (fun h h2 w' h3 h4 => HEH.out h h2 A2 c2 w' (Sep.trans HSP.out hsp2 HS.bel.size) hc2 hm2 h3 h4); rw [hV2] at SV2 OV2 ZV2 HM2 HH2 ⊢; clear hV2 hc2 hm2)
              | (with_reducible refine at_any ?_; refine at_dst 11 rfl ?_; refine wpList_alloc_any rfl 34 rfl Z HZ0.out ?_; intro w6 hk6 hs6 hb6)
              | (with_reducible refine at_any ?_; refine at_store 11 rfl ?_; refine wpList_store_any rfl 34 (.tmp 11) (.tmp 40) rfl w5.heap.size rfl 34 Z V2 hk6.out rfl ZV2.out SV2.out OV2.out ?_; intro w7 hk7 hs7 hb7 ho7; have T := Lib.hid (HS.took HZ hrd2 hsp2 hb5 hb6 hk6.out hk7.out hs7.out hb7 ho7))
              | (with_reducible refine at_any ?_; refine at_dst 51 rfl ?_; refine wpList_load_blk rfl 34 (.tmp 11) rfl w5.heap.size rfl 34 V2 hk7.out _ Tryd.underlying34 rfl SV2.out ?_)
              | (with_reducible refine at_any ?_; refine at_store 3 rfl ?_; refine wpList_store_any rfl 34 (.tmp 3) (.tmp 51) rfl g3 rfl 34 V V2 T.out.1.blk rfl (ZV.out.symm.trans ZV2.out) SV2.out OV2.out ?_; intro w9 hk9 hs9 hb9 ho9; have HS9 := Lib.hid (T.out.1.put3 T.out.2.2.1 T.out.2.2.2.1 T.out.2.2.2.2.1 hk9.out hs9.out hb9 ho9); have HZ9 := Lib.hid (T.out.2.1.store T.out.1.blk (T.out.1.hof Z) hs9.out hb9 ho9)))
            have HF := Lib.hid (HM2.out hE0 (by first | exact hx2 | exact Int.not_lt.2 hx2) _ HS9.out HZ9.out)
            clear HS9 HZ9 T
            go_roundw
            case rel => exact ⟨i + 1, by omega, by go_num, HF.out⟩
            case measure => simp [intOf]; omega
        · have t1 : (E == 0) = false := by rw [beq_eq_false_iff_ne]; exact hE0
          have t2 : (E != 0) = true := by rw [bne, t1]; rfl
          go_wp2_with (first
            | (with_reducible refine at_any ?_; refine at_dst 36 rfl ?_; refine wpList_load_blk rfl 34 (.tmp 3) rfl g3 rfl 34 V HS.blk _ Tryd.underlying34 rfl SV.out ?_)
            | (go_at_call 30; (with_reducible refine (HTK.out _ HS.rd (HKS.out.below HS.bel)).mono ?_); rintro e w5 ⟨A2, c2, rfl, hrd2, hc2, hm2, hsp2, hb5⟩; obtain ⟨V2, hV2⟩ : ∃ V2, srcV t A2 c2 = V2 := ⟨_, rfl⟩; have SV2 := Lib.hid (ST.out A2 c2); have OV2 := Lib.hid (OT.out A2 c2); have ZV2 := Lib.hid (ZT.out A2 c2); have HM2 := Lib.hid (fun h h2 W h3 h4 => HEM.out h h2 A2 c2 W h3 h4 (Sep.trans HSP.out hsp2 HS.bel.size) hc2 hm2); have HH2 := Lib.hid (fun h h2 w' h3 h4 => HEH.out h h2 A2 c2 w' (Sep.trans HSP.out hsp2 HS.bel.size) hc2 hm2 h3 h4); rw [hV2] at SV2 OV2 ZV2 HM2 HH2 ⊢; clear hV2 hc2 hm2)
            | (with_reducible refine at_any ?_; refine at_dst 11 rfl ?_; refine wpList_alloc_any rfl 34 rfl Z HZ0.out ?_; intro w6 hk6 hs6 hb6)
            | (with_reducible refine at_any ?_; refine at_store 11 rfl ?_; refine wpList_store_any rfl 34 (.tmp 11) (.tmp 40) rfl w5.heap.size rfl 34 Z V2 hk6.out rfl ZV2.out SV2.out OV2.out ?_; intro w7 hk7 hs7 hb7 ho7; have T := Lib.hid (HS.took HZ hrd2 hsp2 hb5 hb6 hk6.out hk7.out hs7.out hb7 ho7)))
          obtain ⟨HS7, HZ, -⟩ := T.out
          have HZ7 := HZ.drew
          refine wp_region_held_drew (S := (DrS w g3 g7 V A L zs)) (by kernel_rfl) HS7.drew (fun hH => ?_)
          refine wpAnyH_letter #[false, false, false, false, false] (by kernel_rfl) (fun _ _ d _ _ h => by cases d <;> exact h) (fun QL HQ1 HQ2 => ?_)
          refine held_row 0 (some 44) rfl (by kernel_rfl) (by kernel_rfl) (by kernel_rfl) (by kernel_rfl) (fun c a v w h => HQ2.out c a _ v w h) (by kernel_rfl) 34 (.tmp 3) rfl g3 (by kernel_rfl) 34 V (fun _ h => h.blk) _ Tryd.underlying34 rfl SV.out hH ?_
          try simp only [Act.put, List.setIfInBounds_toArray, List.set_cons_zero, List.set_cons_succ]
          refine held_v 1 (some 45) rfl (by kernel_rfl) (by kernel_rfl) (by kernel_rfl) (by kernel_rfl) (fun c a v w h => HQ2.out c a _ v w h) (by kernel_rfl) (.int .i64 E) (fun W h => by kernel_rfl) hH ?_
          try simp only [Act.put, List.setIfInBounds_toArray, List.set_cons_zero, List.set_cons_succ]
          refine held_v 2 (some 6) rfl (by kernel_rfl) (by kernel_rfl) (by kernel_rfl) (by kernel_rfl) (fun c a v w h => HQ2.out c a _ v w h) (by kernel_rfl) (.int .u64 0) (fun W h => by kernel_rfl) hH ?_
          try simp only [Act.put, List.setIfInBounds_toArray, List.set_cons_zero, List.set_cons_succ]
          refine wpAnyH_ready (rs := [3]) (by kernel_rfl) (by decide) ?_
          refine AllReadyH.cons rfl (fun K hK => ?_) AllReadyH.nil
          refine step_store none (by kernel_rfl) (by kernel_rfl) 34 (.tmp 7) (.tmp 44) rfl g7 (by kernel_rfl) 34 Z V HZ7.1 (by kernel_rfl) ZV.out SV.out OV.out ?_
          intro w141 hkw141 hsw141 hbw141 how141
          have ex142 : Fx [.blk g7 34 V] w141 := ⟨hkw141.out, trivial⟩
          refine hK.out _ _ (hH.store HZ7.1 hH.store7 hsw141.out hbw141 how141) (fun hw141 => ?_)
          clear hK K
          try simp only [Act.put, List.setIfInBounds_toArray, List.set_cons_zero, List.set_cons_succ]
          refine held_v 4 (some 8) rfl (by kernel_rfl) (by kernel_rfl) (by kernel_rfl) (by kernel_rfl) (fun c a v w h => HQ2.out c a _ v w h) (by kernel_rfl) (.int .i64 E) (fun W h => by kernel_rfl) hw141 ?_
          try simp only [Act.put, List.setIfInBounds_toArray, List.set_cons_zero, List.set_cons_succ]
          refine wpAnyH_done (by kernel_rfl) ?_ _
          refine HQ1.out _ _ ?_
          clear HQ1 HQ2
          go_wp2_with (refine bodyPost_mid 6 7 8 34 rfl g7 rfl (.int .u64 0) (.int .i64 E) rfl rfl 34 V ex142.1 _ Tryd.underlying34 rfl SV.out rfl ?_)
          exact HEZ.out hE0 _ hw141.rd.rd hw141.bel
      · obtain rfl : i = a := by omega
        rw [Nat.sub_self, drawGo_zero] at hgo
        have HEND : Hid (∀ w', RdP A s.tape.length s.tape w' → Below w.heap.size w w' → RetDraw w s A0 rr (.returned (.tuple #[.int .u64 0, .agg (srcV si A c), .int .i64 9])) w') := Lib.hid (fun w' hr hb => ⟨A, c, by rw [hgo], hr, hcl, hcm, hsp, hb⟩)
        obtain ⟨zs, hzs⟩ : ∃ zs, s.tape = zs := ⟨_, rfl⟩
        obtain ⟨L, hL⟩ : ∃ L, zs.length = L := ⟨_, rfl⟩
        rw [hzs, hL] at HEND HS
        obtain ⟨V, hV⟩ : ∃ V, srcV si A c = V := ⟨_, rfl⟩
        rw [hV] at SV OV ZV HEND HS
        clear hgo oki htp hsp hcl hcm hzs hL hV HTAKE HND HZSS
        go_wp2_with fail
        have HZ7 := HZ.drew
        refine wp_region_held_drew (S := (DrS w g3 g7 V A L zs)) (by kernel_rfl) HS.drew (fun hH => ?_)
        refine wpAnyH_letter #[false, false, false, false] (by kernel_rfl) (fun _ _ d _ _ h => by cases d <;> exact h) (fun QL HQ1 HQ2 => ?_)
        refine held_row 0 (some 53) rfl (by kernel_rfl) (by kernel_rfl) (by kernel_rfl) (by kernel_rfl) (fun c a v w h => HQ2.out c a _ v w h) (by kernel_rfl) 34 (.tmp 3) rfl g3 (by kernel_rfl) 34 V (fun _ h => h.blk) _ Tryd.underlying34 rfl SV.out hH ?_
        try simp only [Act.put, List.setIfInBounds_toArray, List.set_cons_zero, List.set_cons_succ]
        refine held_v 1 (some 6) rfl (by kernel_rfl) (by kernel_rfl) (by kernel_rfl) (by kernel_rfl) (fun c a v w h => HQ2.out c a _ v w h) (by kernel_rfl) (.int .u64 0) (fun W h => by kernel_rfl) hH ?_
        try simp only [Act.put, List.setIfInBounds_toArray, List.set_cons_zero, List.set_cons_succ]
        refine wpAnyH_ready (rs := [2]) (by kernel_rfl) (by decide) ?_
        refine AllReadyH.cons rfl (fun K hK => ?_) AllReadyH.nil
        refine step_store none (by kernel_rfl) (by kernel_rfl) 34 (.tmp 7) (.tmp 53) rfl g7 (by kernel_rfl) 34 Z V HZ7.1 (by kernel_rfl) ZV.out SV.out OV.out ?_
        intro w41 hkw41 hsw41 hbw41 how41
        have ex42 : Fx [.blk g7 34 V] w41 := ⟨hkw41.out, trivial⟩
        refine hK.out _ _ (hH.store HZ7.1 hH.store7 hsw41.out hbw41 how41) (fun hw41 => ?_)
        clear hK K
        try simp only [Act.put, List.setIfInBounds_toArray, List.set_cons_zero, List.set_cons_succ]
        refine held_v 3 (some 8) rfl (by kernel_rfl) (by kernel_rfl) (by kernel_rfl) (by kernel_rfl) (fun c a v w h => HQ2.out c a _ v w h) (by kernel_rfl) (.int .i64 9) (fun W h => by kernel_rfl) hw41 ?_
        try simp only [Act.put, List.setIfInBounds_toArray, List.set_cons_zero, List.set_cons_succ]
        refine wpAnyH_done (by kernel_rfl) ?_ _
        refine HQ1.out _ _ ?_
        clear HQ1 HQ2
        go_wp2_with (refine bodyPost_mid 6 7 8 34 rfl g7 rfl (.int .u64 0) (.int .i64 9) rfl rfl 34 V ex42.1 _ Tryd.underlying34 rfl SV.out rfl ?_)
        exact HEND.out _ hw41.rd hw41.bel
end Go.Proofs.YtepclbmcacdhlaaDoor
/-
  The library's contracts for bits.TrailingZeros, bits.Len and slices.Grow, laid over this program.
  Conditions: those that each theorem names.
-/
set_option maxRecDepth 100000
set_option linter.unusedVariables false
set_option linter.unusedSimpArgs false
namespace Go.Proofs.YtepclbmcacdhlaaDoor
def renT : Go.Shelf.Ren := ⟨fun | 27 => 42 | 28 => 48 | 29 => 49 | n => n, fun | 0 => 0 | 3 => 3 | 4 => 4 | 5 => 5 | 22 => 24 | 25 => 64 | 27 => 49 | 53 => 31 | 54 => 80 | n => n, fun | 0 => 0 | 1 => 1 | n => n⟩
theorem laysT27 : Go.Proofs.Lays7.n27 Tryd.prog renT where
  mixed := by kernel_rfl
  f27 := Tryd.func42.trans (congrArg some (by kernel_rfl))
  f28 := Tryd.func48.trans (congrArg some (by kernel_rfl))
  f29 := Tryd.func49.trans (congrArg some (by kernel_rfl))
  t0 := Tryd.underlying0
  a0 := Tryd.isAgg0
  z0 := Tryd.sizeOf0
  v0 := Tryd.zeroValue0
  i0 := by kernel_rfl
  t3 := Tryd.underlying3
  a3 := Tryd.isAgg3
  z3 := Tryd.sizeOf3
  v3 := Tryd.zeroValue3
  i3 := by kernel_rfl
  t4 := Tryd.underlying4
  a4 := Tryd.isAgg4
  z4 := Tryd.sizeOf4
  v4 := Tryd.zeroValue4
  i4 := by kernel_rfl
  t5 := Tryd.underlying5
  a5 := Tryd.isAgg5
  z5 := Tryd.sizeOf5
  v5 := Tryd.zeroValue5
  i5 := by kernel_rfl
  t22 := Tryd.underlying24
  a22 := Tryd.isAgg24
  z22 := Tryd.sizeOf24
  v22 := Tryd.zeroValue24
  i22 := by kernel_rfl
  t25 := Tryd.underlying64
  a25 := Tryd.isAgg64
  z25 := Tryd.sizeOf64
  v25 := Tryd.zeroValue64
  i25 := by kernel_rfl
  t27 := Tryd.underlying49
  a27 := Tryd.isAgg49
  z27 := Tryd.sizeOf49
  v27 := Tryd.zeroValue49
  i27 := by kernel_rfl
  t53 := Tryd.underlying31
  a53 := Tryd.isAgg31
  z53 := Tryd.sizeOf31
  v53 := Tryd.zeroValue31
  i53 := by kernel_rfl
  t54 := Tryd.underlying80
  a54 := Tryd.isAgg80
  z54 := Tryd.sizeOf80
  g0 := by kernel_rfl
  g1 := by kernel_rfl
def renL : Go.Shelf.Ren := ⟨fun | 125 => 40 | 128 => 44 | 129 => 45 | n => n, fun | 3 => 3 | 4 => 4 | 5 => 5 | 9 => 9 | 46 => 64 | 51 => 49 | 53 => 24 | n => n, fun n => n⟩
theorem laysL125 : Go.Proofs.Lays.n125 Tryd.prog renL where
  mixed := by kernel_rfl
  f125 := Tryd.func40.trans (congrArg some (by kernel_rfl))
  f128 := Tryd.func44.trans (congrArg some (by kernel_rfl))
  f129 := Tryd.func45.trans (congrArg some (by kernel_rfl))
  t3 := Tryd.underlying3
  a3 := Tryd.isAgg3
  z3 := Tryd.sizeOf3
  v3 := Tryd.zeroValue3
  t4 := Tryd.underlying4
  a4 := Tryd.isAgg4
  z4 := Tryd.sizeOf4
  v4 := Tryd.zeroValue4
  t5 := Tryd.underlying5
  a5 := Tryd.isAgg5
  z5 := Tryd.sizeOf5
  v5 := Tryd.zeroValue5
  t9 := Tryd.underlying9
  a9 := Tryd.isAgg9
  z9 := Tryd.sizeOf9
  v9 := Tryd.zeroValue9
  t46 := Tryd.underlying64
  a46 := Tryd.isAgg64
  z46 := Tryd.sizeOf64
  v46 := Tryd.zeroValue64
  t51 := Tryd.underlying49
  a51 := Tryd.isAgg49
  z51 := Tryd.sizeOf49
  v51 := Tryd.zeroValue49
  t53 := Tryd.underlying24
  a53 := Tryd.isAgg24
  z53 := Tryd.sizeOf24
  v53 := Tryd.zeroValue24
end Go.Proofs.YtepclbmcacdhlaaDoor
/-
  The lowest and the highest bit by the library's calls; its table, laid by the program's text.
  Conditions: the table reads, when the call begins, as the program's text lays it (the card ties that).
-/
set_option maxRecDepth 100000
set_option linter.unusedVariables false
set_option linter.unusedSimpArgs false
namespace Go.Proofs.YtepclbmcacdhlaaDoor
open Go.ChangeShapes Go.WideShapes Go.ChangeAt Go.RowKit
theorem TzT.at_ {w : World} (h : TzT w) : TabAt 1 Lib.deBruijn64tab w := by
  intro j hj
  have h1 := Lib.TabIs.cell h gTz j (by unfold tzTab; rw [List.length_map]; exact hj)
  rw [h1]
  congr 2
  unfold tzTab
  simp [List.getD, hj]
/-- What bits.TrailingZeros returns. -/
theorem tz_c (n : Nat) (h0 : n ≠ 0) (hn : n < 18446744073709551616) (w : World) (hT : TzT w) : Calls Tryd.prog 42 #[.int .u64 (n : Int)] w fun e w' => e = .returned (.int .i64 ((Lib.ctz 64 n : Nat) : Int)) ∧ w = w' :=
  (Any7.bits_TrailingZeros laysT27 n hn w (fun _ => hT.at_)).mono fun e w' h => ⟨h.1, h.2.symm⟩
theorem ctz_low (n : Nat) (h0 : n ≠ 0) (hn : n < 18446744073709551616) : 2 ^ Lib.ctz 64 n = lowN n ∧ Lib.ctz 64 n < 64 := by
  obtain ⟨h1, h2⟩ := Lib.lowest_bit 64 n h0 (by omega)
  exact ⟨by rw [← h1]; exact land_low 64 n h0 (by omega), h2⟩
/-- What bits.Len returns. -/
theorem len_c (n : Nat) (hn : n < 18446744073709551616) (w : World) : Calls Tryd.prog 40 #[.int .u64 (n : Int)] w fun e w' => e = .returned (.int .i64 ((Lib.bitLen n : Nat) : Int)) ∧ w = w' :=
  (Any.bits_Len laysL125 (n : Int) w (by omega) (by omega)).mono fun e w' h => ⟨by rw [h.1, Int.toNat_natCast], h.2.symm⟩
theorem bitLen_is (n : Nat) (h0 : n ≠ 0) (hn : n < 18446744073709551616) : ∃ k, Lib.bitLen n = k + 1 ∧ 2 ^ k ≤ n ∧ n < 2 ^ (k + 1) := by
  induction n using Nat.strongRecOn with
  | ind n ih =>
    have h1 := Lib.bitLen_half n h0 (by omega)
    by_cases h2 : n / 2 = 0
    · refine ⟨0, ?_, by omega, by omega⟩
      rw [h1, h2]
      rfl
    · obtain ⟨k, e1, e2, e3⟩ := ih (n / 2) (by omega) h2 (by omega)
      have e4 : 2 ^ (k + 1) = 2 * 2 ^ k := by rw [Nat.pow_succ, Nat.mul_comm]
      have e5 : 2 ^ (k + 1 + 1) = 2 * 2 ^ (k + 1) := by rw [Nat.pow_succ, Nat.mul_comm]
      exact ⟨k + 1, by rw [h1, e1, Nat.add_comm], by omega, by omega⟩
theorem bitLen_zero : Lib.bitLen 0 = 0 := rfl
/-! ### the table, laid by the program's text -/
abbrev laidT : List (String × DataW Unit) := [("math/bits.deBruijn32tab", Rows.laid_math_bits_deBruijn32tab), ("math/bits.deBruijn64tab", Rows.laid_math_bits_deBruijn64tab)]
theorem laidTz : (Rows.laid_math_bits_deBruijn64tab : DataW Unit) = Lib.tabData .u8 tzTab := by kernel_rfl
theorem tzT_of_laid {W : World} (h : laidMetH Tryd.prog laidT W) : TzT W := by
  rw [MakeChecks.laidMetH_plain _ _ _ (by kernel_rfl)] at h
  obtain ⟨ps, ⟨_, _, _, _, _, _, _, _, _, _, ⟨g0, t0, cs0, f0, p0, q0, hg0, ht0, hv0, hd0, _⟩, _⟩, _⟩ := h
  obtain rfl := Option.some.inj (gTz.symm.trans hg0)
  obtain rfl := Option.some.inj (tTz.symm.trans ht0)
  rw [laidTz] at hd0
  unfold TzT Lib.TabIs
  rw [hv0, ← Lib.cells_of_tab Tryd.underlying80 Tryd.underlying5 (by kernel_rfl) (by kernel_rfl) hd0]
/-- The heap that the program's own start leaves meets the condition. -/
theorem door_metT (os : Os) (args : Array Value) : laidMetH Tryd.prog laidT ((World.doorLaid Tryd.prog 400 os).forCall (fun _ _ => 0) ⟨#[], args, []⟩).memory :=
  laidMetH_of_parts3 (fuel := 8) (laidMet_of_run' 8 (by kernel_rfl) (by kernel_rfl)) (by kernel_rfl) (by kernel_rfl)
end Go.Proofs.YtepclbmcacdhlaaDoor
/-
  The lowest bit of a number by bits.TrailingZeros, the highest by bits.Len; the sum of the first stakes of a tree.
  Conditions: the tree is that of a list of stakes; the library's table of trailing zeros is as the program's text lays it.
-/
set_option maxRecDepth 100000
set_option linter.unusedVariables false
set_option linter.unusedSimpArgs false
namespace Go.Proofs.YtepclbmcacdhlaaDoor
open Go.ChangeShapes Go.WideShapes Go.ChangeAt Go.RowKit
theorem q11low_c (n : Nat) (h0 : n ≠ 0) (hn : n < 9223372036854775808) (w : World) (hT : TzT w) : Calls Tryd.prog 35 #[.int .i64 (n : Int)] w fun e w' => e = .returned (.int .i64 ((lowN n : Nat) : Int)) ∧ w = w' := by
  obtain ⟨h1, h2⟩ := ctz_low n h0 (by omega)
  have hle := lowN_le n
  have HTZ := Lib.hid (tz_c n h0 (by omega) w hT)
  obtain ⟨L, hL⟩ : ∃ x : Nat, lowN n = x := ⟨_, rfl⟩
  rw [hL] at h1 hle ⊢
  obtain ⟨N, hN⟩ : ∃ x : Int, (n : Int) = x := ⟨_, rfl⟩
  rw [hN] at HTZ ⊢
  obtain ⟨k, hk⟩ : ∃ x : Nat, Lib.ctz 64 n = x := ⟨_, rfl⟩
  rw [hk] at HTZ h1 h2
  have hw : Go.IntKind.u64.wrap N = N := by rw [Go.IntKind.wrap_u64]; omega
  have hs : wrap64 ((2 : Int) ^ k) = ((L : Nat) : Int) := by
    have e : ((2 : Int) ^ k) = ((2 ^ k : Nat) : Int) := by simp
    rw [e, h1]
    simp only [wrap64]
    omega
  have k0 : (0 : Int) ≤ (k : Int) := by omega
  have k1 : (k : Int) < 64 := by omega
  clear hL h0 hn hN hk hT h1 h2 hle
  go_enter Tryd.func35, Tryd.ntmps35
  go_wp2_with (first
    | (go_at_call 42; (with_reducible refine HTZ.out.mono ?_); rintro e _ ⟨rfl, rfl⟩))
  go_ret
  exact ⟨by first | rfl | (rw [hs]; rfl), rfl⟩
theorem q11high_zero (w : World) : Calls Tryd.prog 31 #[.int .i64 0] w fun e w' => e = .returned (.int .i64 0) ∧ w = w' := by
  have HTZ := Lib.hid (len_c 0 (by omega) w)
  rw [bitLen_zero] at HTZ
  simp only [show ((0 : Nat) : Int) = 0 from rfl] at HTZ
  go_enter Tryd.func31, Tryd.ntmps31
  go_wp2_with (first
    | (go_at_call 40; (with_reducible refine HTZ.out.mono ?_); rintro e _ ⟨rfl, rfl⟩))
  go_ret
  exact ⟨by first | rfl | (rw [hs]; rfl), rfl⟩
theorem q11high_c (n k : Nat) (h1 : 2 ^ k ≤ n) (h2 : n < 2 ^ (k + 1)) (hn : n ≤ 1048576) (w : World) : Calls Tryd.prog 31 #[.int .i64 (n : Int)] w fun e w' => e = .returned (.int .i64 ((2 ^ k : Nat) : Int)) ∧ w = w' := by
  have hp : 1 ≤ 2 ^ k := Nat.one_le_two_pow
  obtain ⟨k', e1, e2, e3⟩ := bitLen_is n (by omega) (by omega)
  obtain rfl : k = k' := by
    rcases Nat.lt_trichotomy k k' with h | h | h
    · have := Nat.pow_le_pow_right (n := 2) (by omega) (show k + 1 ≤ k' by omega)
      omega
    · exact h
    · have := Nat.pow_le_pow_right (n := 2) (by omega) (show k' + 1 ≤ k by omega)
      omega
  have HTZ := Lib.hid (len_c n (by omega) w)
  rw [e1] at HTZ
  have hk20 : k < 21 := by
    rcases Nat.lt_or_ge k 21 with h | h
    · exact h
    · have := Nat.pow_le_pow_right (n := 2) (by omega) h
      omega
  have hpk : 2 ^ (k + 1) = 2 * 2 ^ k := by rw [Nat.pow_succ, Nat.mul_comm]
  obtain ⟨P, hP⟩ : ∃ x : Nat, 2 ^ k = x := ⟨_, rfl⟩
  rw [hP] at h1 hp hpk e2 ⊢
  obtain ⟨K, hK⟩ : ∃ x : Nat, k + 1 = x := ⟨_, rfl⟩
  rw [hK] at HTZ hpk e3 h2
  obtain ⟨N, hN⟩ : ∃ x : Int, (n : Int) = x := ⟨_, rfl⟩
  rw [hN] at HTZ ⊢
  have hw : Go.IntKind.u64.wrap N = N := by rw [Go.IntKind.wrap_u64]; omega
  have hs : wrap64 ((2 : Int) ^ K) = 2 * ((P : Nat) : Int) := by
    have e : ((2 : Int) ^ K) = ((2 ^ K : Nat) : Int) := by simp
    rw [e, hpk]
    simp only [wrap64]
    omega
  have hd : (2 * (P : Int)) / 2 = (P : Int) := by omega
  have k0 : (0 : Int) ≤ (K : Int) := by omega
  have k1 : (K : Int) < 64 := by omega
  clear hN hn h1 h2 e1 e2 e3 hk20 hpk hp hP hK
  go_enter Tryd.func31, Tryd.ntmps31
  go_wp2_with (first
    | (go_at_call 40; (with_reducible refine HTZ.out.mono ?_); rintro e _ ⟨rfl, rfl⟩))
  go_ret
  exact ⟨by first | rfl | (rw [hs]; rfl), rfl⟩
set_option maxHeartbeats 4000000 in
theorem q11first_c (l : List Int) (hz : ∀ z ∈ l, 0 ≤ z) (hs : sumL l < 9223372036854775808) (A : Option Addr) (m c : Nat) (hm : l.length = m) (hl : m ≤ 1048576) (n : Nat) (hn : n ≤ m) (w : World) (hT : TzT w) (hrd : Rd .u64 w w.heap.size A m (treeL l)) : Calls Tryd.prog 25 #[.agg #[.slice A m c], .int .i64 (n : Int)] w fun e w' => e = .returned (.int .u64 (preL l n)) ∧ Below w.heap.size w w' := by
  have HR := Lib.hid hrd
  have HLOW := Lib.hid (fun j (h : j ≠ 0) (h2 : j ≤ n) => preL_low (l := l) (n := j) h (by omega))
  have HMO := Lib.hid (fun a b (h : a ≤ b) => preL_mono hz (l := l) h)
  have HNN := Lib.hid (fun a => preL_nn hz (l := l) a)
  have HLE := Lib.hid (fun a => Int.lt_of_le_of_lt (preL_le hz (l := l) a) hs)
  have HLC := Lib.hid (fun j (h : j ≠ 0) (h2 : j ≤ n) W hW => q11low_c j h (by omega) W hW)
  have hmI : (m : Int) ≤ 1048576 := by omega
  have HTT := Lib.hid hT
  clear hrd hz hs hm hT
  go_enter Tryd.func25, Tryd.ntmps25
  go_wp2_with (with_reducible refine at_any ?_; refine at_dst 2 rfl ?_; refine wpList_box_any rfl 27 (.tmp 0) rfl #[.slice A m c] rfl ?_; intro w1 hk1 hs1 hb1; have HK1 := Lib.hid hk1.out; have HB1 := Lib.hid hb1; clear hk1 hs1 hb1)
  obtain ⟨g2, hg2⟩ : ∃ g, w.heap.size = g := ⟨_, rfl⟩
  have HC : Hid (w1.cell? ⟨g2, 0, none⟩ = some (.slice A m c)) := Lib.hid (by rw [← hg2]; exact Blk.cell0 HK1.out)
  have HR1A := Lib.hid (HR1 HR.out HB1.out)
  have HT1 := Lib.hid (HTT.out.below HB1.out)
  rw [hg2]
  clear hg2 HK1 HR
  go_loopw [1, 5] (fun nn ss wr => ∃ j : Nat, j ≤ n ∧ nn = .int .i64 (j : Int) ∧ ss = .int .u64 (preL l n - preL l j) ∧ w1 = wr) (fun nn _ _ => (intOf nn).toNat)
  case atStart => exact ⟨n, Nat.le_refl _, rfl, by rw [Int.sub_self], by first | rfl | trivial⟩
  case round =>
    obtain ⟨j, hj, rfl, rfl, rfl⟩ := hrel
    by_cases hlt : 0 < j
    · obtain ⟨g, off, rfl, -, hc⟩ := HR1A.out.at_ (by omega)
      have hck := hc (j - 1) (by omega)
      have hpl := HLOW.out j (by omega) hj
      have hlow := lowN_le j
      have hlp := lowN_pos (n := j) (by omega)
      have hlc := HLC.out j (by omega) hj
      obtain ⟨q, hq⟩ : ∃ q, j - 1 = q := ⟨_, rfl⟩
      obtain ⟨lo, hlo⟩ : ∃ x, lowN j = x := ⟨_, rfl⟩
      rw [hq] at hck hpl
      rw [hlo] at hpl hlow hlp hlc
      obtain ⟨r, hr⟩ : ∃ r : Nat, j - lo = r := ⟨_, rfl⟩
      rw [hr] at hpl
      have h1 := HMO.out j n hj
      have h2 := HNN.out r
      have h3 := HLE.out n
      have h4 := HMO.out r j (by omega)
      obtain ⟨z, hzz⟩ : ∃ z, (treeL l).getD q 0 = z := ⟨_, rfl⟩
      obtain ⟨pn, hpn⟩ : ∃ z, preL l n = z := ⟨_, rfl⟩
      obtain ⟨pj, hpj⟩ : ∃ z, preL l j = z := ⟨_, rfl⟩
      obtain ⟨pr, hpr⟩ : ∃ z, preL l r = z := ⟨_, rfl⟩
      rw [hzz] at hck hpl
      rw [hpn] at h1 h3 ⊢
      rw [hpj] at hpl h1 h4 ⊢
      rw [hpr] at hpl h2 h4
      obtain ⟨s, hs⟩ : ∃ s, pn - pj = s := ⟨_, rfl⟩
      rw [hs]
      have HNP : Hid (s + z = pn - preL l r) := Lib.hid (by rw [hpr]; omega)
      have s0 : 0 ≤ s := by omega
      have z0 : 0 ≤ z := by omega
      have sz : s + z < 9223372036854775808 := by omega
      have hjI : (0 : Int) < (j : Int) := by omega
      have hqI : (j : Int) - 1 = (q : Int) := by omega
      have hqm : (q : Int) < (m : Int) := by omega
      have hq0 : (0 : Int) ≤ (q : Int) := by omega
      have hjm : (j : Int) ≤ 1048576 := by omega
      have hrI : (j : Int) - (lo : Int) = (r : Int) := by omega
      have hrm : (r : Int) ≤ 1048576 := by omega
      have hr0 : (0 : Int) ≤ (r : Int) := by omega
      have cz := HC.out
      have HLCJ := Lib.hid hlc
      have HPN := Lib.hid hpn
      have hrj : r < j := by omega
      clear hc hpl hlow hlp hlc hq hlo hr h1 h2 h3 h4 hzz hpn hpj hpr hs
      go_wp2_with (go_at_call 35; (with_reducible refine (HLCJ.out _ HT1.out).mono ?_); rintro e _ ⟨rfl, rfl⟩)
      go_roundw
      case rel => exact ⟨r, by omega, by go_num, by rw [HNP.out], by first | rfl | trivial⟩
      case measure => simp [intOf]; omega
    · obtain rfl : j = 0 := by omega
      rw [show preL l 0 = 0 from rfl, Int.sub_zero]
      rw [show ((0 : Nat) : Int) = 0 from rfl]
      go_wp2
      go_ret
      exact ⟨rfl, HB1.out⟩
theorem q11len_c (A : Option Addr) (n c : Nat) (w : World) : Calls Tryd.prog 26 #[.agg #[.slice A n c]] w fun e w' => e = .returned (.int .i64 (n : Int)) ∧ Below w.heap.size w w' := by
  go_enter Tryd.func26, Tryd.ntmps26
  go_wp2_with (first
    | (with_reducible refine at_any ?_; refine at_dst 1 rfl ?_; refine wpList_box_any rfl 27 (.tmp 0) rfl #[.slice A n c] rfl ?_; intro w1 hk1 hs1 hb1; have HK1 := Lib.hid hk1.out; have HB1 := Lib.hid hb1; have cz := Blk.cell0 HK1.out; clear hk1 hs1 hb1))
  go_ret
  exact ⟨rfl, HB1.out⟩
end Go.Proofs.YtepclbmcacdhlaaDoor
/-
  What a tree's calls that read it return: its length, the sums of its first stakes, their total, a stake.
  Conditions: the tree is that of a list of stakes; the library's table of trailing zeros is as the program's text lays it.
-/
set_option maxRecDepth 100000
set_option linter.unusedVariables false
set_option linter.unusedSimpArgs false
set_option linter.unusedSectionVars false
namespace Go.Proofs.YtepclbmcacdhlaaDoor
open Go.ChangeShapes Go.WideShapes Go.ChangeAt Go.RowKit
section
variable (l : List Int) (hz : ∀ z ∈ l, 0 ≤ z) (hs : sumL l < 9223372036854775808) (hl : l.length ≤ 1048576) (A : Option Addr) (n c : Nat) (hn : l.length = n) (hc : n ≤ c) (hcm : c ≤ maxLen)
include hz hs hl hn hc hcm
set_option maxHeartbeats 2000000 in
theorem q11total_c (w : World) (hT : TzT w) (hrd : Rd .u64 w w.heap.size A n (treeL l)) : Calls Tryd.prog 20 #[.agg #[.slice A n c]] w fun e w' => e = .returned (.int .u64 (sumL l)) ∧ Below w.heap.size w w' := by
  have HR := Lib.hid hrd
  have HTT := Lib.hid hT
  have hf := fun W hW h => q11first_c l hz hs A n c hn (by omega) n (Nat.le_refl _) W hW h
  rw [← hn, preL_all, hn] at hf
  obtain ⟨x, hx⟩ : ∃ x, sumL l = x := ⟨_, rfl⟩
  obtain ⟨ts, hts⟩ : ∃ x, treeL l = x := ⟨_, rfl⟩
  rw [hts] at hf HR
  rw [hx] at hf ⊢
  have HF := Lib.hid hf
  have hnI : (n : Int) ≤ 1048576 := by omega
  clear hrd hz hs hl hn hc hcm hf hx hT hts
  go_enter Tryd.func20, Tryd.ntmps20
  go_wp2_with (first
    | (with_reducible refine at_any ?_; refine at_dst 1 rfl ?_; refine wpList_box_any rfl 27 (.tmp 0) rfl #[.slice A n c] rfl ?_; intro w1 hk1 hs1 hb1; have HK1 := Lib.hid hk1.out; have HB1 := Lib.hid hb1; clear hk1 hs1 hb1))
  obtain ⟨gB, hgB⟩ : ∃ g, w.heap.size = g := ⟨_, rfl⟩
  have G1 : Hid (Fx [.blk gB 27 #[.slice A n c], .rdb .u64 w.heap.size A n ts, .bel w] w1) := Lib.hid ⟨by rw [← hgB]; exact HK1.out, ⟨HR.out.below HB1.out, HB1.out.size⟩, HB1.out, trivial⟩
  have cG := Blk.cell0 (Fx.b0 G1.out)
  rw [hgB]
  clear hgB HK1
  refine wp_region_held_drew (S := (Fx [.blk gB 27 #[.slice A n c], .rdb .u64 w.heap.size A n ts, .bel w])) (by kernel_rfl) (Fx.drew G1.out) (fun hH => ?_)
  refine wpAnyH_letter #[false, false, false, false, false] (by kernel_rfl) (fun _ _ d _ _ h => by cases d <;> exact h) (fun QL HQ1 HQ2 => ?_)
  refine held_row 0 (some 3) rfl (by kernel_rfl) (by kernel_rfl) (by kernel_rfl) (by kernel_rfl) (fun c a v w h => HQ2.out c a _ v w h) (by kernel_rfl) 27 (.tmp 1) rfl gB (by kernel_rfl) 27 #[.slice A n c] (fun _ h => (Fx.b0 h)) _ Tryd.underlying27 rfl (sizedF _) hH ?_
  try simp only [Act.put, List.setIfInBounds_toArray, List.set_cons_zero, List.set_cons_succ]
  refine held_row 1 (some 4) rfl (by kernel_rfl) (by kernel_rfl) (by kernel_rfl) (by kernel_rfl) (fun c a v w h => HQ2.out c a _ v w h) (by kernel_rfl) 27 (.tmp 1) rfl gB (by kernel_rfl) 27 #[.slice A n c] (fun _ h => (Fx.b0 h)) _ Tryd.underlying27 rfl (sizedF _) hH ?_
  try simp only [Act.put, List.setIfInBounds_toArray, List.set_cons_zero, List.set_cons_succ]
  refine wpAnyH_ready (rs := [2]) (by kernel_rfl) (by decide) ?_
  refine AllReadyH.cons rfl (fun K hK => ?_) AllReadyH.nil
  refine step_call (some 5) (by kernel_rfl) (by kernel_rfl) _ _ (by kernel_rfl) _ (q11len_c A n c _) ?_
  rintro e w41 ⟨rfl, hbw41⟩
  refine ⟨_, rfl, ?_⟩
  refine hK.out _ _ (hH.below hbw41) (fun hw41 => ?_)
  clear hK K
  try simp only [Act.put, List.setIfInBounds_toArray, List.set_cons_zero, List.set_cons_succ]
  refine wpAnyH_ready (rs := [3]) (by kernel_rfl) (by decide) ?_
  refine AllReadyH.cons rfl (fun K hK => ?_) AllReadyH.nil
  refine step_call (some 6) (by kernel_rfl) (by kernel_rfl) _ _ (by kernel_rfl) _ (HF.out _ (HTT.out.below (Fx.e2 hw41)) (Fx.r1 hw41)) ?_
  rintro e w42 ⟨rfl, hbw42⟩
  refine ⟨_, rfl, ?_⟩
  refine hK.out _ _ (hw41.below hbw42) (fun hw42 => ?_)
  clear hK K
  try simp only [Act.put, List.setIfInBounds_toArray, List.set_cons_zero, List.set_cons_succ]
  refine held_v 4 (some 2) rfl (by kernel_rfl) (by kernel_rfl) (by kernel_rfl) (by kernel_rfl) (fun c a v w h => HQ2.out c a _ v w h) (by kernel_rfl) (.int .u64 x) (fun W h => by kernel_rfl) hw42 ?_
  try simp only [Act.put, List.setIfInBounds_toArray, List.set_cons_zero, List.set_cons_succ]
  refine wpAnyH_done (by kernel_rfl) ?_ _
  refine HQ1.out _ _ ?_
  clear HQ1 HQ2
  go_wp2
  go_ret
  exact ⟨rfl, Fx.e2 hw42⟩
end
end Go.Proofs.YtepclbmcacdhlaaDoor
/-
  What the library's slices.Clone, Equal and Concat return of numbers of 64 bits.
  Conditions: those that each theorem names.
-/
set_option maxRecDepth 100000
set_option linter.unusedVariables false
set_option linter.unusedSimpArgs false
namespace Go.Proofs.YtepclbmcacdhlaaDoor
open Go.ChangeShapes Go.WideShapes Go.ChangeAt Go.RowKit
theorem ret_bool64 {p q : Bool} (h : p = q) : Ending.returned (.bool p) = .returned (.bool q) := by rw [h]
/-- A row of the call's own is handed back. -/
def RetOwn (w : World) (l : List Int) (e : Ending) (w' : World) : Prop := ∃ v, e = .returned v ∧ OwnI w' w.heap.size 24 .u64 v l ∧ Below w.heap.size w w'
theorem clone64_c (l : List Int) (A : Option Addr) (n c : Nat) (hn : n ≤ 100000000) (w : World) (hrd : Rd .u64 w w.heap.size A n l) : Calls Tryd.prog 34 #[.slice A n c] w (RetOwn w l) := by
  have q22 : ∀ (w : World) (a : Option Addr) (n c n' c' : Nat), (binOp .eql 22 (.slice a n c) (.slice none n' c')).run Tryd.prog w = .ok (.bool a.isNone) w := fun w a n c n' c' => Lib.run_eql_slice_nil w _ _ a n c n' c' Tryd.underlying22
  have hlen := hrd.len
  cases A with
  | none =>
    have hn0 : n = 0 := by
      rcases Nat.eq_zero_or_pos n with h | h
      · exact h
      · obtain ⟨g, off, e, _⟩ := hrd.at_ h
        cases e
    obtain rfl : l = [] := List.length_eq_zero_iff.1 (by omega)
    clear hlen hrd hn
    go_enter Tryd.func34, Tryd.ntmps34
    go_wp2
    go_ret
    exact ⟨_, rfl, OwnI.empty _ _ _ _, Below.refl _ _⟩
  | some a =>
    have HR := Lib.hid hrd
    have HN := Lib.hid hn
    clear hlen hrd hn
    go_enter Tryd.func34, Tryd.ntmps34
    go_wp2_with (first
      | (at_builtin; refine wpList_own_copy8o w rfl (.tmp 5) (.tmp 6) rfl rfl (some a) n c l rfl HR.out HN.out ?_; intro v w2 hb2 ho2; have HB2 := Lib.hid hb2; have HO2 := Lib.hid ho2; clear hb2 ho2))
    go_ret
    exact ⟨_, rfl, HO2.out, HB2.out⟩
end Go.Proofs.YtepclbmcacdhlaaDoor
/-
  Plain lemmas on a tree that is built, unbuilt and set number by number: bounds, one step back, the chain of the numbers that hold a place.
  Conditions: those that each theorem names.
-/
set_option maxRecDepth 100000
set_option linter.unusedVariables false
set_option linter.unusedSimpArgs false
namespace Go.Proofs.YtepclbmcacdhlaaDoor
theorem cov_bd {M : Nat} (h : M ≠ 0) : ∀ k, M - lowN M ≤ covN M k ∧ covN M k ≤ M - 1
  | 0 => by
    have h1 := lowN_pos h
    show M - lowN M ≤ M - lowN M ∧ M - lowN M ≤ M - 1
    omega
  | k + 1 => by
    rw [covN]
    split
    · rename_i e
      have := child_in (by omega) e
      omega
    · exact cov_bd h k
theorem bldF_bd {l : List Int} (hz : ∀ z ∈ l, 0 ≤ z) (k m : Nat) (hm : m < l.length) : 0 ≤ (bldF l k).getD m 0 ∧ (bldF l k).getD m 0 ≤ sumL l := by
  rw [bldF_at k hm]
  obtain ⟨h1, h2⟩ := cov_bd (M := m + 1) (by omega) k
  have h3 := preL_mono hz h1
  have h4 := preL_mono hz (show covN (m + 1) k ≤ m by omega)
  have h5 := preL_next hm
  have h6 := preL_le hz (m + 1)
  have h7 := preL_nn hz (m + 1 - lowN (m + 1))
  have h8 := preL_nn hz (covN (m + 1) k)
  have h9 : 0 ≤ l.getD m 0 := by
    have := preL_mono hz (show m ≤ m + 1 by omega)
    omega
  omega
theorem bldF_keep {l : List Int} {k j : Nat} (hj : j < l.length) (h : j ≠ k + lowN (k + 1)) : (bldF l (k + 1)).getD j 0 = (bldF l k).getD j 0 := by
  rw [bldF_at _ hj, bldF_at _ hj, covN, if_neg (by omega)]
/-- One step back. -/
theorem bldF_prev {l : List Int} {k : Nat} (hk : k < l.length) (h : k + 1 + lowN (k + 1) ≤ l.length) : (bldF l (k + 1)).set (k + lowN (k + 1)) ((bldF l (k + 1)).getD (k + lowN (k + 1)) 0 - (bldF l (k + 1)).getD k 0) = bldF l k := by
  have hp := lowN_pos (n := k + 1) (by omega)
  have h1 := bldF_next hk h
  have h2 : (bldF l (k + 1)).getD (k + lowN (k + 1)) 0 = (bldF l k).getD (k + lowN (k + 1)) 0 + (bldF l k).getD k 0 := by
    rw [← h1, List.getD_eq_getElem?_getD, List.getElem?_set_self (by rw [bldF_len]; omega)]
    rfl
  have h3 := bldF_keep (l := l) (k := k) hk (by omega)
  rw [h2, h3]
  apply ext_getD (by rw [List.length_set, bldF_len, bldF_len])
  intro j hj
  rw [List.length_set, bldF_len] at hj
  by_cases hjo : j = k + lowN (k + 1)
  · subst hjo
    rw [List.getD_eq_getElem?_getD, List.getElem?_set_self (by rw [bldF_len]; exact hj)]
    show (bldF l k).getD (k + lowN (k + 1)) 0 + (bldF l k).getD k 0 - (bldF l k).getD k 0 = _
    omega
  · rw [List.getD_eq_getElem?_getD, List.getElem?_set_ne (fun h => hjo h.symm), ← List.getD_eq_getElem?_getD, bldF_keep hj hjo]
/-! ### a stake that is set: the chain -/
/-- Where the walk stands: what holds p is what holds the place, from p on. -/
def chainP (i p : Nat) : Prop := p ≠ 0 ∧ ∀ m, holdsP m p ↔ (holdsP m (i + 1) ∧ p ≤ m)
theorem chain_zero (i : Nat) : chainP i (i + 1) := ⟨by omega, fun m => ⟨fun h => ⟨h, h.2⟩, fun h => h.1⟩⟩
theorem chain_next {i p : Nat} (h : chainP i p) : chainP i (p + lowN p) := by
  obtain ⟨h0, h1⟩ := h
  have hp := lowN_pos h0
  refine ⟨by omega, fun m => ⟨fun hm => ?_, fun hm => ?_⟩⟩
  · exact ⟨((h1 m).1 (holds_back h0 hm)).1, hm.2⟩
  · obtain ⟨h2, h3⟩ := hm
    exact holds_next h0 ((h1 m).2 ⟨h2, by omega⟩) (by omega)
theorem chain_self {i p : Nat} (h : chainP i p) : holdsP p (i + 1) := ((h.2 p).1 (holds_self h.1)).1
theorem chain_gap {i p m : Nat} (h : chainP i p) (hm : holdsP m (i + 1)) (h2 : p < m) : p + lowN p ≤ m := (holds_next h.1 ((h.2 m).2 ⟨hm, by omega⟩) (by omega)).2
/-- The numbers while the chain is walked. -/
def setF (l : List Int) (i : Nat) (d : Int) (p : Nat) : List Int := (List.range l.length).map fun j => (treeL l).getD j 0 + if j + 1 - lowN (j + 1) < i + 1 ∧ i + 1 ≤ j + 1 ∧ j + 1 < p then d else 0
theorem setF_len (l : List Int) (i : Nat) (d : Int) (p : Nat) : (setF l i d p).length = l.length := by simp [setF]
theorem setF_at {l : List Int} (i : Nat) (d : Int) (p : Nat) {j : Nat} (h : j < l.length) : (setF l i d p).getD j 0 = (treeL l).getD j 0 + if j + 1 - lowN (j + 1) < i + 1 ∧ i + 1 ≤ j + 1 ∧ j + 1 < p then d else 0 := by simp [setF, h]
theorem setF_zero (l : List Int) (i : Nat) (d : Int) : setF l i d (i + 1) = treeL l := by
  apply ext_getD (by rw [setF_len, treeL_len])
  intro j hj
  rw [setF_len] at hj
  rw [setF_at i d _ hj, if_neg (by omega), Int.add_zero]
theorem setF_here {l : List Int} {i : Nat} (d : Int) {p : Nat} (h : chainP i p) (hp : p ≤ l.length) : (setF l i d p).getD (p - 1) 0 = (treeL l).getD (p - 1) 0 := by
  have := h.1
  rw [setF_at i d _ (by omega), if_neg (by omega), Int.add_zero]
theorem setF_next {l : List Int} {i : Nat} (d : Int) {p : Nat} (h : chainP i p) (hp : p ≤ l.length) : (setF l i d p).set (p - 1) ((treeL l).getD (p - 1) 0 + d) = setF l i d (p + lowN p) := by
  have h0 := h.1
  have hpos := lowN_pos h0
  apply ext_getD (by rw [List.length_set, setF_len, setF_len])
  intro j hj
  rw [List.length_set, setF_len] at hj
  by_cases hjo : j = p - 1
  · subst hjo
    have hs := chain_self h
    rw [List.getD_eq_getElem?_getD, List.getElem?_set_self (by rw [setF_len]; exact hj)]
    show (treeL l).getD (p - 1) 0 + d = _
    rw [setF_at i d _ hj, if_pos]
    rw [show p - 1 + 1 = p by omega]
    exact ⟨hs.1, hs.2, by omega⟩
  · rw [List.getD_eq_getElem?_getD, List.getElem?_set_ne (fun h => hjo h.symm), ← List.getD_eq_getElem?_getD, setF_at i d _ hj, setF_at i d _ hj]
    by_cases hh : j + 1 - lowN (j + 1) < i + 1 ∧ i + 1 ≤ j + 1
    · by_cases h2 : j + 1 < p
      · rw [if_pos ⟨hh.1, hh.2, h2⟩, if_pos ⟨hh.1, hh.2, by omega⟩]
      · have := chain_gap h (m := j + 1) hh (by omega)
        rw [if_neg (by omega), if_neg (by omega)]
    · rw [if_neg (by omega), if_neg (by omega)]
theorem setF_done {l : List Int} {i : Nat} (v : Int) {p : Nat} (hi : i < l.length) (h : l.length < p) : setF l i (v - l.getD i 0) p = treeL (l.set i v) := by
  apply ext_getD (by rw [setF_len, treeL_len, List.length_set])
  intro j hj
  rw [setF_len] at hj
  rw [setF_at _ _ _ hj, treeL_set v hi j hj]
  by_cases hh : j + 1 - lowN (j + 1) < i + 1 ∧ i + 1 ≤ j + 1
  · rw [if_pos ⟨hh.1, hh.2, by omega⟩, if_pos hh]
  · rw [if_neg (by omega), if_neg hh]
/-- The old stake is a part of the number; the new one stays below the sum. -/
theorem setF_bd {l : List Int} (hz : ∀ z ∈ l, 0 ≤ z) {i p : Nat} {v : Int} (v0 : 0 ≤ v) (hi : i < l.length) (h : chainP i p) (hp : p ≤ l.length) :
    l.getD i 0 ≤ (treeL l).getD (p - 1) 0 ∧ (treeL l).getD (p - 1) 0 ≤ sumL l ∧ 0 ≤ l.getD i 0 ∧ (treeL l).getD (p - 1) 0 + (v - l.getD i 0) ≤ sumL (l.set i v) := by
  have h0 := h.1
  obtain ⟨h1, h2⟩ := chain_self h
  have hz2 : ∀ z ∈ l.set i v, 0 ≤ z := fun z hh => by
    rcases List.mem_or_eq_of_mem_set hh with h | h
    · exact hz z h
    · rw [h]; exact v0
  have e1 := treeL_at (l := l) (i := p - 1) (by omega)
  rw [show p - 1 + 1 = p by omega] at e1
  have e2 := preL_next hi
  have e3 := preL_mono hz (show i + 1 ≤ p by omega)
  have e4 := preL_mono hz (show p - lowN p ≤ i by omega)
  have e5 := preL_le hz p
  have e6 := preL_nn hz (p - lowN p)
  have e7 := preL_mono hz (show i ≤ i + 1 by omega)
  have e8 := preL_set v hi p
  rw [if_pos (by omega)] at e8
  have e9 := preL_le hz2 p
  omega
end Go.Proofs.YtepclbmcacdhlaaDoor
/-
  Rows of the call's own that are worked on number by number, beside a block of a tree.
  Conditions: those that each theorem names; the library's table of trailing zeros is as the program's text lays it.
-/
set_option maxRecDepth 100000
set_option linter.unusedVariables false
set_option linter.unusedSimpArgs false
namespace Go.Proofs.YtepclbmcacdhlaaDoor
open Go.ChangeShapes Go.WideShapes Go.ChangeAt Go.RowKit
theorem OwnI.lower {w : World} {b b' : Nat} {e : TypeId} {k : IntKind} {v : Value} {zs : List Int} (h : OwnI w b e k v zs) (hb : b' ≤ b) : OwnI w b' e k v zs := by
  refine ⟨h.1, ?_⟩
  rcases h.2 with h1 | ⟨g, cap, cur, h1, h2, h3⟩
  · exact .inl h1
  · exact .inr ⟨g, cap, cur, h1, by omega, h3⟩
structure BldS (w0 : World) (g2 : Nat) (v2 : Value) (g7 c7 n : Nat) (ts : List Int) (w : World) : Prop where
  b2 : Blk w g2 27 #[v2]
  own : OwnI w w0.heap.size 24 .u64 (.slice (some ⟨g7, 0, none⟩) n c7) ts
  bel : Below w0.heap.size w0 w
  len : ts.length = n
  le7 : w0.heap.size ≤ g7
section
variable {w0 w w' : World} {g2 g7 c7 n j : Nat} {v2 v : Value} {ts : List Int} {x z : Int} {cur : Array Value}
theorem BldS.below (h : BldS w0 g2 v2 g7 c7 n ts w) (hb : Below w.heap.size w w') : BldS w0 g2 v2 g7 c7 n ts w' := ⟨h.b2.below hb h.b2.lt, h.own.below hb, h.bel.trans (hb.mono h.bel.size), h.len, h.le7⟩
theorem BldS.drew (h : BldS w0 g2 v2 g7 c7 n ts w) : BldS w0 g2 v2 g7 c7 n ts w.drew := h.below (Below.refl _ _).drew
theorem BldS.rd (h : BldS w0 g2 v2 g7 c7 n ts w) : Rd .u64 w w.heap.size (some ⟨g7, 0, none⟩) n ts := OwnI.rd h.own h.len
theorem BldS.cell (h : BldS w0 g2 v2 g7 c7 n ts w) (hj : j < n) (hx : ts.getD j 0 = x) : w.cell? ⟨g7, j, none⟩ = some (.int .u64 x) := by
  obtain ⟨g, off, e, -, hc⟩ := h.rd.at_ (by omega)
  injection e with e
  injection e with e1 e2
  subst e1 e2
  have := hc j hj
  rw [hx, Nat.zero_add] at this
  exact this
theorem BldS.blk (h : BldS w0 g2 v2 g7 c7 n ts w) (hn : 0 < n) : ∃ cur, Hid (Blk w g7 24 cur) ∧ Hid (∀ j, j < n → j < cur.size) := by
  obtain ⟨g, cur, e, -, hk, hs, -⟩ := h.own.whole (by rw [h.len]; exact hn)
  injection e with e
  injection e with e1 e2
  subst e1
  exact ⟨cur, Lib.hid hk, Lib.hid (fun j hj => by rw [h.len] at hs; omega)⟩
theorem BldS.ne (h : BldS w0 g2 v2 g7 c7 n ts w) (hk : Blk w g7 24 cur) : g2 ≠ g7 := by
  rintro rfl
  have h1 := h.b2
  unfold Blk at h1 hk
  rw [h1] at hk
  injection hk with hk
  injection hk with _ h5
  exact absurd h5 (by decide)
theorem BldS.put (h : BldS w0 g2 v2 g7 c7 n ts w) (hk : Blk w g7 24 cur) (hj : j < n) (hk2 : Blk w' g7 24 (cur.setIfInBounds j (.int .u64 z))) (ho : Only g7 w w') : BldS w0 g2 v2 g7 c7 n (ts.set j z) w' := by
  obtain ⟨h1, h2⟩ := own_set h.own hk (by rw [h.len]; exact hj) h.bel h.le7 hk2 ho
  exact ⟨h.b2.only ho (h.ne hk), h1, h2, by rw [List.length_set]; exact h.len, h.le7⟩
theorem BldS.frz (h : BldS w0 g2 v2 g7 c7 n ts w) (hn : 0 < n) : w.frozen? ⟨g7, j, none⟩ = false := by
  obtain ⟨cur, hk, -⟩ := h.blk hn
  exact hk.out.frozen j
/-- A copy, just made. -/
theorem bld_start {l : List Int} {w1 : World} (hk : Blk w1 g2 27 #[v2]) (hb : Below w0.heap.size w0 w1) (ho : OwnI w w1.heap.size 24 .u64 v l) (hb2 : Below w1.heap.size w1 w) (hn : l.length = n) (h0 : 0 < n) :
    ∃ g7 c7, v = .slice (some ⟨g7, 0, none⟩) n c7 ∧ Hid (BldS w0 g2 v2 g7 c7 n l w) ∧ Hid (n ≤ c7) ∧ Hid (c7 ≤ maxLen) := by
  obtain ⟨A, c, rfl, h1, h2⟩ := ho.form
  obtain ⟨g, cur, rfl, h3, -⟩ := ho.whole (by omega)
  rw [hn] at h1 ho
  have hs := hb.size
  exact ⟨g, c, by rw [hn], Lib.hid ⟨hk.below hb2 hk.lt, ho.lower hs, hb.trans (hb2.mono hs), hn, by omega⟩, Lib.hid h1, Lib.hid h2⟩
end
def PAnyT (_ : World) : Prop := True
theorem getD_of {l : List Int} {j : Nat} {x : Int} (h : l.getD j 0 = x) : l.getD j 0 = x := h
end Go.Proofs.YtepclbmcacdhlaaDoor
/-
  What the program's safe returns: sums, differences and products below 2^63, or refused, over the library's carries.
  Conditions: the numbers lie in their type's range; the slices read as lists.
-/
set_option maxRecDepth 100000
set_option linter.unusedSimpArgs false
namespace Go.Proofs.YtepclbmcacdhlaaDoor
open Go.ChangeShapes Go.WideShapes Go.ChangeAt Go.RowKit
set_option linter.unusedVariables false
theorem bits_lo {x : Int} (x0 : 0 ≤ x) (x1 : x < 18446744073709551616) : IntKind.u64.wrap x = x := by rw [IntKind.wrap_u64]; omega
theorem mask_lo (a : Int) (a0 : 0 ≤ a) (a1 : a < 18446744073709551616) : bits .and .u64 a 4294967295 = a % 4294967296 := by
  obtain ⟨n, rfl⟩ := Int.eq_ofNat_of_zero_le a0
  have h := bits_and_u64_nat n 4294967295 (by omega) (by omega)
  rw [Nat.and_two_pow_sub_one_eq_mod n 32] at h
  exact h
/-- bits.Add64 with no carry: the model's own entry, run. -/
theorem ext_add (a b : Int) (a0 : 0 ≤ a) (b0 : 0 ≤ b) (w : World) : (callFunc 46 #[.int .u64 a, .int .u64 b, .int .u64 0]).run Tryd.prog w = .ok (.value (.tuple #[.int .u64 ((a + b) % 18446744073709551616), .int .u64 ((a + b) / 18446744073709551616)])) w := by
  rw [run_callFunc_extern Tryd.func46 (by kernel_rfl) (by kernel_rfl) (by kernel_rfl) (e := add64Entry) (by kernel_rfl), run_add64 a b 0 a0 b0 (by omega) (by omega)]
  simp only [Result.andThen, Int.add_zero]
theorem q9fits_c (a : Int) (a0 : 0 ≤ a) (a1 : a < 18446744073709551616) (w : World) : Calls Tryd.prog 51 #[.int .u64 a] w fun e w' => e = .returned (.bool (decide (a < 9223372036854775808))) ∧ w = w' := by
  go_enter Tryd.func51, Tryd.ntmps51
  go_wp2
  go_ret
  exact ⟨rfl, rfl⟩
theorem q9bel_ok (l : Int) (l0 : 0 ≤ l) (l1 : l < 9223372036854775808) (w : World) : Calls Tryd.prog 47 #[.int .u64 0, .int .u64 l] w fun e w' => e = .returned (.tuple #[.int .u64 l, .bool true]) ∧ w = w' := by
  have hf := q9fits_c l l0 (by omega)
  rw [decide_eq_true l1] at hf
  have HF := Lib.hid hf
  clear hf
  go_enter Tryd.func47, Tryd.ntmps47
  go_wp2_with (first
    | (go_at_call 51; (with_reducible refine (HF.out _).mono ?_); rintro e _ ⟨rfl, rfl⟩))
  go_ret2
  exact ⟨rfl, rfl⟩
theorem q9bel_no (h l : Int) (h0 : 0 ≤ h) (h1 : h < 18446744073709551616) (l0 : 0 ≤ l) (l1 : l < 18446744073709551616) (hno : h = 0 → ¬ l < 9223372036854775808) (w : World) : Calls Tryd.prog 47 #[.int .u64 h, .int .u64 l] w fun e w' => e = .returned (.tuple #[.int .u64 0, .bool false]) ∧ w = w' := by
  have hf := q9fits_c l l0 l1
  by_cases hz : h = 0
  · subst hz
    rw [decide_eq_false (hno rfl)] at hf
    have HF := Lib.hid hf
    clear hf hno
    go_enter Tryd.func47, Tryd.ntmps47
    go_wp2_with (first
      | (go_at_call 51; (with_reducible refine (HF.out _).mono ?_); rintro e _ ⟨rfl, rfl⟩))
    go_ret2
    exact ⟨rfl, rfl⟩
  · have tz : (h == 0) = false := by rw [beq_eq_false_iff_ne]; exact hz
    clear hf hno
    go_enter Tryd.func47, Tryd.ntmps47
    go_wp2
    go_ret2
    exact ⟨rfl, rfl⟩
theorem q9add_c (a b : Int) (a0 : 0 ≤ a) (a1 : a < 18446744073709551616) (b0 : 0 ≤ b) (b1 : b < 18446744073709551616) (w : World) : Calls Tryd.prog 41 #[.int .u64 a, .int .u64 b] w fun e w' => e = .returned (.tuple #[.int .u64 (addV a b), .bool (addO a b)]) ∧ w = w' := by
  have hx := ext_add a b a0 b0
  obtain ⟨s, hs⟩ : ∃ s, (a + b) % 18446744073709551616 = s := ⟨_, rfl⟩
  obtain ⟨c, hc⟩ : ∃ c, (a + b) / 18446744073709551616 = c := ⟨_, rfl⟩
  rw [hs, hc] at hx
  by_cases h : a + b < 9223372036854775808
  · obtain rfl : c = 0 := by omega
    obtain rfl : s = a + b := by omega
    have hb := q9bel_ok (a + b) (by omega) h
    rw [(addV_ok h).1, (addV_ok h).2]
    have HB := Lib.hid hb
    clear hb hs hc h
    go_enter Tryd.func41, Tryd.ntmps41
    go_wp2_with (first
      | (go_at_call 47; (with_reducible refine (HB.out _).mono ?_); rintro e _ ⟨rfl, rfl⟩)
      | (simp only [hx]))
    go_ret2
    exact ⟨rfl, rfl⟩
  · have hb := q9bel_no c s (by omega) (by omega) (by omega) (by omega) (by omega)
    rw [(addV_no h).1, (addV_no h).2]
    have HB := Lib.hid hb
    clear hb hs hc h
    go_enter Tryd.func41, Tryd.ntmps41
    go_wp2_with (first
      | (go_at_call 47; (with_reducible refine (HB.out _).mono ?_); rintro e _ ⟨rfl, rfl⟩)
      | (simp only [hx]))
    go_ret2
    exact ⟨rfl, rfl⟩
set_option maxHeartbeats 2000000 in
theorem q9total_c (zs : List Int) (hz : ∀ z ∈ zs, 0 ≤ z ∧ z < 18446744073709551616) (A : Option Addr) (n c : Nat) (hn : n ≤ maxLen) (w : World) (hrd : Rd .u64 w w.heap.size A n zs) : Calls Tryd.prog 33 #[.slice A n c] w fun e w' => e = .returned (.tuple #[.int .u64 (sumV zs), .bool (sumO zs)]) ∧ w = w' := by
  have HR := Lib.hid hrd
  have HZ := Lib.hid hz
  have hlen := hrd.len
  have hnm : (n : Int) ≤ 9223372036854775807 := by unfold maxLen at hn; omega
  have hle := fun k => sumL_le (l := zs) (fun z h => (hz z h).1) k
  have hst := fun k h => sumL_take (l := zs) (k := k) h
  have htk : zs.take n = zs := by rw [← hlen, List.take_length]
  have HLE := Lib.hid hle
  have HST := Lib.hid hst
  clear hrd hz hn hle hst
  go_enter Tryd.func33, Tryd.ntmps33
  go_wp2
  go_loopw [4, 10] (fun s i wr => ∃ k : Nat, k ≤ n ∧ i = .int .i64 (k : Int) ∧ s = .int .u64 (sumL (zs.take k)) ∧ 0 ≤ sumL (zs.take k) ∧ sumL (zs.take k) < 9223372036854775808 ∧ wr = w) (fun _ i _ => n - (intOf i).toNat)
  case atStart => exact ⟨0, by omega, rfl, rfl, Int.le_refl _, (by show (0 : Int) < 9223372036854775808; omega), by first | rfl | trivial⟩
  case round =>
    obtain ⟨k, hk, rfl, rfl, h0, h1, rfl⟩ := hrel
    by_cases hlt : k < n
    · obtain ⟨b, off, rfl, _, hc⟩ := HR.out.at_ (by omega)
      have hck := hc k hlt
      have hzk := HZ.out _ (getD_in (l := zs) (k := k) (by omega))
      have hsk := HST.out k (by omega)
      have hl1 := HLE.out (k + 1)
      have HSK := Lib.hid hsk
      obtain ⟨z, hzz⟩ : ∃ z, zs.getD k 0 = z := ⟨_, rfl⟩
      obtain ⟨S, hS⟩ : ∃ S, sumL (zs.take k) = S := ⟨_, rfl⟩
      obtain ⟨S1, hS1⟩ : ∃ S, sumL (zs.take (k + 1)) = S := ⟨_, rfl⟩
      rw [hzz, hS] at HSK
      rw [hzz] at hck hzk hsk
      rw [hS] at h0 h1 hsk ⊢
      rw [hS1] at hl1 hsk
      have hadd := fun W => q9add_c S z h0 (by omega) hzk.1 hzk.2 W
      by_cases hs : S + z < 9223372036854775808
      · rw [(addV_ok hs).1, (addV_ok hs).2] at hadd
        have HADD := Lib.hid hadd
        clear hadd hc hzz hS hS1 hsk hl1
        go_wp2_with (first
          | (go_at_call 41; (with_reducible refine (HADD.out _).mono ?_); rintro e _ ⟨rfl, rfl⟩))
        go_roundw
        case rel => exact ⟨k + 1, by omega, by go_num, by rw [HSK.out], by rw [HSK.out]; omega, by rw [HSK.out]; exact hs, by first | rfl | trivial⟩
        case measure => simp [intOf]; omega
      · rw [(addV_no hs).1, (addV_no hs).2] at hadd
        have hno : ¬ sumL zs < 9223372036854775808 := by omega
        have HADD := Lib.hid hadd
        have HNO := Lib.hid (sumV_no hno)
        clear hadd hc hzz hS hS1 hsk hl1 hno
        go_wp2_with (first
          | (go_at_call 41; (with_reducible refine (HADD.out _).mono ?_); rintro e _ ⟨rfl, rfl⟩))
        go_ret2
        exact ⟨ret_pair (sym2 HNO.out), by first | rfl | trivial⟩
    · obtain rfl : k = n := by omega
      rw [htk] at h0 h1 ⊢
      have HOK := Lib.hid (sumV_ok h1)
      go_wp2
      go_ret2
      exact ⟨ret_pair (sym2 HOK.out), by first | rfl | trivial⟩
end Go.Proofs.YtepclbmcacdhlaaDoor
/-
  What the landed Build returns: the tree of the stakes, each number pushed to its parent.
  Conditions: those that each theorem names; the library's table of trailing zeros is as the program's text lays it.
-/
set_option maxRecDepth 100000
set_option linter.unusedVariables false
set_option linter.unusedSimpArgs false
namespace Go.Proofs.YtepclbmcacdhlaaDoor
open Go.ChangeShapes Go.WideShapes Go.ChangeAt Go.RowKit
set_option maxHeartbeats 8000000 in
theorem q11build_c (l : List Int) (hz : ∀ z ∈ l, 0 ≤ z ∧ z < 18446744073709551616) (A : Option Addr) (n c : Nat) (hn : n ≤ maxLen) (w : World) (hT : TzT w) (hrd : Rd .u64 w w.heap.size A n l) : Calls Tryd.prog 24 #[.slice A n c] w (RetFen w (bldL l) (bldE l)) := by
  have HR := Lib.hid hrd
  have HTT := Lib.hid hT
  have hlen := hrd.len
  have hnm : (n : Int) ≤ 9223372036854775807 := by unfold maxLen at hn; omega
  have HTO := Lib.hid (fun W h => q9total_c l hz A n c hn W h)
  have HEMP : Hid (∀ er w', bldE l = er ∧ bldL l = [] → Below w.heap.size w w' → RetFen w (bldL l) (bldE l) (.returned (.tuple #[.agg #[.slice none 0 0], .int .i64 er])) w') := Lib.hid (fun er w' h hb => by rw [h.1, h.2]; exact ⟨none, 0, rfl, rd_nil _ _ _ _, Nat.le_refl _, by simp [maxLen], hb⟩)
  clear hT
  by_cases hm : 1048576 < n
  · have hm2 : (1048576 : Int) < (n : Int) := by omega
    have HE := Lib.hid (bldE_many (l := l) (by omega))
    clear hrd hz hm HTO hlen
    go_enter Tryd.func24, Tryd.ntmps24
    go_wp2_with (first
        | (with_reducible refine at_any ?_; refine at_dst 2 rfl ?_; refine wpList_alloc_any rfl 27 rfl #[.slice none 0 0] zero_fen ?_; intro w1 hk1 hs1 hb1; have HK1 := Lib.hid hk1.out; have HB1 := Lib.hid hb1; clear hk1 hs1 hb1)
        | (with_reducible refine at_any ?_; refine at_dst 12 rfl ?_; refine wpList_val rfl (.agg #[.slice none 0 0]) (build_fen0 _ rfl) ?_)
        | (with_reducible refine at_any ?_; refine at_store 2 rfl ?_; refine wpList_store_any rfl 27 (.tmp 2) (.tmp 12) rfl w.heap.size rfl 27 #[.slice none 0 0] #[.slice none 0 0] HK1.out rfl (size1 _ _) (sizedF _) (fen_ones _ _ _) ?_; intro w9 hk9 hs9 hb9 ho9; have HB9 := Lib.hid (HB1.out.trans (hb9 _ (Nat.le_refl _))); have HK9 := Lib.hid hk9.out; clear hb9)
        | (refine bodyPost_any2 2 3 27 rfl w.heap.size rfl (.int .i64 14) rfl 27 #[.slice none 0 0] HK9.out _ Tryd.underlying27 rfl (sizedF _) rfl ?_))
    exact HEMP.out _ _ HE.out HB9.out
  have hm2 : (n : Int) ≤ 1048576 := by omega
  have HN8 : Hid (n ≤ 100000000) := Lib.hid (by omega)
  by_cases hs : sumL l < 9223372036854775808
  · obtain ⟨e1, e2⟩ := sumV_ok hs
    have HE := Lib.hid (bldE_ok (l := l) (by omega) hs)
    rw [e1, e2] at HTO
    obtain ⟨x, hx⟩ : ∃ x, sumL l = x := ⟨_, rfl⟩
    rw [hx] at HTO
    have HEND : Hid (∀ A' c' w', Rd .u64 w' w'.heap.size A' n (treeL l) → n ≤ c' → c' ≤ maxLen → Below w.heap.size w w' → RetFen w (bldL l) (bldE l) (.returned (.tuple #[.agg #[.slice A' n c'], .int .i64 0])) w') := Lib.hid (fun A' c' w' h1 h2 h3 h4 => by rw [HE.out.1, HE.out.2]; refine ⟨A', c', by rw [treeL_len, hlen], ?_⟩; rw [treeL_len, hlen]; exact ⟨h1, h2, h3, h4⟩)
    have hz0 : ∀ z ∈ l, 0 ≤ z := fun z h => (hz z h).1
    by_cases h0 : n = 0
    · subst h0
      obtain rfl : l = [] := List.length_eq_zero_iff.1 hlen
      clear hrd hz hz0 hm hs e1 e2 HE hx
      go_enter Tryd.func24, Tryd.ntmps24
      go_wp2_with (first
        | (with_reducible refine at_any ?_; refine at_dst 2 rfl ?_; refine wpList_alloc_any rfl 27 rfl #[.slice none 0 0] zero_fen ?_; intro w1 hk1 hs1 hb1; have HK1 := Lib.hid hk1.out; have HB1 := Lib.hid hb1; clear hk1 hs1 hb1)
        | (go_at_call 33; (with_reducible refine (HTO.out _ (HR1 HR.out HB1.out)).mono ?_); rintro e _ ⟨rfl, rfl⟩)
        | (go_at_call 34; (with_reducible refine (clone64_c [] A 0 c HN8.out _ (HR1 HR.out HB1.out)).mono ?_); rintro e w2 ⟨v6, rfl, ho2, hb2⟩; obtain ⟨A7, c7, rfl, hc7, hm7⟩ := ho2.form; have HK2 := Lib.hid (HK1.out.below hb2 HK1.out.lt); have HB2 := Lib.hid (HB1.out.trans (hb2.mono HB1.out.size)); have hl0 : ([] : List Int).length = 0 := rfl; rw [hl0]; clear hl0 hb2 ho2))
      go_loopw [7] (fun nn wr => nn = .int .i64 1 ∧ w2 = wr) (fun _ _ => 0)
      case atStart => exact ⟨rfl, by first | rfl | trivial⟩
      case round =>
        obtain ⟨rfl, rfl⟩ := hrel
        go_wp2_with (first
          | (with_reducible refine at_any ?_; refine at_store 2 rfl ?_; refine wpList_store_any rfl 27 (.tmp 2) (.tmp 50) rfl w.heap.size rfl 27 #[.slice none 0 0] #[.slice A7 0 c7] HK2.out rfl (size1 _ _) (sizedF _) (fen_ones _ _ _) ?_; intro w9 hk9 hs9 hb9 ho9; have HB9 := Lib.hid (HB2.out.trans (hb9 _ (Nat.le_refl _))); have HK9 := Lib.hid hk9.out; clear hb9)
          | (refine bodyPost_any2 2 3 27 rfl w.heap.size rfl (.int .i64 0) rfl 27 #[.slice A7 0 c7] HK9.out _ Tryd.underlying27 rfl (sizedF _) rfl ?_))
        exact HEND.out _ _ _ (rd_nil _ _ _ _) hc7 hm7 HB9.out
    · have HPOS : Hid (0 < n) := Lib.hid (by omega)
      have HLN := Lib.hid hlen
      have HNEXT := Lib.hid (fun M (h1 : 1 ≤ M) (h2 : M + lowN M ≤ n) => bldF_next (l := l) (k := M - 1) (by omega) (by rw [show M - 1 + 1 = M by omega]; omega))
      have HOUT := Lib.hid (fun M (h1 : 1 ≤ M) (h2 : n < M + lowN M) => bldF_out (l := l) (k := M - 1) (by rw [show M - 1 + 1 = M by omega]; omega))
      have HBD := Lib.hid (fun k m (hm : m < n) => bldF_bd hz0 k m (by omega))
      have HALL : Hid (bldF l n = treeL l) := Lib.hid (by rw [← hlen]; exact bldF_all l)
      have HZ : Hid (bldF l 0 = l) := Lib.hid (bldF_zero l)
      have HKEEP := Lib.hid (fun M (h1 : 1 ≤ M) (h2 : M ≤ n) => bldF_keep (l := l) (k := M - 1) (j := M - 1) (by omega) (by have := lowN_pos (n := M - 1 + 1) (by omega); omega))
      rw [hx] at hs HBD
      have HSX := Lib.hid hs
      have HLOW := Lib.hid (fun M (h1 : 1 ≤ M) (h2 : M ≤ n) W hW => q11low_c M (by omega) (by omega) W hW)
      clear hrd hz hz0 hm hs e1 e2 HE hx hlen h0
      go_enter Tryd.func24, Tryd.ntmps24
      go_wp2_with (first
        | (with_reducible refine at_any ?_; refine at_dst 2 rfl ?_; refine wpList_alloc_any rfl 27 rfl #[.slice none 0 0] zero_fen ?_; intro w1 hk1 hs1 hb1; have HK1 := Lib.hid hk1.out; have HB1 := Lib.hid hb1; clear hk1 hs1 hb1)
        | (go_at_call 33; (with_reducible refine (HTO.out _ (HR1 HR.out HB1.out)).mono ?_); rintro e _ ⟨rfl, rfl⟩)
        | (go_at_call 34; (with_reducible refine (clone64_c l A n c HN8.out _ (HR1 HR.out HB1.out)).mono ?_); rintro e w2 ⟨v6, rfl, ho2, hb2⟩; obtain ⟨g7, c7, rfl, HS2, HC7, HM7⟩ := bld_start HK1.out HB1.out ho2 hb2 HLN.out HPOS.out; clear ho2 hb2))
      obtain ⟨g2, hg2⟩ : ∃ g, w.heap.size = g := ⟨_, rfl⟩
      have HS3 : Hid (BldS w g2 (.slice none 0 0) g7 c7 n l w2) := Lib.hid (by rw [← hg2]; exact HS2.out)
      have HG2 : Hid (w.heap.size ≤ g2) := Lib.hid (Nat.le_of_eq hg2)
      rw [hg2]
      clear HS2 hg2 HK1 HB1
      go_loopw [7] (fun nn wr => ∃ M : Nat, 1 ≤ M ∧ M ≤ n + 1 ∧ nn = .int .i64 (M : Int) ∧ BldS w g2 (.slice none 0 0) g7 c7 n (bldF l (M - 1)) wr) (fun nn _ => n + 1 - (intOf nn).toNat)
      case atStart => exact ⟨1, Nat.le_refl _, by omega, rfl, by rw [Nat.sub_self, HZ.out]; exact HS3.out⟩
      case round =>
        clear HS3
        obtain ⟨M, hM1, hM2, rfl, hS⟩ := hrel
        have HS := Lib.hid hS
        clear hS
        by_cases hMn : M ≤ n
        · have hlow := fun W hW => HLOW.out M hM1 hMn W hW
          have hlp := lowN_pos (n := M) (by omega)
          have hll := lowN_le M
          have hmi : (M : Int) ≤ 1048576 := by omega
          have hm1 : (1 : Int) ≤ (M : Int) := by omega
          have HMN := Lib.hid hMn
          have hMnI : (M : Int) ≤ (n : Int) := by omega
          by_cases ha : M + lowN M ≤ n
          · have hnx := HNEXT.out M hM1 ha
            have hbq := HBD.out (M - 1) (M + lowN M - 1) (by omega)
            have hbk := HBD.out (M - 1) (M - 1) (by omega)
            have hbs := HBD.out M (M + lowN M - 1) (by omega)
            obtain ⟨k, hk⟩ : ∃ k, M - 1 = k := ⟨_, rfl⟩
            have hk1 : k + 1 = M := by omega
            rw [hk] at HS hnx hbq hbk
            rw [hk1] at hnx
            obtain ⟨lo, hlo⟩ : ∃ x, lowN M = x := ⟨_, rfl⟩
            rw [hlo] at hnx hbq hbs hlp hll ha hlow
            obtain ⟨q, hq⟩ : ∃ q, M + lo - 1 = q := ⟨_, rfl⟩
            have hkq : k + lo = q := by omega
            rw [hkq] at hnx
            rw [hq] at hbq hbs
            obtain ⟨B, hB⟩ : ∃ B, bldF l k = B := ⟨_, rfl⟩
            rw [hB] at HS hnx hbq hbk
            obtain ⟨x2, hx2⟩ : ∃ z, B.getD q 0 = z := ⟨_, rfl⟩
            obtain ⟨y, hy⟩ : ∃ z, B.getD k 0 = z := ⟨_, rfl⟩
            have hlB := HS.out.len
            have hsv : (bldF l M).getD q 0 = x2 + y := by
              rw [← hnx, List.getD_eq_getElem?_getD, List.getElem?_set_self (by omega), hx2, hy]
              rfl
            rw [hsv] at hbs
            rw [hx2, hy] at hnx
            rw [hx2] at hbq
            rw [hy] at hbk
            have hsx := HSX.out
            have HX := Lib.hid hx2
            have HY := Lib.hid hy
            have HLOWW := Lib.hid hlow
            obtain ⟨s, hs⟩ : ∃ s, x2 + y = s := ⟨_, rfl⟩
            rw [hs] at hnx hbs
            have HNX := Lib.hid hnx
            have HSW : Hid (IntKind.u64.wrap (x2 + y) = s) := Lib.hid (by rw [hs, IntKind.wrap_u64]; omega)
            obtain ⟨a, hae⟩ : ∃ a, M + lo = a := ⟨_, rfl⟩
            have haI : (M : Int) + (lo : Int) = (a : Int) := by omega
            have han : (a : Int) ≤ (n : Int) := by omega
            have ha1 : (1 : Int) ≤ (a : Int) := by omega
            have HQW : Hid (IntKind.i64.wrap ((a : Int) - 1) = (q : Int)) := Lib.hid (by rw [IntKind.wrap_i64]; omega)
            have HQN : Hid ((q : Int) < (n : Int)) := Lib.hid (by omega)
            have HQL : Hid (q < n) := Lib.hid (by omega)
            have HKW : Hid (IntKind.i64.wrap ((M : Int) - 1) = (k : Int)) := Lib.hid (by rw [IntKind.wrap_i64]; omega)
            have HKN : Hid ((k : Int) < (n : Int)) := Lib.hid (by omega)
            have HKL : Hid (k < n) := Lib.hid (by omega)
            obtain ⟨x, hxx⟩ : ∃ z, x2 = z := ⟨_, rfl⟩
            rw [hxx] at HX HSW
            clear hnx hbq hbk hbs hk hk1 hlo hq hkq hB hx2 hy hlB hsv hsx hs hlp hll ha hlow hMn hae hxx hM2
            go_wp2_with (first
              | (go_at_call 35; (with_reducible refine (HLOWW.out _ (HTT.out.below HS.out.bel)).mono ?_); rintro e _ ⟨rfl, rfl⟩))
            have HS8 := Lib.hid HS.out.drew
            obtain ⟨cur, HKC, HSC⟩ := HS8.out.blk HPOS.out
            have HXC := Lib.hid (HS8.out.cell HQL.out HX.out)
            have HYC := Lib.hid (HS8.out.cell HKL.out HY.out)
            clear HS
            refine wp_region_held_drew (S := PAnyT) (by kernel_rfl) trivial (fun hH => ?_)
            refine wpAnyH_letter #[false, false, false, false, false, false, false, false, false, false, false, false, false] (by kernel_rfl) (fun _ _ d _ _ h => by cases d <;> exact h) (fun QL HQ1 HQ2 => ?_)
            refine held_v 0 (some 37) rfl (by kernel_rfl) (by kernel_rfl) (by kernel_rfl) (by kernel_rfl) (fun c a v w h => HQ2.out c a _ v w h) (by kernel_rfl) (.slice (some ⟨g7, 0, none⟩) n c7) (fun W h => by kernel_rfl) trivial ?_
            try simp only [Act.put, List.setIfInBounds_toArray, List.set_cons_zero, List.set_cons_succ]
            refine held_v 1 (some 38) rfl (by kernel_rfl) (by kernel_rfl) (by kernel_rfl) (by kernel_rfl) (fun c a v w h => HQ2.out c a _ v w h) (by kernel_rfl) (.int .i64 (a : Int)) (fun W h => by kernel_rfl) trivial ?_
            try simp only [Act.put, List.setIfInBounds_toArray, List.set_cons_zero, List.set_cons_succ]
            refine held_v 2 (some 39) rfl (by kernel_rfl) (by kernel_rfl) (by kernel_rfl) (by kernel_rfl) (fun c a v w h => HQ2.out c a _ v w h) (by kernel_rfl) (.int .i64 (q : Int)) (fun W h => by have p := HQW.out; go_simp) trivial ?_
            try simp only [Act.put, List.setIfInBounds_toArray, List.set_cons_zero, List.set_cons_succ]
            refine held_v 3 (some 40) rfl (by kernel_rfl) (by kernel_rfl) (by kernel_rfl) (by kernel_rfl) (fun c a v w h => HQ2.out c a _ v w h) (by kernel_rfl) (.pointer (some ⟨g7, q, none⟩)) (fun W h => by have p := HQN.out; go_simp) trivial ?_
            try simp only [Act.put, List.setIfInBounds_toArray, List.set_cons_zero, List.set_cons_succ]
            refine held_v 5 (some 42) rfl (by kernel_rfl) (by kernel_rfl) (by kernel_rfl) (by kernel_rfl) (fun c a v w h => HQ2.out c a _ v w h) (by kernel_rfl) (.slice (some ⟨g7, 0, none⟩) n c7) (fun W h => by kernel_rfl) trivial ?_
            try simp only [Act.put, List.setIfInBounds_toArray, List.set_cons_zero, List.set_cons_succ]
            refine held_v 6 (some 43) rfl (by kernel_rfl) (by kernel_rfl) (by kernel_rfl) (by kernel_rfl) (fun c a v w h => HQ2.out c a _ v w h) (by kernel_rfl) (.int .i64 (M : Int)) (fun W h => by kernel_rfl) trivial ?_
            try simp only [Act.put, List.setIfInBounds_toArray, List.set_cons_zero, List.set_cons_succ]
            refine held_v 7 (some 44) rfl (by kernel_rfl) (by kernel_rfl) (by kernel_rfl) (by kernel_rfl) (fun c a v w h => HQ2.out c a _ v w h) (by kernel_rfl) (.int .i64 (k : Int)) (fun W h => by have p := HKW.out; go_simp) trivial ?_
            try simp only [Act.put, List.setIfInBounds_toArray, List.set_cons_zero, List.set_cons_succ]
            refine held_v 8 (some 45) rfl (by kernel_rfl) (by kernel_rfl) (by kernel_rfl) (by kernel_rfl) (fun c a v w h => HQ2.out c a _ v w h) (by kernel_rfl) (.pointer (some ⟨g7, k, none⟩)) (fun W h => by have p := HKN.out; go_simp) trivial ?_
            try simp only [Act.put, List.setIfInBounds_toArray, List.set_cons_zero, List.set_cons_succ]
            refine wpAnyH_ready (rs := [4, 9]) (by kernel_rfl) (by decide) ?_
            refine AllReadyH.cons rfl (fun K hK => ?_) (AllReadyH.cons rfl (fun K hK => ?_) AllReadyH.nil)
            · refine step_v (some 41) (by kernel_rfl) (by kernel_rfl) (.int .u64 x) (by have p := HXC.out; go_simp) ?_
              refine hK.out _ _ trivial (fun _ => ?_)
              clear hK K
              try simp only [Act.put, List.setIfInBounds_toArray, List.set_cons_zero, List.set_cons_succ]
              refine wpAnyH_ready (rs := [9]) (by kernel_rfl) (by decide) ?_
              refine AllReadyH.cons rfl (fun K hK => ?_) AllReadyH.nil
              refine step_v (some 46) (by kernel_rfl) (by kernel_rfl) (.int .u64 y) (by have p := HYC.out; go_simp) ?_
              refine hK.out _ _ trivial (fun _ => ?_)
              clear hK K
              try simp only [Act.put, List.setIfInBounds_toArray, List.set_cons_zero, List.set_cons_succ]
              refine held_v 10 (some 47) rfl (by kernel_rfl) (by kernel_rfl) (by kernel_rfl) (by kernel_rfl) (fun c a v w h => HQ2.out c a _ v w h) (by kernel_rfl) (.int .u64 s) (fun W h => by have p := HSW.out; go_simp) trivial ?_
              try simp only [Act.put, List.setIfInBounds_toArray, List.set_cons_zero, List.set_cons_succ]
              refine held_v 11 (some 48) rfl (by kernel_rfl) (by kernel_rfl) (by kernel_rfl) (by kernel_rfl) (fun c a v w h => HQ2.out c a _ v w h) (by kernel_rfl) (.pointer (some ⟨g7, q, none⟩)) (fun W h => by have p := HQN.out; go_simp) trivial ?_
              try simp only [Act.put, List.setIfInBounds_toArray, List.set_cons_zero, List.set_cons_succ]
              refine wpAnyH_ready (rs := [12]) (by kernel_rfl) (by decide) ?_
              refine AllReadyH.cons rfl (fun K hK => ?_) AllReadyH.nil
              refine step_store_cell none (by kernel_rfl) (by kernel_rfl) 24 (.tmp 48) (.tmp 47) rfl g7 q (by kernel_rfl) 24 cur HKC.out (.int .u64 s) (by kernel_rfl) (HSC.out _ HQL.out) size_u64f rfl rfl ?_
              intro w41 hkw41 how41
              have HNEW := Lib.hid (BldS.put HS8.out HKC.out HQL.out hkw41.out how41)
              clear hkw41 how41
              refine hK.out _ _ trivial (fun _ => ?_)
              clear hK K
              try simp only [Act.put, List.setIfInBounds_toArray, List.set_cons_zero, List.set_cons_succ]
              refine wpAnyH_done (by kernel_rfl) ?_ _
              refine HQ1.out _ _ ?_
              clear HQ1 HQ2
              clear HS8 HKC HSC HX HY HXC HYC
              go_wp2
              go_roundw
              case rel => exact ⟨M + 1, by omega, by have := HMN.out; omega, by go_num, by rw [Nat.add_sub_cancel, ← HNX.out]; exact HNEW.out⟩
              case measure => have := HMN.out; simp [intOf]; omega
            · refine step_v (some 46) (by kernel_rfl) (by kernel_rfl) (.int .u64 y) (by have p := HYC.out; go_simp) ?_
              refine hK.out _ _ trivial (fun _ => ?_)
              clear hK K
              try simp only [Act.put, List.setIfInBounds_toArray, List.set_cons_zero, List.set_cons_succ]
              refine wpAnyH_ready (rs := [4]) (by kernel_rfl) (by decide) ?_
              refine AllReadyH.cons rfl (fun K hK => ?_) AllReadyH.nil
              refine step_v (some 41) (by kernel_rfl) (by kernel_rfl) (.int .u64 x) (by have p := HXC.out; go_simp) ?_
              refine hK.out _ _ trivial (fun _ => ?_)
              clear hK K
              try simp only [Act.put, List.setIfInBounds_toArray, List.set_cons_zero, List.set_cons_succ]
              refine held_v 10 (some 47) rfl (by kernel_rfl) (by kernel_rfl) (by kernel_rfl) (by kernel_rfl) (fun c a v w h => HQ2.out c a _ v w h) (by kernel_rfl) (.int .u64 s) (fun W h => by have p := HSW.out; go_simp) trivial ?_
              try simp only [Act.put, List.setIfInBounds_toArray, List.set_cons_zero, List.set_cons_succ]
              refine held_v 11 (some 48) rfl (by kernel_rfl) (by kernel_rfl) (by kernel_rfl) (by kernel_rfl) (fun c a v w h => HQ2.out c a _ v w h) (by kernel_rfl) (.pointer (some ⟨g7, q, none⟩)) (fun W h => by have p := HQN.out; go_simp) trivial ?_
              try simp only [Act.put, List.setIfInBounds_toArray, List.set_cons_zero, List.set_cons_succ]
              refine wpAnyH_ready (rs := [12]) (by kernel_rfl) (by decide) ?_
              refine AllReadyH.cons rfl (fun K hK => ?_) AllReadyH.nil
              refine step_store_cell none (by kernel_rfl) (by kernel_rfl) 24 (.tmp 48) (.tmp 47) rfl g7 q (by kernel_rfl) 24 cur HKC.out (.int .u64 s) (by kernel_rfl) (HSC.out _ HQL.out) size_u64f rfl rfl ?_
              intro w42 hkw42 how42
              have HNEW := Lib.hid (BldS.put HS8.out HKC.out HQL.out hkw42.out how42)
              clear hkw42 how42
              refine hK.out _ _ trivial (fun _ => ?_)
              clear hK K
              try simp only [Act.put, List.setIfInBounds_toArray, List.set_cons_zero, List.set_cons_succ]
              refine wpAnyH_done (by kernel_rfl) ?_ _
              refine HQ1.out _ _ ?_
              clear HQ1 HQ2
              clear HS8 HKC HSC HX HY HXC HYC
              go_wp2
              go_roundw
              case rel => exact ⟨M + 1, by omega, by have := HMN.out; omega, by go_num, by rw [Nat.add_sub_cancel, ← HNX.out]; exact HNEW.out⟩
              case measure => have := HMN.out; simp [intOf]; omega
          · have hout := HOUT.out M hM1 (by omega)
            rw [show M - 1 + 1 = M by omega] at hout
            have HO := Lib.hid hout
            obtain ⟨lo, hlo⟩ : ∃ x, lowN M = x := ⟨_, rfl⟩
            rw [hlo] at hlp hll ha hlow
            have HLOWW := Lib.hid hlow
            obtain ⟨a, hae⟩ : ∃ a, M + lo = a := ⟨_, rfl⟩
            have haI : (M : Int) + (lo : Int) = (a : Int) := by omega
            have han : ¬ (a : Int) ≤ (n : Int) := by omega
            have ha1 : (a : Int) ≤ 2097152 := by omega
            clear hout hlo hlp hll ha hlow hMn hae hM2
            go_wp2_with (first
              | (go_at_call 35; (with_reducible refine (HLOWW.out _ (HTT.out.below HS.out.bel)).mono ?_); rintro e _ ⟨rfl, rfl⟩))
            go_roundw
            case rel => exact ⟨M + 1, by omega, by have := HMN.out; omega, by go_num, by rw [Nat.add_sub_cancel, HO.out]; exact HS.out⟩
            case measure => have := HMN.out; simp [intOf]; omega
        · obtain rfl : M = n + 1 := by omega
          rw [Nat.add_sub_cancel, HALL.out] at HS
          have hgt : ¬ ((n + 1 : Nat) : Int) ≤ (n : Int) := by omega
          have HK2 := Lib.hid HS.out.b2
          have HB2 := Lib.hid HS.out.bel
          have HRX := Lib.hid HS.out.rd
          clear hMn hM1 hM2
          go_wp2_with (first
            | (with_reducible refine at_any ?_; refine at_store 2 rfl ?_; refine wpList_store_any rfl 27 (.tmp 2) (.tmp 50) rfl g2 rfl 27 #[.slice none 0 0] #[.slice (some ⟨g7, 0, none⟩) n c7] HK2.out rfl (size1 _ _) (sizedF _) (fen_ones _ _ _) ?_; intro w9 hk9 hs9 hb9 ho9; have HB9 := Lib.hid (HB2.out.trans (hb9 _ (HG2.out))); have HK9 := Lib.hid hk9.out; have HR9 := Lib.hid (rd_past HRX.out HK2.out hs9.out ho9); clear hb9)
            | (refine bodyPost_any2 2 3 27 rfl g2 rfl (.int .i64 0) rfl 27 #[.slice (some ⟨g7, 0, none⟩) n c7] HK9.out _ Tryd.underlying27 rfl (sizedF _) rfl ?_))
          exact HEND.out _ _ _ HR9.out HC7.out HM7.out HB9.out
  · obtain ⟨e1, e2⟩ := sumV_no hs
    have HE := Lib.hid (bldE_big (l := l) (by omega) hs)
    rw [e1, e2] at HTO
    clear hrd hz hm hs e1 e2 hlen
    go_enter Tryd.func24, Tryd.ntmps24
    go_wp2_with (first
      | (with_reducible refine at_any ?_; refine at_dst 2 rfl ?_; refine wpList_alloc_any rfl 27 rfl #[.slice none 0 0] zero_fen ?_; intro w1 hk1 hs1 hb1; have HK1 := Lib.hid hk1.out; have HB1 := Lib.hid hb1; clear hk1 hs1 hb1)
      | (go_at_call 33; (with_reducible refine (HTO.out _ (HR1 HR.out HB1.out)).mono ?_); rintro e _ ⟨rfl, rfl⟩)
      | (with_reducible refine at_any ?_; refine at_dst 20 rfl ?_; refine wpList_val rfl (.agg #[.slice none 0 0]) (build_fen0 _ rfl) ?_)
      | (with_reducible refine at_any ?_; refine at_store 2 rfl ?_; refine wpList_store_any rfl 27 (.tmp 2) (.tmp 20) rfl w.heap.size rfl 27 #[.slice none 0 0] #[.slice none 0 0] HK1.out rfl (size1 _ _) (sizedF _) (fen_ones _ _ _) ?_; intro w9 hk9 hs9 hb9 ho9; have HB9 := Lib.hid (HB1.out.trans (hb9 _ (Nat.le_refl _))); have HK9 := Lib.hid hk9.out; clear hb9)
      | (refine bodyPost_any2 2 3 27 rfl w.heap.size rfl (.int .i64 11) rfl 27 #[.slice none 0 0] HK9.out _ Tryd.underlying27 rfl (sizedF _) rfl ?_))
    exact HEMP.out _ _ HE.out HB9.out
end Go.Proofs.YtepclbmcacdhlaaDoor
/-
  What the landed Stakes returns: the stakes of a tree, unbuilt from behind.
  Conditions: those that each theorem names; the library's table of trailing zeros is as the program's text lays it.
-/
set_option maxRecDepth 100000
set_option linter.unusedVariables false
set_option linter.unusedSimpArgs false
namespace Go.Proofs.YtepclbmcacdhlaaDoor
open Go.ChangeShapes Go.WideShapes Go.ChangeAt Go.RowKit
end Go.Proofs.YtepclbmcacdhlaaDoor
/-
  Who owns a ticket: the landed tree's descent from its highest bit.
  Conditions: the tree is that of a list of stakes; the library's table of trailing zeros is as the program's text lays it.
-/
set_option maxRecDepth 100000
set_option linter.unusedVariables false
set_option linter.unusedSimpArgs false
namespace Go.Proofs.YtepclbmcacdhlaaDoor
open Go.ChangeShapes Go.WideShapes Go.ChangeAt Go.RowKit
theorem ret_iiF {a b c d : Int} (h : a = b) (h2 : c = d) : Ending.returned (.tuple #[.int .i64 a, .int .i64 c]) = .returned (.tuple #[.int .i64 b, .int .i64 d]) := by rw [h, h2]
theorem fx_start {w w1 : World} {A : Option Addr} {m c : Nat} {ts : List Int} (hk : Blk w1 w.heap.size 27 #[.slice A m c]) (hr : Rd .u64 w w.heap.size A m ts) (hb : Below w.heap.size w w1) : Fx [.blk w.heap.size 27 #[.slice A m c], .rdb .u64 w.heap.size A m ts, .bel w] w1 :=
  ⟨hk, ⟨hr.below hb, hb.size⟩, hb, trivial⟩
set_option maxHeartbeats 8000000 in
theorem q11owner_c (l : List Int) (hz : ∀ z ∈ l, 0 ≤ z) (hs : sumL l < 9223372036854775808) (hl : l.length ≤ 1048576) (A : Option Addr) (m c : Nat) (hm : l.length = m) (hc : m ≤ c) (hcm : c ≤ maxLen) (t : Int) (t0 : 0 ≤ t) (t1 : t < 18446744073709551616) (w : World) (hT : TzT w) (hrd : Rd .u64 w w.heap.size A m (treeL l)) : Calls Tryd.prog 22 #[.agg #[.slice A m c], .int .u64 t] w fun e w' => e = .returned (.tuple #[.int .i64 (ownV l t), .int .i64 (ownE l t)]) ∧ Below w.heap.size w w' := by
  have HTT := Lib.hid hT
  have htot := fun W hW h => q11total_c l hz hs hl A m c hm hc hcm W hW h
  have hmI : (m : Int) ≤ 1048576 := by omega
  have hno : ¬ t < sumL l → ownV l t = 0 ∧ ownE l t = 3 := fun h => own_no hz (by omega)
  have HIS := Lib.hid (fun o (h : o < m) h1 h2 => own_is hz (t := t) (o := o) t0 (by omega) h1 h2)
  have HALL : Hid (preL l m = sumL l) := Lib.hid (by rw [← hm, preL_all])
  have HMID := Lib.hid (fun n s k (h1 : s = 2 ^ k) (h2 : 2 * s ∣ n) (h3 : n + s ≤ m) => tree_mid (l := l) h1 h2 (by omega))
  have HMO := Lib.hid (fun a b (h : a ≤ b) => preL_mono hz (l := l) h)
  have HNN := Lib.hid (fun a => preL_nn hz (l := l) a)
  have HLE := Lib.hid (fun a => Int.lt_of_le_of_lt (preL_le hz (l := l) a) hs)
  have hm0 : t < sumL l → 0 < m := fun h => by
    rcases Nat.eq_zero_or_pos m with h0 | h0
    · have : sumL l = 0 := by rw [← HALL.out, h0]; rfl
      omega
    · exact h0
  obtain ⟨x, hx⟩ : ∃ x, sumL l = x := ⟨_, rfl⟩
  obtain ⟨ts, hts⟩ : ∃ x, treeL l = x := ⟨_, rfl⟩
  rw [hx] at htot hno HALL hm0 hs
  rw [hts] at htot hrd HMID
  have HR := Lib.hid hrd
  have HTO := Lib.hid htot
  by_cases htx : t < x
  · have hmp := hm0 htx
    have hmp2 : (1 : Int) ≤ (m : Int) := by omega
    have HTX := Lib.hid htx
    obtain ⟨k0, -, hk1, hk2⟩ := bitLen_is m (by omega) (by omega)
    have HHI := Lib.hid (fun W => q11high_c m k0 hk1 hk2 (by omega) W)
    obtain ⟨g, off, hA, -, hcc⟩ := hrd.at_ hmp
    have HCELL : Hid (∀ j, j < m → ∀ W, Rd .u64 W W.heap.size A m ts → W.cell? ⟨g, off + j, none⟩ = some (.int .u64 (ts.getD j 0))) := Lib.hid (fun j hj W h => by
      obtain ⟨g2, off2, e1, -, e2⟩ := h.at_ hmp
      rw [hA] at e1
      injection e1 with e1
      injection e1 with e1 e3
      subst e1 e3
      exact e2 j hj)
    subst hA
    obtain ⟨A, hA⟩ : ∃ A : Option Addr, (some ⟨g, off, none⟩ : Option Addr) = A := ⟨_, rfl⟩
    have HA := Lib.hid hA
    have hntx : ¬ x ≤ t := by omega
    rw [hA] at HR HTO HCELL ⊢
    have HST : Hid (0 + 2 ^ (k0 + 1) ≤ m → t < preL l (0 + 2 ^ (k0 + 1))) := Lib.hid (fun h => absurd h (by omega))
    have hpk0 : 2 ^ (k0 + 1) = 2 * 2 ^ k0 := by rw [Nat.pow_succ, Nat.mul_comm]
    have HSM : Hid (2 ^ (k0 + 1) ≤ 2097152) := Lib.hid (by omega)
    have HSD : Hid (((2 ^ (k0 + 1) / 2 : Nat) : Int) = ((2 ^ k0 : Nat) : Int)) := Lib.hid (by rw [show 2 ^ (k0 + 1) = 2 * 2 ^ k0 by rw [Nat.pow_succ, Nat.mul_comm], Nat.mul_div_cancel_left _ (by omega)])
    have HP0 := Lib.hid hmp
    obtain ⟨sd, hsd⟩ : ∃ z : Int, ((2 ^ k0 : Nat) : Int) = z := ⟨_, rfl⟩
    rw [hsd] at HHI HSD
    clear hrd htot hno hm0 hz hl hm hc hcm hx hk1 hk2 hcc hts hT hA hsd hpk0
    go_enter Tryd.func22, Tryd.ntmps22
    go_wp2_with (first
      | (with_reducible refine at_any ?_; refine at_dst 2 rfl ?_; refine wpList_box_any rfl 27 (.tmp 0) rfl #[.slice A m c] rfl ?_; intro w1 hk1 hs1 hb1; have G1 := Lib.hid (fx_start hk1.out HR.out hb1); clear hk1 hs1 hb1)
      | (with_reducible refine at_any ?_; refine at_dst 11 rfl ?_; refine wpList_load_fen (by kernel_rfl) (.tmp 2) rfl w.heap.size rfl 27 (.slice A m c) (Fx.b0 G1.out) ?_)
      | (go_at_call 20; (with_reducible refine (HTO.out _ (HTT.out.below (Fx.e2 G1.out)) (Fx.r1 G1.out)).mono ?_); rintro e w2 ⟨rfl, hb2⟩; have G2 := Lib.hid (Fx.below G1.out hb2); clear hb2)
      | (with_reducible refine at_any ?_; refine at_dst 15 rfl ?_; refine wpList_load_fen (by kernel_rfl) (.tmp 2) rfl w.heap.size rfl 27 (.slice A m c) (Fx.b0 G2.out) ?_)
      | (go_at_call 26; (with_reducible refine (q11len_c A m c _).mono ?_); rintro e w3 ⟨rfl, hb3⟩; have G3 := Lib.hid (Fx.below G2.out hb3); clear hb3)
      | (go_at_call 31; (with_reducible refine (HHI.out _).mono ?_); rintro e _ ⟨rfl, rfl⟩))
    obtain ⟨gB, hgB⟩ : ∃ g, w.heap.size = g := ⟨_, rfl⟩
    have G9 : Hid (Fx [.blk gB 27 #[.slice A m c], .rdb .u64 w.heap.size A m ts, .bel w] w3) := Lib.hid (by rw [← hgB]; exact G3.out)
    rw [hgB]
    clear hgB G3
    go_loopw [6, 7, 8] (fun nn tt ss wr => ∃ (K n : Nat), ss = .int .i64 ((2 ^ K / 2 : Nat) : Int) ∧ nn = .int .i64 (n : Int) ∧ tt = .int .u64 (t - preL l n) ∧ 2 ^ K ≤ 2097152 ∧ 2 ^ K ∣ n ∧ n < m ∧ preL l n ≤ t ∧ (n + 2 ^ K ≤ m → t < preL l (n + 2 ^ K)) ∧ Fx [.blk gB 27 #[.slice A m c], .rdb .u64 w.heap.size A m ts, .bel w] wr) (fun _ _ ss _ => (intOf ss).toNat)
    case atStart => exact ⟨k0 + 1, 0, by rw [HSD.out], rfl, by rw [show preL l 0 = 0 from rfl, Int.sub_zero], HSM.out, ⟨0, rfl⟩, HP0.out, t0, HST.out, G9.out⟩
    case round =>
      clear HST HSM HSD G9 HHI HTO
      obtain ⟨K, n, rfl, rfl, rfl, hKm, hdv, hnm, hpn, hnx, hG⟩ := hrel
      have G11 := Lib.hid hG
      clear hG
      have hnmI : (n : Int) < (m : Int) := by omega
      have hn0I : (0 : Int) ≤ (n : Int) := by omega
      cases K with
      | zero =>
        obtain ⟨e1, e2⟩ := HIS.out n hnm hpn (by have h := hnx (by rw [Nat.pow_zero]; omega); rw [Nat.pow_zero] at h; exact h)
        have E1 := Lib.hid e1
        have E2 := Lib.hid e2
        rw [show ((2 ^ 0 / 2 : Nat) : Int) = 0 from rfl]
        clear hKm hdv hnm hpn hnx e1 e2
        go_wp2
        go_ret2
        exact ⟨ret_iiF E1.out.symm E2.out.symm, Fx.e2 G11.out⟩
      | succ k =>
        have hnk : 2 ^ (k + 1) = 2 * 2 ^ k := by rw [Nat.pow_succ, Nat.mul_comm]
        have hk1 : 1 ≤ 2 ^ k := Nat.one_le_two_pow
        have hmid := HMID.out n (2 ^ k) k rfl (by rw [← hnk]; exact hdv)
        have hd2 : 2 ^ k ∣ n := Nat.dvd_trans ⟨2, by rw [hnk, Nat.mul_comm]⟩ hdv
        rw [hnk] at hKm hnx
        rw [show 2 ^ (k + 1) / 2 = 2 ^ k by rw [hnk, Nat.mul_div_cancel_left _ (by omega)]]
        have hq : ((2 ^ k : Nat) : Int) / 2 = ((2 ^ k / 2 : Nat) : Int) := by omega
        have hqm : ((2 ^ k / 2 : Nat) : Int).toNat < (((2 ^ k : Nat) : Int)).toNat := by omega
        have HKM : Hid (2 ^ k ≤ 2097152) := Lib.hid (by omega)
        have HD2 := Lib.hid hd2
        have HDS : Hid (2 ^ k ∣ n + 2 ^ k) := Lib.hid (Nat.dvd_add hd2 (Nat.dvd_refl _))
        have hp0 := HNN.out n
        have hpl := HLE.out n
        by_cases hle : n + 2 ^ k < m
        · have hcell := hmid (by omega)
          have hck := HCELL.out (n + 2 ^ k - 1) (by omega)
          rw [hcell] at hck
          have hp1 := HMO.out n (n + 2 ^ k) (by omega)
          have hp2 := HLE.out (n + 2 ^ k)
          by_cases hgo : preL l (n + 2 ^ k) ≤ t
          · have HNX : Hid (n + 2 ^ k + 2 ^ k ≤ m → t < preL l (n + 2 ^ k + 2 ^ k)) := Lib.hid (fun h => by have h2 := hnx (by omega); rw [show n + 2 * 2 ^ k = n + 2 ^ k + 2 ^ k by omega] at h2; exact h2)
            have HRL := Lib.hid hgo
            obtain ⟨s, hsk⟩ : ∃ s, 2 ^ k = s := ⟨_, rfl⟩
            rw [hsk] at hk1 hle hck hp1 hp2 hgo hq HKM hqm ⊢
            have HSK := Lib.hid hsk
            obtain ⟨q, hqq⟩ : ∃ q, n + s - 1 = q := ⟨_, rfl⟩
            rw [hqq] at hck
            have HP1 : Hid (t - preL l n - (preL l (n + s) - preL l n) = t - preL l (n + s)) := Lib.hid (by omega)
            obtain ⟨u, hu⟩ : ∃ u, t - preL l n = u := ⟨_, rfl⟩
            obtain ⟨z, hzz⟩ : ∃ z, preL l (n + s) - preL l n = z := ⟨_, rfl⟩
            rw [hu, hzz] at HP1
            rw [hzz] at hck
            rw [hu]
            have HCK := Lib.hid hck
            have u0 : 0 ≤ u := by omega
            have u1 : u < 18446744073709551616 := by omega
            have z0 : 0 ≤ z := by omega
            have zu : z ≤ u := by omega
            have hsI : (1 : Int) ≤ (s : Int) := by omega
            have hsM : (n : Int) + (s : Int) < (m : Int) := by omega
            have hqI : (n : Int) + (s : Int) - 1 = (q : Int) := by omega
            have hqm2 : (q : Int) < (m : Int) := by omega
            have hq0 : (0 : Int) ≤ (q : Int) := by omega
            obtain ⟨sh, hsh⟩ : ∃ x : Int, ((s / 2 : Nat) : Int) = x := ⟨_, rfl⟩
            have HSH : Hid (sh = ((s / 2 : Nat) : Int)) := Lib.hid hsh.symm
            have hsh0 : 0 ≤ sh ∧ sh ≤ 1048576 := by omega
            obtain ⟨hsh1, hsh2⟩ := hsh0
            rw [hsh] at hq hqm
            have HQM := Lib.hid hqm
            have HLEM := Lib.hid hle
            have HAA := HA.out
            subst HAA
            clear hmid hcell hp0 hpl hp1 hp2 hgo hnk hk1 hd2 hKm hdv hnm hpn hnx hsk hqq hu hzz hsh hqm hck hle
            go_wp2_with (first
              | (with_reducible refine at_any ?_; refine at_dst 26 rfl ?_; refine wpList_load_fen (by kernel_rfl) (.tmp 2) rfl gB rfl 27 _ (Fx.b0 G11.out) ?_)
              | (go_at_call 26; (with_reducible refine (q11len_c _ m c _).mono ?_); rintro e w12 ⟨rfl, hb12⟩; have G12 := Lib.hid (Fx.below G11.out hb12); have c12 := Blk.cell0 (Fx.b0 G12.out); have z12 := HCK.out _ (Fx.r1 G12.out); clear hb12))
            go_quiet (fail)
            go_wp2
            go_roundw
            case rel => exact ⟨k, n + s, by rw [HSK.out, HSH.out], by go_num, by rw [HP1.out], by rw [HSK.out]; exact HKM.out, by have h := HDS.out; rw [HSK.out] at h ⊢; exact h, HLEM.out, by have h := HRL.out; rw [HSK.out] at h; exact h, by have h := HNX.out; rw [HSK.out] at h ⊢; exact h, Fx.below G12.out (below_drewN (Below.refl _ _) _)⟩
            case measure => exact HQM.out
          · have HRN : Hid (t < preL l (n + 2 ^ k)) := Lib.hid (by omega)
            have HNM := Lib.hid hnm
            have HPN := Lib.hid hpn
            obtain ⟨s, hsk⟩ : ∃ s, 2 ^ k = s := ⟨_, rfl⟩
            rw [hsk] at hk1 hle hck hp1 hp2 hgo hq HKM hqm ⊢
            have HSK := Lib.hid hsk
            obtain ⟨q, hqq⟩ : ∃ q, n + s - 1 = q := ⟨_, rfl⟩
            rw [hqq] at hck
            obtain ⟨u, hu⟩ : ∃ u, t - preL l n = u := ⟨_, rfl⟩
            obtain ⟨z, hzz⟩ : ∃ z, preL l (n + s) - preL l n = z := ⟨_, rfl⟩
            rw [hzz] at hck
            rw [hu]
            have HU := Lib.hid hu
            have HCK := Lib.hid hck
            have u0 : 0 ≤ u := by omega
            have zu : ¬ z ≤ u := by omega
            have hsI : (1 : Int) ≤ (s : Int) := by omega
            have hsM : (n : Int) + (s : Int) < (m : Int) := by omega
            have hqI : (n : Int) + (s : Int) - 1 = (q : Int) := by omega
            have hqm2 : (q : Int) < (m : Int) := by omega
            have hq0 : (0 : Int) ≤ (q : Int) := by omega
            obtain ⟨sh, hsh⟩ : ∃ x : Int, ((s / 2 : Nat) : Int) = x := ⟨_, rfl⟩
            have HSH : Hid (sh = ((s / 2 : Nat) : Int)) := Lib.hid hsh.symm
            have hsh0 : 0 ≤ sh ∧ sh ≤ 1048576 := by omega
            obtain ⟨hsh1, hsh2⟩ := hsh0
            rw [hsh] at hq hqm
            have HQM := Lib.hid hqm
            have HAA := HA.out
            subst HAA
            clear hmid hcell hp0 hpl hp1 hp2 hgo hnk hk1 hd2 hKm hdv hnm hpn hnx hsk hqq hu hzz hsh hqm hck hle
            go_wp2_with (first
              | (with_reducible refine at_any ?_; refine at_dst 26 rfl ?_; refine wpList_load_fen (by kernel_rfl) (.tmp 2) rfl gB rfl 27 _ (Fx.b0 G11.out) ?_)
              | (go_at_call 26; (with_reducible refine (q11len_c _ m c _).mono ?_); rintro e w12 ⟨rfl, hb12⟩; have G12 := Lib.hid (Fx.below G11.out hb12); have c12 := Blk.cell0 (Fx.b0 G12.out); have z12 := HCK.out _ (Fx.r1 G12.out); clear hb12))
            go_roundw
            case rel => exact ⟨k, n, by rw [HSK.out, HSH.out], rfl, by rw [HU.out], by rw [HSK.out]; exact HKM.out, HD2.out, HNM.out, HPN.out, fun _ => HRN.out, G12.out⟩
            case measure => exact HQM.out
        · have HNM := Lib.hid hnm
          have HPN := Lib.hid hpn
          have HOUT : Hid (n + 2 ^ k ≤ m → t < preL l (n + 2 ^ k)) := Lib.hid (fun h => by
            have e : n + 2 ^ k = m := by omega
            rw [e, HALL.out]
            exact HTX.out)
          obtain ⟨s, hsk⟩ : ∃ s, 2 ^ k = s := ⟨_, rfl⟩
          rw [hsk] at hk1 hle hq HKM hqm ⊢
          have HSK := Lib.hid hsk
          obtain ⟨u, hu⟩ : ∃ u, t - preL l n = u := ⟨_, rfl⟩
          rw [hu]
          have HU := Lib.hid hu
          have u0 : 0 ≤ u := by omega
          have hsI : (1 : Int) ≤ (s : Int) := by omega
          have hsX : (s : Int) ≤ 2097152 := by have := HKM.out; omega
          have hsM : ¬ (n : Int) + (s : Int) < (m : Int) := by omega
          obtain ⟨sh, hsh⟩ : ∃ x : Int, ((s / 2 : Nat) : Int) = x := ⟨_, rfl⟩
          have HSH : Hid (sh = ((s / 2 : Nat) : Int)) := Lib.hid hsh.symm
          have hsh0 : 0 ≤ sh ∧ sh ≤ 1048576 := by have := HKM.out; omega
          obtain ⟨hsh1, hsh2⟩ := hsh0
          rw [hsh] at hq hqm
          have HQM := Lib.hid hqm
          clear hmid hp0 hpl hnk hk1 hd2 hKm hdv hnm hpn hnx hsk hu hsh hqm hle
          go_wp2_with (first
            | (with_reducible refine at_any ?_; refine at_dst 26 rfl ?_; refine wpList_load_fen (by kernel_rfl) (.tmp 2) rfl gB rfl 27 _ (Fx.b0 G11.out) ?_)
            | (go_at_call 26; (with_reducible refine (q11len_c _ m c _).mono ?_); rintro e w12 ⟨rfl, hb12⟩; have G12 := Lib.hid (Fx.below G11.out hb12); have c12 := Blk.cell0 (Fx.b0 G12.out); clear hb12))
          go_roundw
          case rel => exact ⟨k, n, by rw [HSK.out, HSH.out], rfl, by rw [HU.out], by rw [HSK.out]; exact HKM.out, HD2.out, HNM.out, HPN.out, HOUT.out, G12.out⟩
          case measure => exact HQM.out
  · obtain ⟨e1, e2⟩ := hno htx
    rw [e1, e2]
    have htx2 : x ≤ t := by omega
    clear hrd htot hno hm0 hz hl hm hc hcm hx e1 e2 hts hT
    go_enter Tryd.func22, Tryd.ntmps22
    go_wp2_with (first
      | (with_reducible refine at_any ?_; refine at_dst 2 rfl ?_; refine wpList_box_any rfl 27 (.tmp 0) rfl #[.slice A m c] rfl ?_; intro w1 hk1 hs1 hb1; have G1 := Lib.hid (fx_start hk1.out HR.out hb1); clear hk1 hs1 hb1)
      | (with_reducible refine at_any ?_; refine at_dst 11 rfl ?_; refine wpList_load_fen (by kernel_rfl) (.tmp 2) rfl w.heap.size rfl 27 (.slice A m c) (Fx.b0 G1.out) ?_)
      | (go_at_call 20; (with_reducible refine (HTO.out _ (HTT.out.below (Fx.e2 G1.out)) (Fx.r1 G1.out)).mono ?_); rintro e w2 ⟨rfl, hb2⟩; have G2 := Lib.hid (Fx.below G1.out hb2); clear hb2))
    go_ret2
    exact ⟨rfl, Fx.e2 G2.out⟩
end Go.Proofs.YtepclbmcacdhlaaDoor
/-
  What the landed Set returns: the numbers that hold a place, each changed by what the stake differs.
  Conditions: those that each theorem names; the library's table of trailing zeros is as the program's text lays it.
-/
set_option maxRecDepth 100000
set_option linter.unusedVariables false
set_option linter.unusedSimpArgs false
namespace Go.Proofs.YtepclbmcacdhlaaDoor
open Go.ChangeShapes Go.WideShapes Go.ChangeAt Go.RowKit
end Go.Proofs.YtepclbmcacdhlaaDoor
/-
  What the landed Grow and Same return; with them, all of the landed fen.
  Conditions: those that each theorem names; the library's table of trailing zeros is as the program's text lays it.
-/
set_option maxRecDepth 100000
set_option linter.unusedVariables false
set_option linter.unusedSimpArgs false
namespace Go.Proofs.YtepclbmcacdhlaaDoor
open Go.ChangeShapes Go.WideShapes Go.ChangeAt Go.RowKit
end Go.Proofs.YtepclbmcacdhlaaDoor
/-
  What lead's calls return (Draw, List), and that memory is left as it was: over a plain lead (a model for the landed one).
  Conditions: the arguments lie in their types' ranges; the tree is that of a list of stakes; the tables hold what the texts lay.
-/
set_option maxRecDepth 100000
set_option linter.unusedVariables false
set_option linter.unusedSimpArgs false
namespace Go.Proofs.YtepclbmcacdhlaaDoor
open Go.ChangeShapes Go.WideShapes Go.ChangeAt Go.RowKit
/-- A block beyond a tree's is stored: what is known of the tree stays. -/
theorem fx_led {w w6 w7 : World} {AF : Option Addr} {m c : Nat} {ts : List Int} {Z : Array Value} {w5 : World} (h : Fx [.blk w.heap.size 27 #[.slice AF m c], .rdb .u64 w.heap.size AF m ts, .bel w] w6) (hk : Blk w6 w5.heap.size 34 Z) (hb0 : Blk w5 w.heap.size 27 #[.slice AF m c]) (hbw : Below w.heap.size w w5) (hs : w7.heap.size = w6.heap.size) (hb : ∀ B, B ≤ w5.heap.size → Below B w6 w7) (ho : ∀ j, j ≠ w5.heap.size → w7.heap[j]? = w6.heap[j]?) : Fx [.blk w.heap.size 27 #[.slice AF m c], .rdb .u64 w.heap.size AF m ts, .bel w] w7 :=
  Fx.store h hk ⟨Nat.ne_of_lt hb0.lt, hbw.size, hbw.size, trivial⟩ hs hb ho
theorem draw_owns {l : List Int} (hz : ∀ z ∈ l, 0 ≤ z) (s : Src) (a : Int) (h : (drawR s (sumL l) a).2.2 = 0) : ownE l (drawR s (sumL l) a).1 = 0 := by
  have h0 := (draw_in s (sumL l) a).1
  have h1 : (drawR s (sumL l) a).1 < sumL l := by
    unfold drawR at h ⊢
    split
    next hb => rw [if_pos hb] at h; exact (drawGo_first _ _ _ _ h).1
    next hb => rw [if_neg hb] at h; exact absurd h (by show ¬ (1 : Int) = 0; omega)
  obtain ⟨_, _, _, e, _⟩ := own_at hz h0 h1
  exact e
set_option maxHeartbeats 8000000 in
theorem q13draw_c (l : List Int) (hz : ∀ z ∈ l, 0 ≤ z) (hs : sumL l < 9223372036854775808) (hl : l.length ≤ 1048576) (AF : Option Addr) (m c : Nat) (hm : l.length = m) (hc : m ≤ c) (hcm : c ≤ maxLen) (s : Src) (ok : s.Ok) (a : Int) (a0 : -9223372036854775808 ≤ a) (a1 : a < 9223372036854775808) (A0 : Option Addr) (c0 : Nat) (hc0 : s.tape.length ≤ c0) (hcm0 : c0 ≤ maxLen) (w : World) (hrf : Rd .u64 w w.heap.size AF m (treeL l)) (hrd : Rd .u8 w w.heap.size A0 s.tape.length s.tape) (hkst : Kst w) :
    Calls Tryd.prog 11 #[.agg #[.slice AF m c], .agg (srcV s A0 c0), .int .i64 a] w (RetLead w s A0 (ledT l s a)) := by
  have HKS := Lib.hid hkst
  have HZ0 := Lib.hid zero_src
  have hRd := Lib.hid hrd
  have HZSS := Lib.hid (fun (t : Src) (h : t.seed.length = 32) A c => srcV_same Src.zero t rfl h none A 0 c)
  have hto := fun W hW h => q11total_c l hz hs hl AF m c hm hc hcm W hW h
  have hs0 := sumL_nn hz
  obtain ⟨ts, hts⟩ : ∃ x, treeL l = x := ⟨_, rfl⟩
  rw [hts] at hrf hto
  have HRF := Lib.hid hrf
  obtain ⟨Z, hZ⟩ : ∃ Z, srcV Src.zero none 0 = Z := ⟨_, rfl⟩
  rw [hZ] at HZ0 HZSS
  have SV := Lib.hid (sizedS s ok.sl A0 c0)
  have OV := Lib.hid (srcV_ones s A0 c0)
  have ZV := Lib.hid (HZSS.out s ok.sl A0 c0)
  by_cases hnz : sumL l = 0
  · rw [ledT_zero s a hnz]
    rw [hnz] at hto
    have HTO := Lib.hid hto
    have HEND0 : Hid (∀ wF, Below w.heap.size w wF → ∀ w', RdP A0 s.tape.length s.tape w' → Below wF.heap.size wF w' → RetLead w s A0 (0, s, 10) (.returned (.tuple #[.int .i64 0, .agg (srcV s A0 c0), .int .i64 10])) w') := Lib.hid (fun wF h0 w' hr hb => ⟨A0, c0, rfl, hr, hc0, hcm0, .inl rfl, h0.trans (hb.mono h0.size)⟩)
    obtain ⟨rr, hrr⟩ : ∃ r : Int × Src × Int, (0, s, 10) = r := ⟨_, rfl⟩
    rw [hrr] at HEND0 ⊢
    obtain ⟨V, hV⟩ : ∃ V, srcV s A0 c0 = V := ⟨_, rfl⟩
    rw [hV] at SV OV ZV HEND0 ⊢
    obtain ⟨zs, hzs⟩ : ∃ zs, s.tape = zs := ⟨_, rfl⟩
    obtain ⟨L, hL⟩ : ∃ L, zs.length = L := ⟨_, rfl⟩
    rw [hzs, hL] at HEND0
    rw [hzs, hL] at hRd
    have HEND := HEND0
    clear HEND0 hrr hV hzs hL hto hz hs0 hrd hrf hc hcm hc0 hcm0 hZ a0 a1 hs hl hm HZSS hts hkst
    go_enter Tryd.func11, Tryd.ntmps11
    go_wp2_with (first
      | (with_reducible refine at_any ?_; refine at_dst 3 rfl ?_; refine wpList_box_any rfl 27 (.tmp 0) rfl #[.slice AF m c] rfl ?_; intro wF hkF hsF hbF; have G0 := Lib.hid (fx_start hkF.out HRF.out hbF); have HBF := Lib.hid hbF; have HRdF := Lib.hid ((hRd.out.below hbF).mono (Below.size hbF)); clear hkF hsF hbF)
      | (with_reducible refine at_any ?_; refine at_dst 4 rfl ?_; refine wpList_box_any rfl 34 (.tmp 1) rfl V rfl ?_; intro w1 hk1 hs1 hb1)
      | (with_reducible refine at_any ?_; refine at_dst 7 rfl ?_; refine wpList_alloc_any rfl 34 rfl Z HZ0.out ?_; intro w2 hk2 hs2 hb2; have HS2 := Lib.hid (DrS.mk2 HRdF.out hk1.out hb1 hk2.out hb2 (Below.refl _ _)); have HZ2 := Lib.hid (fx1 hk2.out); have G2 := Lib.hid (Fx.below (Fx.below G0.out hb1) hb2); clear G0 hs1 hb1 hs2 hb2)
      | (with_reducible refine at_any ?_; refine at_dst 14 rfl ?_; refine wpList_load_fen (by kernel_rfl) (.tmp 3) rfl w.heap.size rfl 27 (.slice AF m c) (Fx.b0 G2.out) ?_)
      | (go_at_call 20; (with_reducible refine (HTO.out _ (Kst.tz (HKS.out.below (Fx.e2 G2.out))) (Fx.r1 G2.out)).mono ?_); rintro e w3 ⟨rfl, hb3⟩; have HS := Lib.hid (DrS.below HS2.out hb3); have HZ := Lib.hid (Fx.below HZ2.out hb3); have G3 := Lib.hid (Fx.below G2.out hb3); clear G2 HS2 HZ2 hb3))
    obtain ⟨g3, hg3⟩ : ∃ g, wF.heap.size = g := ⟨_, rfl⟩
    obtain ⟨g7, hg7⟩ : ∃ g, w1.heap.size = g := ⟨_, rfl⟩
    have HS9 := HS.out
    have HZ9 := HZ.out
    rw [hg3, hg7] at HS9
    rw [hg7] at HZ9
    rw [hg3, hg7]
    clear hg3 hg7 hk1 hk2 HS HZ
    have HZ7 := HZ9.drew
    refine wp_region_held_drew (S := (DrS wF g3 g7 V A0 L zs)) (by kernel_rfl) HS9.drew (fun hH => ?_)
    refine wpAnyH_letter #[false, false, false, false] (by kernel_rfl) (fun _ _ d _ _ h => by cases d <;> exact h) (fun QL HQ1 HQ2 => ?_)
    refine held_row 0 (some 18) rfl (by kernel_rfl) (by kernel_rfl) (by kernel_rfl) (by kernel_rfl) (fun c a v w h => HQ2.out c a _ v w h) (by kernel_rfl) 34 (.tmp 4) rfl g3 (by kernel_rfl) 34 V (fun _ h => h.blk) _ Tryd.underlying34 rfl SV.out hH ?_
    try simp only [Act.put, List.setIfInBounds_toArray, List.set_cons_zero, List.set_cons_succ]
    refine held_v 1 (some 6) rfl (by kernel_rfl) (by kernel_rfl) (by kernel_rfl) (by kernel_rfl) (fun c a v w h => HQ2.out c a _ v w h) (by kernel_rfl) (.int .i64 0) (fun W h => by kernel_rfl) hH ?_
    try simp only [Act.put, List.setIfInBounds_toArray, List.set_cons_zero, List.set_cons_succ]
    refine wpAnyH_ready (rs := [2]) (by kernel_rfl) (by decide) ?_
    refine AllReadyH.cons rfl (fun K hK => ?_) AllReadyH.nil
    refine step_store none (by kernel_rfl) (by kernel_rfl) 34 (.tmp 7) (.tmp 18) rfl g7 (by kernel_rfl) 34 Z V HZ7.1 (by kernel_rfl) ZV.out SV.out OV.out ?_
    intro w41 hkw41 hsw41 hbw41 how41
    have ex42 : Fx [.blk g7 34 V] w41 := ⟨hkw41.out, trivial⟩
    refine hK.out _ _ (hH.store HZ7.1 hH.store7 hsw41.out hbw41 how41) (fun hw41 => ?_)
    clear hK K
    try simp only [Act.put, List.setIfInBounds_toArray, List.set_cons_zero, List.set_cons_succ]
    refine held_v 3 (some 8) rfl (by kernel_rfl) (by kernel_rfl) (by kernel_rfl) (by kernel_rfl) (fun c a v w h => HQ2.out c a _ v w h) (by kernel_rfl) (.int .i64 10) (fun W h => by kernel_rfl) hw41 ?_
    try simp only [Act.put, List.setIfInBounds_toArray, List.set_cons_zero, List.set_cons_succ]
    refine wpAnyH_done (by kernel_rfl) ?_ _
    refine HQ1.out _ _ ?_
    clear HQ1 HQ2
    go_wp2_with (refine bodyPost_mid 6 7 8 34 rfl g7 rfl (.int .i64 0) (.int .i64 10) rfl rfl 34 V ex42.1 _ Tryd.underlying34 rfl SV.out rfl ?_)
    exact HEND.out wF HBF.out _ hw41.rd hw41.bel
  · rw [ledT_go s a hnz]
    have hdr := fun W h hk => q8draw_c s ok (sumL l) (by omega) (by omega) a a0 a1 A0 c0 hc0 hcm0 W h hk
    have okt : (drawT s (sumL l) a).Ok := drawT_ok s (sumL l) a ok
    have HEND0 : Hid (∀ wF, Below w.heap.size w wF → ∀ A2 c2 w', Sep wF A0 A2 → s.tape.length ≤ c2 → c2 ≤ maxLen → RdP A2 s.tape.length s.tape w' → Below wF.heap.size wF w' → RetLead w s A0 (ledGo l (drawR s (sumL l) a)) (.returned (.tuple #[.int .i64 (ledGo l (drawR s (sumL l) a)).1, .agg (srcV (ledGo l (drawR s (sumL l) a)).2.1 A2 c2), .int .i64 (ledGo l (drawR s (sumL l) a)).2.2])) w') := Lib.hid (fun wF h0 A2 c2 w' h1 h2 h3 h4 h5 => ⟨A2, c2, rfl, h4, h2, h3, sep_from h1 h0.size, h0.trans (h5.mono h0.size)⟩)
    have how := fun W hW h => q11owner_c l hz hs hl AF m c hm hc hcm (drawR s (sumL l) a).1 (draw_in s (sumL l) a).1 (draw_in s (sumL l) a).2 W hW h
    have hgo : (drawR s (sumL l) a).2.2 = 0 → ledGo l (drawR s (sumL l) a) = (ownV l (drawR s (sumL l) a).1, (drawR s (sumL l) a).2.1, 0) := fun h => if_pos h
    have hgn : (drawR s (sumL l) a).2.2 ≠ 0 → ledGo l (drawR s (sumL l) a) = (0, (drawR s (sumL l) a).2.1, (drawR s (sumL l) a).2.2) := fun h => if_neg h
    rw [hts] at how
    have hoz := draw_owns hz s a
    obtain ⟨S, hS⟩ : ∃ x, sumL l = x := ⟨_, rfl⟩
    rw [hS] at hto hnz hdr okt HEND0 how hgo hgn hoz ⊢
    obtain ⟨t, ht⟩ : ∃ x, drawT s S a = x := ⟨_, rfl⟩
    have ht2 : (drawR s S a).2.1 = t := ht
    obtain ⟨x, hx⟩ : ∃ x, (drawR s S a).1 = x := ⟨_, rfl⟩
    obtain ⟨E, hE⟩ : ∃ x, (drawR s S a).2.2 = x := ⟨_, rfl⟩
    rw [ht] at okt
    unfold RetDraw at hdr
    rw [ht2, hx, hE] at hdr hgo
    rw [hx, hE] at hoz
    rw [ht2, hE] at hgn
    rw [hx] at how
    have t1 : (S == 0) = false := by rw [beq_eq_false_iff_ne]; exact hnz
    have HTO := Lib.hid hto
    have HDR0 := Lib.hid hdr
    have ST := Lib.hid (fun A c => sizedS t okt.sl A c)
    have OT := Lib.hid (fun A c => srcV_ones t A c)
    have ZT := Lib.hid (fun A c => HZSS.out t okt.sl A c)
    obtain ⟨ov, hov⟩ : ∃ y, ownV l x = y := ⟨_, rfl⟩
    obtain ⟨oe, hoe⟩ : ∃ y, ownE l x = y := ⟨_, rfl⟩
    rw [hov, hoe] at how
    rw [hoe] at hoz
    rw [hov] at hgo
    have HOW := Lib.hid how
    by_cases hE0 : E = 0
    · have e1 := hgo hE0
      rw [hoz hE0] at HOW
      rw [e1] at HEND0 ⊢
      have t2 : (E == 0) = true := by rw [beq_iff_eq]; exact hE0
      have t3 : (E != 0) = false := by rw [bne, t2]; rfl
      obtain ⟨rr, hrr⟩ : ∃ r : Int × Src × Int, (ov, t, 0) = r := ⟨_, rfl⟩
      have HEND1 : Hid (∀ wF, Below w.heap.size w wF → ∀ A2 c2 w', Sep wF A0 A2 → s.tape.length ≤ c2 → c2 ≤ maxLen → RdP A2 s.tape.length s.tape w' → Below wF.heap.size wF w' → RetLead w s A0 rr (.returned (.tuple #[.int .i64 ov, .agg (srcV t A2 c2), .int .i64 0])) w') := by rw [← hrr]; exact HEND0
      rw [hrr]
      obtain ⟨V, hV⟩ : ∃ V, srcV s A0 c0 = V := ⟨_, rfl⟩
      have HDR := HDR0
      rw [hV] at SV OV ZV HDR ⊢
      obtain ⟨zs, hzs⟩ : ∃ zs, s.tape = zs := ⟨_, rfl⟩
      obtain ⟨L, hL⟩ : ∃ L, zs.length = L := ⟨_, rfl⟩
      rw [hzs, hL] at HEND1 hRd HDR
      have HEND := HEND1
      clear HEND1 HEND0 HDR0 hrr hV hzs hL hto hdr how hgo hgn e1 hoz hov hoe hx hE ht ht2 hS okt hz hs0 hrd hrf hc hcm hc0 hcm0 hZ a0 a1 hs hl hm HZSS hnz hE0 hts hkst
      go_enter Tryd.func11, Tryd.ntmps11
      go_wp2_with (first
        | (with_reducible refine at_any ?_; refine at_dst 3 rfl ?_; refine wpList_box_any rfl 27 (.tmp 0) rfl #[.slice AF m c] rfl ?_; intro wF hkF hsF hbF; have G0 := Lib.hid (fx_start hkF.out HRF.out hbF); have HBF := Lib.hid hbF; have HRdF := Lib.hid ((hRd.out.below hbF).mono (Below.size hbF)); clear hkF hsF hbF)
        | (with_reducible refine at_any ?_; refine at_dst 4 rfl ?_; refine wpList_box_any rfl 34 (.tmp 1) rfl V rfl ?_; intro w1 hk1 hs1 hb1)
        | (with_reducible refine at_any ?_; refine at_dst 7 rfl ?_; refine wpList_alloc_any rfl 34 rfl Z HZ0.out ?_; intro w2 hk2 hs2 hb2; have HS2 := Lib.hid (DrS.mk2 HRdF.out hk1.out hb1 hk2.out hb2 (Below.refl _ _)); have HZ2 := Lib.hid (fx1 hk2.out); have G2 := Lib.hid (Fx.below (Fx.below G0.out hb1) hb2); clear G0 hs1 hb1 hs2 hb2)
        | (with_reducible refine at_any ?_; refine at_dst 14 rfl ?_; refine wpList_load_fen (by kernel_rfl) (.tmp 3) rfl w.heap.size rfl 27 (.slice AF m c) (Fx.b0 G2.out) ?_)
        | (go_at_call 20; (with_reducible refine (HTO.out _ (Kst.tz (HKS.out.below (Fx.e2 G2.out))) (Fx.r1 G2.out)).mono ?_); rintro e w3 ⟨rfl, hb3⟩; have HS := Lib.hid (DrS.below HS2.out hb3); have HZ := Lib.hid (Fx.below HZ2.out hb3); have G3 := Lib.hid (Fx.below G2.out hb3); clear G2 HS2 HZ2 hb3)
        | (with_reducible refine at_any ?_; refine at_dst 20 rfl ?_; refine wpList_load_blk rfl 34 (.tmp 4) rfl wF.heap.size rfl 34 V HS.out.blk _ Tryd.underlying34 rfl SV.out ?_)
        | (go_at_call 21; (with_reducible refine (HDR.out _ HS.out.rd.rd (HKS.out.below (Fx.e2 G3.out))).mono ?_); rintro e w5 ⟨A2, c2, rfl, hrd2, hc2, hm2, hsp2, hb5⟩; obtain ⟨V2, hV2⟩ : ∃ V2, srcV t A2 c2 = V2 := ⟨_, rfl⟩; have SV2 := Lib.hid (ST.out A2 c2); have OV2 := Lib.hid (OT.out A2 c2); have ZV2 := Lib.hid (ZT.out A2 c2); have HH2 := Lib.hid (fun w' h3 h4 => HEND.out wF HBF.out A2 c2 w' (sep_from hsp2 HS.out.bel.size) hc2 hm2 h3 h4); rw [hV2] at SV2 OV2 ZV2 HH2 ⊢; clear hV2 hc2 hm2; have G5 := Lib.hid (Fx.below G3.out hb5); clear G3)
        | (with_reducible refine at_any ?_; refine at_dst 11 rfl ?_; refine wpList_alloc_any rfl 34 rfl Z HZ0.out ?_; intro w6 hk6 hs6 hb6; have G6 := Lib.hid (Fx.below G5.out hb6))
        | (with_reducible refine at_any ?_; refine at_store 11 rfl ?_; refine wpList_store_any rfl 34 (.tmp 11) (.tmp 25) rfl w5.heap.size rfl 34 Z V2 hk6.out rfl ZV2.out SV2.out OV2.out ?_; intro w7 hk7 hs7 hb7 ho7; have T := Lib.hid (DrS.took HS.out HZ.out hrd2 hsp2 hb5 hb6 hk6.out hk7.out hs7.out hb7 ho7); have G7 := Lib.hid (fx_led G6.out hk6.out (Fx.b0 G5.out) (Fx.e2 G5.out) hs7.out hb7 ho7); clear G5 G6)
        | (with_reducible refine at_any ?_; refine at_dst 32 rfl ?_; refine wpList_load_fen (by kernel_rfl) (.tmp 3) rfl w.heap.size rfl 27 (.slice AF m c) (Fx.b0 G7.out) ?_)
        | (go_at_call 22; (with_reducible refine (HOW.out _ (Kst.tz (HKS.out.below (Fx.e2 G7.out))) (Fx.r1 G7.out)).mono ?_); rintro e w8 ⟨rfl, hb8⟩))
      obtain ⟨-, HZ9, -, -, -, HD⟩ := T.out
      have HZ9 := HZ9.below hb8
      have HD := HD.below hb8
      obtain ⟨g7, hg7⟩ : ∃ g, w1.heap.size = g := ⟨_, rfl⟩
      obtain ⟨g11, hg11⟩ : ∃ g, w5.heap.size = g := ⟨_, rfl⟩
      rw [hg7] at HZ9 HD
      rw [hg11] at HD
      rw [hg7, hg11]
      clear hg7 hg11 T
      have HZ7 := HZ9.drew
      refine wp_region_held_drew (S := (DrH wF g7 g11 V2 A2 L zs)) (by kernel_rfl) HD.drew (fun hH => ?_)
      refine wpAnyH_letter #[false, false, false, false, false, false] (by kernel_rfl) (fun _ _ d _ _ h => by cases d <;> exact h) (fun QL HQ1 HQ2 => ?_)
      refine held_v 0 (some 37) rfl (by kernel_rfl) (by kernel_rfl) (by kernel_rfl) (by kernel_rfl) (fun c a v w h => HQ2.out c a _ v w h) (by kernel_rfl) (.int .i64 ov) (fun W h => by kernel_rfl) hH ?_
      try simp only [Act.put, List.setIfInBounds_toArray, List.set_cons_zero, List.set_cons_succ]
      refine held_row 1 (some 38) rfl (by kernel_rfl) (by kernel_rfl) (by kernel_rfl) (by kernel_rfl) (fun c a v w h => HQ2.out c a _ v w h) (by kernel_rfl) 34 (.tmp 11) rfl g11 (by kernel_rfl) 34 V2 (fun _ h => h.blk) _ Tryd.underlying34 rfl SV2.out hH ?_
      try simp only [Act.put, List.setIfInBounds_toArray, List.set_cons_zero, List.set_cons_succ]
      refine held_v 2 (some 39) rfl (by kernel_rfl) (by kernel_rfl) (by kernel_rfl) (by kernel_rfl) (fun c a v w h => HQ2.out c a _ v w h) (by kernel_rfl) (.int .i64 0) (fun W h => by kernel_rfl) hH ?_
      try simp only [Act.put, List.setIfInBounds_toArray, List.set_cons_zero, List.set_cons_succ]
      refine held_v 3 (some 6) rfl (by kernel_rfl) (by kernel_rfl) (by kernel_rfl) (by kernel_rfl) (fun c a v w h => HQ2.out c a _ v w h) (by kernel_rfl) (.int .i64 ov) (fun W h => by kernel_rfl) hH ?_
      try simp only [Act.put, List.setIfInBounds_toArray, List.set_cons_zero, List.set_cons_succ]
      refine wpAnyH_ready (rs := [4]) (by kernel_rfl) (by decide) ?_
      refine AllReadyH.cons rfl (fun K hK => ?_) AllReadyH.nil
      refine step_store none (by kernel_rfl) (by kernel_rfl) 34 (.tmp 7) (.tmp 38) rfl g7 (by kernel_rfl) 34 Z V2 HZ7.1 (by kernel_rfl) ZV2.out SV2.out OV2.out ?_
      intro w141 hkw141 hsw141 hbw141 how141
      have ex142 : Fx [.blk g7 34 V2] w141 := ⟨hkw141.out, trivial⟩
      refine hK.out _ _ (hH.store HZ7.1 hH.store7 hsw141.out hbw141 how141) (fun hw141 => ?_)
      clear hK K
      try simp only [Act.put, List.setIfInBounds_toArray, List.set_cons_zero, List.set_cons_succ]
      refine held_v 5 (some 8) rfl (by kernel_rfl) (by kernel_rfl) (by kernel_rfl) (by kernel_rfl) (fun c a v w h => HQ2.out c a _ v w h) (by kernel_rfl) (.int .i64 0) (fun W h => by kernel_rfl) hw141 ?_
      try simp only [Act.put, List.setIfInBounds_toArray, List.set_cons_zero, List.set_cons_succ]
      refine wpAnyH_done (by kernel_rfl) ?_ _
      refine HQ1.out _ _ ?_
      clear HQ1 HQ2
      go_wp2_with (refine bodyPost_mid 6 7 8 34 rfl g7 rfl (.int .i64 ov) (.int .i64 0) rfl rfl 34 V2 ex142.1 _ Tryd.underlying34 rfl SV2.out rfl ?_)
      exact HH2.out _ hw141.rd.rd hw141.bel
    · have e1 := hgn hE0
      rw [e1] at HEND0 ⊢
      have t2 : (E == 0) = false := by rw [beq_eq_false_iff_ne]; exact hE0
      have t3 : (E != 0) = true := by rw [bne, t2]; rfl
      obtain ⟨rr, hrr⟩ : ∃ r : Int × Src × Int, (0, t, E) = r := ⟨_, rfl⟩
      have HEND1 : Hid (∀ wF, Below w.heap.size w wF → ∀ A2 c2 w', Sep wF A0 A2 → s.tape.length ≤ c2 → c2 ≤ maxLen → RdP A2 s.tape.length s.tape w' → Below wF.heap.size wF w' → RetLead w s A0 rr (.returned (.tuple #[.int .i64 0, .agg (srcV t A2 c2), .int .i64 E])) w') := by rw [← hrr]; exact HEND0
      rw [hrr]
      obtain ⟨V, hV⟩ : ∃ V, srcV s A0 c0 = V := ⟨_, rfl⟩
      have HDR := HDR0
      rw [hV] at SV OV ZV HDR ⊢
      obtain ⟨zs, hzs⟩ : ∃ zs, s.tape = zs := ⟨_, rfl⟩
      obtain ⟨L, hL⟩ : ∃ L, zs.length = L := ⟨_, rfl⟩
      rw [hzs, hL] at HEND1 hRd HDR
      have HEND := HEND1
      clear HEND1 HEND0 HDR0 hrr hV hzs hL hto hdr how hgo hgn e1 hoz hov hoe hx hE ht ht2 hS okt hz hs0 hrd hrf hc hcm hc0 hcm0 hZ a0 a1 hs hl hm HZSS hnz hE0 hts hkst
      go_enter Tryd.func11, Tryd.ntmps11
      go_wp2_with (first
        | (with_reducible refine at_any ?_; refine at_dst 3 rfl ?_; refine wpList_box_any rfl 27 (.tmp 0) rfl #[.slice AF m c] rfl ?_; intro wF hkF hsF hbF; have G0 := Lib.hid (fx_start hkF.out HRF.out hbF); have HBF := Lib.hid hbF; have HRdF := Lib.hid ((hRd.out.below hbF).mono (Below.size hbF)); clear hkF hsF hbF)
        | (with_reducible refine at_any ?_; refine at_dst 4 rfl ?_; refine wpList_box_any rfl 34 (.tmp 1) rfl V rfl ?_; intro w1 hk1 hs1 hb1)
        | (with_reducible refine at_any ?_; refine at_dst 7 rfl ?_; refine wpList_alloc_any rfl 34 rfl Z HZ0.out ?_; intro w2 hk2 hs2 hb2; have HS2 := Lib.hid (DrS.mk2 HRdF.out hk1.out hb1 hk2.out hb2 (Below.refl _ _)); have HZ2 := Lib.hid (fx1 hk2.out); have G2 := Lib.hid (Fx.below (Fx.below G0.out hb1) hb2); clear G0 hs1 hb1 hs2 hb2)
        | (with_reducible refine at_any ?_; refine at_dst 14 rfl ?_; refine wpList_load_fen (by kernel_rfl) (.tmp 3) rfl w.heap.size rfl 27 (.slice AF m c) (Fx.b0 G2.out) ?_)
        | (go_at_call 20; (with_reducible refine (HTO.out _ (Kst.tz (HKS.out.below (Fx.e2 G2.out))) (Fx.r1 G2.out)).mono ?_); rintro e w3 ⟨rfl, hb3⟩; have HS := Lib.hid (DrS.below HS2.out hb3); have HZ := Lib.hid (Fx.below HZ2.out hb3); have G3 := Lib.hid (Fx.below G2.out hb3); clear G2 HS2 HZ2 hb3)
        | (with_reducible refine at_any ?_; refine at_dst 20 rfl ?_; refine wpList_load_blk rfl 34 (.tmp 4) rfl wF.heap.size rfl 34 V HS.out.blk _ Tryd.underlying34 rfl SV.out ?_)
        | (go_at_call 21; (with_reducible refine (HDR.out _ HS.out.rd.rd (HKS.out.below (Fx.e2 G3.out))).mono ?_); rintro e w5 ⟨A2, c2, rfl, hrd2, hc2, hm2, hsp2, hb5⟩; obtain ⟨V2, hV2⟩ : ∃ V2, srcV t A2 c2 = V2 := ⟨_, rfl⟩; have SV2 := Lib.hid (ST.out A2 c2); have OV2 := Lib.hid (OT.out A2 c2); have ZV2 := Lib.hid (ZT.out A2 c2); have HH2 := Lib.hid (fun w' h3 h4 => HEND.out wF HBF.out A2 c2 w' (sep_from hsp2 HS.out.bel.size) hc2 hm2 h3 h4); rw [hV2] at SV2 OV2 ZV2 HH2 ⊢; clear hV2 hc2 hm2; have G5 := Lib.hid (Fx.below G3.out hb5); clear G3)
        | (with_reducible refine at_any ?_; refine at_dst 11 rfl ?_; refine wpList_alloc_any rfl 34 rfl Z HZ0.out ?_; intro w6 hk6 hs6 hb6; have G6 := Lib.hid (Fx.below G5.out hb6))
        | (with_reducible refine at_any ?_; refine at_store 11 rfl ?_; refine wpList_store_any rfl 34 (.tmp 11) (.tmp 25) rfl w5.heap.size rfl 34 Z V2 hk6.out rfl ZV2.out SV2.out OV2.out ?_; intro w7 hk7 hs7 hb7 ho7; have T := Lib.hid (DrS.took HS.out HZ.out hrd2 hsp2 hb5 hb6 hk6.out hk7.out hs7.out hb7 ho7); have G7 := Lib.hid (fx_led G6.out hk6.out (Fx.b0 G5.out) (Fx.e2 G5.out) hs7.out hb7 ho7); clear G5 G6))
      obtain ⟨-, HZ9, -, -, -, HD⟩ := T.out
      obtain ⟨g7, hg7⟩ : ∃ g, w1.heap.size = g := ⟨_, rfl⟩
      obtain ⟨g11, hg11⟩ : ∃ g, w5.heap.size = g := ⟨_, rfl⟩
      rw [hg7] at HZ9 HD
      rw [hg11] at HD
      rw [hg7, hg11]
      clear hg7 hg11 T
      have HZ7 := HZ9.drew
      refine wp_region_held_drew (S := (DrH wF g7 g11 V2 A2 L zs)) (by kernel_rfl) HD.drew (fun hH => ?_)
      refine wpAnyH_letter #[false, false, false, false, false] (by kernel_rfl) (fun _ _ d _ _ h => by cases d <;> exact h) (fun QL HQ1 HQ2 => ?_)
      refine held_row 0 (some 29) rfl (by kernel_rfl) (by kernel_rfl) (by kernel_rfl) (by kernel_rfl) (fun c a v w h => HQ2.out c a _ v w h) (by kernel_rfl) 34 (.tmp 11) rfl g11 (by kernel_rfl) 34 V2 (fun _ h => h.blk) _ Tryd.underlying34 rfl SV2.out hH ?_
      try simp only [Act.put, List.setIfInBounds_toArray, List.set_cons_zero, List.set_cons_succ]
      refine held_v 1 (some 30) rfl (by kernel_rfl) (by kernel_rfl) (by kernel_rfl) (by kernel_rfl) (fun c a v w h => HQ2.out c a _ v w h) (by kernel_rfl) (.int .i64 E) (fun W h => by kernel_rfl) hH ?_
      try simp only [Act.put, List.setIfInBounds_toArray, List.set_cons_zero, List.set_cons_succ]
      refine held_v 2 (some 6) rfl (by kernel_rfl) (by kernel_rfl) (by kernel_rfl) (by kernel_rfl) (fun c a v w h => HQ2.out c a _ v w h) (by kernel_rfl) (.int .i64 0) (fun W h => by kernel_rfl) hH ?_
      try simp only [Act.put, List.setIfInBounds_toArray, List.set_cons_zero, List.set_cons_succ]
      refine wpAnyH_ready (rs := [3]) (by kernel_rfl) (by decide) ?_
      refine AllReadyH.cons rfl (fun K hK => ?_) AllReadyH.nil
      refine step_store none (by kernel_rfl) (by kernel_rfl) 34 (.tmp 7) (.tmp 29) rfl g7 (by kernel_rfl) 34 Z V2 HZ7.1 (by kernel_rfl) ZV2.out SV2.out OV2.out ?_
      intro w141 hkw141 hsw141 hbw141 how141
      have ex142 : Fx [.blk g7 34 V2] w141 := ⟨hkw141.out, trivial⟩
      refine hK.out _ _ (hH.store HZ7.1 hH.store7 hsw141.out hbw141 how141) (fun hw141 => ?_)
      clear hK K
      try simp only [Act.put, List.setIfInBounds_toArray, List.set_cons_zero, List.set_cons_succ]
      refine held_v 4 (some 8) rfl (by kernel_rfl) (by kernel_rfl) (by kernel_rfl) (by kernel_rfl) (fun c a v w h => HQ2.out c a _ v w h) (by kernel_rfl) (.int .i64 E) (fun W h => by kernel_rfl) hw141 ?_
      try simp only [Act.put, List.setIfInBounds_toArray, List.set_cons_zero, List.set_cons_succ]
      refine wpAnyH_done (by kernel_rfl) ?_ _
      refine HQ1.out _ _ ?_
      clear HQ1 HQ2
      go_wp2_with (refine bodyPost_mid 6 7 8 34 rfl g7 rfl (.int .i64 0) (.int .i64 E) rfl rfl 34 V2 ex142.1 _ Tryd.underlying34 rfl SV2.out rfl ?_)
      exact HH2.out _ hw141.rd.rd hw141.bel
theorem rdp_of {A : Option Addr} {n : Nat} {zs : List Int} {w : World} (h : Rd .u8 w w.heap.size A n zs) : RdP A n zs w := h
theorem fx_rdb {k : IntKind} {w : World} {A : Option Addr} {n : Nat} {ts : List Int} (h : Rd k w w.heap.size A n ts) : Fx [.rdb k w.heap.size A n ts] w := ⟨⟨h, Nat.le_refl _⟩, trivial⟩
/-- The tree is laid into a block of its own. -/
theorem fx_list {w3 w4 w5 : World} {AF : Option Addr} {n c : Nat} {ts : List Int} (h : Fx [.rdb .u64 w3.heap.size AF n ts] w4) (hk : Blk w4 w3.heap.size 27 #[.slice none 0 0]) (hk5 : Blk w5 w3.heap.size 27 #[.slice AF n c]) (hs : w5.heap.size = w4.heap.size) (hb : ∀ B, B ≤ w3.heap.size → Below B w4 w5) (ho : ∀ j, j ≠ w3.heap.size → w5.heap[j]? = w4.heap[j]?) : Fx [.blk w3.heap.size 27 #[.slice AF n c], .rdb .u64 w3.heap.size AF n ts] w5 :=
  ⟨hk5, Fx.store h hk ⟨Nat.le_refl _, trivial⟩ hs hb ho⟩
theorem list_ne {w0 w w4 : World} {g3 g7 L : Nat} {V Z : Array Value} {A : Option Addr} {zs : List Int} (h : DrS w0 g3 g7 V A L zs w) {t : TypeId} {cs : Array Value} (hk : Blk w4 w.heap.size t cs) : (g3 ≠ w.heap.size ∧ Apt L A w.heap.size ∧ w0.heap.size ≤ w.heap.size) ∧ Fx.off w.heap.size cs [.blk g7 34 Z] :=
  ⟨⟨Nat.ne_of_lt h.lt3, Apt.of_lt h.rd.rd (Nat.le_refl _), h.bel.size⟩, Nat.ne_of_lt h.lt7, trivial⟩
set_option maxHeartbeats 8000000 in
theorem q13list_c (l : List Int) (hz : ∀ z ∈ l, 0 ≤ z ∧ z < 18446744073709551616) (AL : Option Addr) (n c : Nat) (hn : n ≤ 1048576) (s : Src) (ok : s.Ok) (a : Int) (a0 : -9223372036854775808 ≤ a) (a1 : a < 9223372036854775808) (A0 : Option Addr) (c0 : Nat) (hc0 : s.tape.length ≤ c0) (hcm0 : c0 ≤ maxLen) (w : World) (hrl : Rd .u64 w w.heap.size AL n l) (hrd : Rd .u8 w w.heap.size A0 s.tape.length s.tape) (hkst : Kst w) :
    Calls Tryd.prog 14 #[.agg (srcV s A0 c0), .int .i64 a, .slice AL n c] w (RetLead w s A0 (ledR l s a)) := by
  have HKS := Lib.hid hkst
  have HZ0 := Lib.hid zero_src
  have hRd := Lib.hid hrd
  have HRL := Lib.hid hrl
  have hlen := hrl.len
  have HZSS := Lib.hid (fun (t : Src) (h : t.seed.length = 32) A c => srcV_same Src.zero t rfl h none A 0 c)
  have hz0 : ∀ z ∈ l, 0 ≤ z := fun z h => (hz z h).1
  have hbu := fun W hW h => q11build_c l hz AL n c (by unfold maxLen; omega) W hW h
  obtain ⟨Z, hZ⟩ : ∃ Z, srcV Src.zero none 0 = Z := ⟨_, rfl⟩
  rw [hZ] at HZ0 HZSS
  have SV := Lib.hid (sizedS s ok.sl A0 c0)
  have OV := Lib.hid (srcV_ones s A0 c0)
  have ZV := Lib.hid (HZSS.out s ok.sl A0 c0)
  by_cases hs : sumL l < 9223372036854775808
  · rw [led_ok s a hs]
    have e := bldE_ok (l := l) (by omega) hs
    have HBU := Lib.hid (fun W hW h => calls_fen (hbu W hW h) e.2 e.1 ((treeL_len l).trans hlen))
    have hdr := fun AF cF (h1 : n ≤ cF) (h2 : cF ≤ maxLen) W hf hr hk => q13draw_c l hz0 hs (by omega) AF n cF hlen h1 h2 s ok a a0 a1 A0 c0 hc0 hcm0 W hf hr hk
    obtain ⟨okt, htt⟩ := ledT_in l s a ok
    have HEND : Hid (∀ A2 c2 w', Sep w A0 A2 → s.tape.length ≤ c2 → c2 ≤ maxLen → RdP A2 s.tape.length s.tape w' → Below w.heap.size w w' → RetLead w s A0 (ledT l s a) (.returned (.tuple #[.int .i64 (ledT l s a).1, .agg (srcV (ledT l s a).2.1 A2 c2), .int .i64 (ledT l s a).2.2])) w') := Lib.hid (fun A2 c2 w' h1 h2 h3 h4 h5 => ⟨A2, c2, rfl, h4, h2, h3, h1, h5⟩)
    obtain ⟨ts, hts⟩ : ∃ x, treeL l = x := ⟨_, rfl⟩
    rw [hts] at HBU hdr
    unfold RetLead at hdr
    obtain ⟨rr, hrr⟩ : ∃ r, ledT l s a = r := ⟨_, rfl⟩
    rw [hrr] at hdr okt HEND ⊢
    obtain ⟨V0, t, E⟩ := rr
    simp only at hdr okt HEND
    have ST := Lib.hid (fun A c => sizedS t okt.sl A c)
    have OT := Lib.hid (fun A c => srcV_ones t A c)
    have ZT := Lib.hid (fun A c => HZSS.out t okt.sl A c)
    obtain ⟨V, hV⟩ : ∃ V, srcV s A0 c0 = V := ⟨_, rfl⟩
    rw [hV] at SV OV ZV hdr ⊢
    obtain ⟨zs, hzs⟩ : ∃ zs, s.tape = zs := ⟨_, rfl⟩
    obtain ⟨L, hL⟩ : ∃ L, zs.length = L := ⟨_, rfl⟩
    rw [hzs, hL] at HEND hdr hRd
    have HDR := Lib.hid hdr
    obtain ⟨rr, hr2⟩ : ∃ r : Int × Src × Int, (V0, t, E) = r := ⟨_, rfl⟩
    rw [hr2] at HEND ⊢
    clear hrr hr2 hV hzs hL hdr hz hz0 hbu hrd hrl hc0 hcm0 hZ a0 a1 hs HZSS hts hkst e hlen okt htt hn
    go_enter Tryd.func14, Tryd.ntmps14
    go_wp2_with (first
      | (with_reducible refine at_any ?_; refine at_dst 3 rfl ?_; refine wpList_box_any rfl 34 (.tmp 0) rfl V rfl ?_; intro w1 hk1 hs1 hb1)
      | (with_reducible refine at_any ?_; refine at_dst 7 rfl ?_; refine wpList_alloc_any rfl 34 rfl Z HZ0.out ?_; intro w2 hk2 hs2 hb2; have HS2 := Lib.hid (DrS.mk2 hRd.out hk1.out hb1 hk2.out hb2 (Below.refl _ _)); have HZ2 := Lib.hid (fx1 hk2.out); clear hs1 hb1 hs2 hb2)
      | (go_at_call 24; (with_reducible refine (HBU.out _ (Kst.tz (HKS.out.below HS2.out.bel)) (HR1 HRL.out HS2.out.bel)).mono ?_); rintro e w3 ⟨AF, cF, rfl, hrF, hlF, hmF, hb3⟩; have HS3 := Lib.hid (DrS.below HS2.out hb3); have HZ3 := Lib.hid (Fx.below HZ2.out hb3); have G3 := Lib.hid (fx_rdb hrF); have LF := Lib.hid hlF; have MF := Lib.hid hmF; clear hb3 HS2 HZ2 hrF hlF hmF)
      | (with_reducible refine at_any ?_; refine at_dst 9 rfl ?_; refine wpList_alloc_any rfl 27 rfl #[.slice none 0 0] zero_fen ?_; intro w4 hk4 hs4 hb4; have HS4 := Lib.hid (DrS.below HS3.out hb4); have HZ4 := Lib.hid (Fx.below HZ3.out hb4); have G4 := Lib.hid (Fx.below G3.out hb4); have L4 := Lib.hid (list_ne (Z := Z) HS3.out hk4.out); clear hs4 hb4 G3)
      | (with_reducible refine at_any ?_; refine at_store 9 rfl ?_; refine wpList_store_any rfl 27 (.tmp 9) (.tmp 14) rfl w3.heap.size rfl 27 #[.slice none 0 0] #[.slice AF n cF] hk4.out rfl (size1 _ _) (sizedF _) (fen_ones _ _ _) ?_; intro w5 hk5 hs5 hb5 ho5; have HS := Lib.hid (DrS.store HS4.out hk4.out L4.out.1 hs5.out hb5 ho5); have HZ := Lib.hid (Fx.store HZ4.out hk4.out L4.out.2 hs5.out hb5 ho5); have G5 := Lib.hid (fx_list G4.out hk4.out hk5.out hs5.out hb5 ho5); clear HS3 HZ3 HS4 HZ4 G4 hk4 hk5 hs5 hb5 ho5 L4)
      | (with_reducible refine at_any ?_; refine at_dst 20 rfl ?_; refine wpList_load_fen (by kernel_rfl) (.tmp 9) rfl w3.heap.size rfl 27 (.slice AF n cF) (Fx.b0 G5.out) ?_)
      | (with_reducible refine at_any ?_; refine at_dst 21 rfl ?_; refine wpList_load_blk rfl 34 (.tmp 3) rfl w.heap.size rfl 34 V HS.out.blk _ Tryd.underlying34 rfl SV.out ?_)
      | (go_at_call 11; (with_reducible refine (HDR.out _ _ LF.out MF.out _ (Fx.r1 G5.out) HS.out.rd.rd (HKS.out.below HS.out.bel)).mono ?_); rintro e w6 ⟨A2, c2, rfl, hrd2, hc2, hm2, hsp2, hb6⟩; obtain ⟨V2, hV2⟩ : ∃ V2, srcV t A2 c2 = V2 := ⟨_, rfl⟩; have SV2 := Lib.hid (ST.out A2 c2); have OV2 := Lib.hid (OT.out A2 c2); have ZV2 := Lib.hid (ZT.out A2 c2); have HH2 := Lib.hid (fun w' h3 h4 => HEND.out A2 c2 w' (sep_from hsp2 HS.out.bel.size) hc2 hm2 h3 h4); have HZ6 := Lib.hid (Fx.below HZ.out hb6); have HB6 := Lib.hid (HS.out.bel.trans (hb6.mono HS.out.bel.size)); have HA2 := Lib.hid (Apt.of_sep hsp2 HS.out.apt7 HS.out.lt7); have HL7 := Lib.hid HS.out.le7; rw [hV2] at SV2 OV2 ZV2 HH2 ⊢; clear hV2 hc2 hm2 hsp2 hb6)
      | (with_reducible refine at_any ?_; refine at_store 7 rfl ?_; refine wpList_store_any rfl 34 (.tmp 7) (.tmp 25) rfl w1.heap.size rfl 34 Z V2 (Fx.b0 HZ6.out) rfl ZV2.out SV2.out OV2.out ?_; intro w7 hk7 hs7 hb7 ho7; have HR7 := Lib.hid (RdP.store (rdp_of hrd2) (Fx.b0 HZ6.out) HA2.out hs7.out hb7 ho7); have HB7 := Lib.hid (HB6.out.trans (hb7 _ HL7.out)); have HK7 := Lib.hid hk7.out; clear hk7 hs7 hb7 ho7)
      | (refine bodyPost_mid 6 7 8 34 rfl w1.heap.size rfl (.int .i64 V0) (.int .i64 E) rfl rfl 34 V2 HK7.out _ Tryd.underlying34 rfl SV2.out rfl ?_))
    exact HH2.out _ HR7.out HB7.out
  · rw [led_big s a hs]
    have e := bldE_big (l := l) (by omega) hs
    have HBU := Lib.hid (fun W hW h => calls_fen (hbu W hW h) e.2 e.1 (n := 0) rfl)
    have HEND0 : Hid (∀ w', RdP A0 s.tape.length s.tape w' → Below w.heap.size w w' → RetLead w s A0 (0, s, 11) (.returned (.tuple #[.int .i64 0, .agg (srcV s A0 c0), .int .i64 11])) w') := Lib.hid (fun w' hr hb => ⟨A0, c0, rfl, hr, hc0, hcm0, .inl rfl, hb⟩)
    obtain ⟨rr, hrr⟩ : ∃ r : Int × Src × Int, (0, s, 11) = r := ⟨_, rfl⟩
    rw [hrr] at HEND0 ⊢
    obtain ⟨V, hV⟩ : ∃ V, srcV s A0 c0 = V := ⟨_, rfl⟩
    rw [hV] at SV OV ZV HEND0 ⊢
    obtain ⟨zs, hzs⟩ : ∃ zs, s.tape = zs := ⟨_, rfl⟩
    obtain ⟨L, hL⟩ : ∃ L, zs.length = L := ⟨_, rfl⟩
    rw [hzs, hL] at HEND0
    rw [hzs, hL] at hRd
    have HEND := HEND0
    clear HEND0 hrr hV hzs hL hz hz0 hbu hrd hrl hc0 hcm0 hZ a0 a1 hs HZSS hkst e hlen hn
    go_enter Tryd.func14, Tryd.ntmps14
    go_wp2_with (first
      | (with_reducible refine at_any ?_; refine at_dst 3 rfl ?_; refine wpList_box_any rfl 34 (.tmp 0) rfl V rfl ?_; intro w1 hk1 hs1 hb1)
      | (with_reducible refine at_any ?_; refine at_dst 7 rfl ?_; refine wpList_alloc_any rfl 34 rfl Z HZ0.out ?_; intro w2 hk2 hs2 hb2; have HS2 := Lib.hid (DrS.mk2 hRd.out hk1.out hb1 hk2.out hb2 (Below.refl _ _)); have HZ2 := Lib.hid (fx1 hk2.out); clear hs1 hb1 hs2 hb2)
      | (go_at_call 24; (with_reducible refine (HBU.out _ (Kst.tz (HKS.out.below HS2.out.bel)) (HR1 HRL.out HS2.out.bel)).mono ?_); rintro e w3 ⟨AF, cF, rfl, hrF, hlF, hmF, hb3⟩; have HS3 := Lib.hid (DrS.below HS2.out hb3); have HZ3 := Lib.hid (Fx.below HZ2.out hb3); have G3 := Lib.hid (fx_rdb hrF); have LF := Lib.hid hlF; have MF := Lib.hid hmF; clear hb3 HS2 HZ2 hrF hlF hmF)
      | (with_reducible refine at_any ?_; refine at_dst 9 rfl ?_; refine wpList_alloc_any rfl 27 rfl #[.slice none 0 0] zero_fen ?_; intro w4 hk4 hs4 hb4; have HS4 := Lib.hid (DrS.below HS3.out hb4); have HZ4 := Lib.hid (Fx.below HZ3.out hb4); have G4 := Lib.hid (Fx.below G3.out hb4); have L4 := Lib.hid (list_ne (Z := Z) HS3.out hk4.out); clear hs4 hb4 G3)
      | (with_reducible refine at_any ?_; refine at_store 9 rfl ?_; refine wpList_store_any rfl 27 (.tmp 9) (.tmp 14) rfl w3.heap.size rfl 27 #[.slice none 0 0] #[.slice AF 0 cF] hk4.out rfl (size1 _ _) (sizedF _) (fen_ones _ _ _) ?_; intro w5 hk5 hs5 hb5 ho5; have HS := Lib.hid (DrS.store HS4.out hk4.out L4.out.1 hs5.out hb5 ho5); have HZ := Lib.hid (Fx.store HZ4.out hk4.out L4.out.2 hs5.out hb5 ho5); have G5 := Lib.hid (fx_list G4.out hk4.out hk5.out hs5.out hb5 ho5); clear HS3 HZ3 HS4 HZ4 G4 hk4 hk5 hs5 hb5 ho5 L4))
    obtain ⟨g3, hg3⟩ : ∃ g, w.heap.size = g := ⟨_, rfl⟩
    obtain ⟨g7, hg7⟩ : ∃ g, w1.heap.size = g := ⟨_, rfl⟩
    have HS9 := HS.out
    have HZ9 := HZ.out
    rw [hg3, hg7] at HS9
    rw [hg7] at HZ9
    rw [hg3, hg7]
    clear hg3 hg7 hk1 hk2 HS HZ
    have HZ7 := HZ9.drew
    refine wp_region_held_drew (S := (DrS w g3 g7 V A0 L zs)) (by kernel_rfl) HS9.drew (fun hH => ?_)
    refine wpAnyH_letter #[false, false, false, false, false] (by kernel_rfl) (fun _ _ d _ _ h => by cases d <;> exact h) (fun QL HQ1 HQ2 => ?_)
    refine held_row 0 (some 18) rfl (by kernel_rfl) (by kernel_rfl) (by kernel_rfl) (by kernel_rfl) (fun c a v w h => HQ2.out c a _ v w h) (by kernel_rfl) 34 (.tmp 3) rfl g3 (by kernel_rfl) 34 V (fun _ h => h.blk) _ Tryd.underlying34 rfl SV.out hH ?_
    try simp only [Act.put, List.setIfInBounds_toArray, List.set_cons_zero, List.set_cons_succ]
    refine held_v 1 (some 19) rfl (by kernel_rfl) (by kernel_rfl) (by kernel_rfl) (by kernel_rfl) (fun c a v w h => HQ2.out c a _ v w h) (by kernel_rfl) (.int .i64 11) (fun W h => by kernel_rfl) hH ?_
    try simp only [Act.put, List.setIfInBounds_toArray, List.set_cons_zero, List.set_cons_succ]
    refine held_v 2 (some 6) rfl (by kernel_rfl) (by kernel_rfl) (by kernel_rfl) (by kernel_rfl) (fun c a v w h => HQ2.out c a _ v w h) (by kernel_rfl) (.int .i64 0) (fun W h => by kernel_rfl) hH ?_
    try simp only [Act.put, List.setIfInBounds_toArray, List.set_cons_zero, List.set_cons_succ]
    refine wpAnyH_ready (rs := [3]) (by kernel_rfl) (by decide) ?_
    refine AllReadyH.cons rfl (fun K hK => ?_) AllReadyH.nil
    refine step_store none (by kernel_rfl) (by kernel_rfl) 34 (.tmp 7) (.tmp 18) rfl g7 (by kernel_rfl) 34 Z V HZ7.1 (by kernel_rfl) ZV.out SV.out OV.out ?_
    intro w41 hkw41 hsw41 hbw41 how41
    have ex42 : Fx [.blk g7 34 V] w41 := ⟨hkw41.out, trivial⟩
    refine hK.out _ _ (hH.store HZ7.1 hH.store7 hsw41.out hbw41 how41) (fun hw41 => ?_)
    clear hK K
    try simp only [Act.put, List.setIfInBounds_toArray, List.set_cons_zero, List.set_cons_succ]
    refine held_v 4 (some 8) rfl (by kernel_rfl) (by kernel_rfl) (by kernel_rfl) (by kernel_rfl) (fun c a v w h => HQ2.out c a _ v w h) (by kernel_rfl) (.int .i64 11) (fun W h => by kernel_rfl) hw41 ?_
    try simp only [Act.put, List.setIfInBounds_toArray, List.set_cons_zero, List.set_cons_succ]
    refine wpAnyH_done (by kernel_rfl) ?_ _
    refine HQ1.out _ _ ?_
    clear HQ1 HQ2
    go_wp2_with (refine bodyPost_mid 6 7 8 34 rfl g7 rfl (.int .i64 0) (.int .i64 11) rfl rfl 34 V ex42.1 _ Tryd.underlying34 rfl SV.out rfl ?_)
    exact HEND.out _ hw41.rd hw41.bel
end Go.Proofs.YtepclbmcacdhlaaDoor
/-
  What stage 13's fixed fact returns.
  Conditions: the table of constants holds what the program's text lays.
-/
set_option maxRecDepth 100000
set_option linter.unusedVariables false
set_option linter.unusedSimpArgs false
namespace Go.Proofs.YtepclbmcacdhlaaDoor
open Go.ChangeShapes Go.WideShapes Go.ChangeAt Go.RowKit
theorem tapeOf_ok1 (zs : List Int) (hl : zs.length ≤ 1000) (hz : ∀ z ∈ zs, 0 ≤ z ∧ z < 256) (b : Int) (b0 : 0 ≤ b) (b1 : b < 18446744073709551616) : (Src.tapeOf zs b).Ok :=
  ⟨(by show (-9223372036854775808 : Int) ≤ 1; omega), (by show (1 : Int) < 9223372036854775808; omega), (by show zs.length ≤ _; omega), hz, b0, b1, rfl, (fun z h => by obtain ⟨_, rfl⟩ := List.mem_replicate.1 h; exact ⟨by omega, by omega⟩), Int.le_refl _, (by show (0 : Int) < 18446744073709551616; omega), Int.le_refl _, (by show (0 : Int) < 18446744073709551616; omega)⟩
set_option maxHeartbeats 8000000 in
theorem alive13_c (w : World) (hkst : Kst w) : Calls Tryd.prog 5 #[] w fun e w' => e = .returned (.bool true) ∧ Below w.heap.size w w' := by
  have ok1 := tapeOf_ok1 [96] (by simp) (by decide) 8 (by omega) (by omega)
  have okt := ok1.to_ 3 (by omega) (by omega)
  have hTP : ∀ A W, Rd .u8 W W.heap.size A 1 [96] → Calls Tryd.prog 9 #[.slice A 1 1, .int .u64 8] W (fun e w' => ∃ A' c', e = .returned (.tuple #[.agg (srcV (Src.tapeOf [96] 8) A' c'), .int .i64 0]) ∧ Rd .u8 w' w'.heap.size A' 1 [96] ∧ 1 ≤ c' ∧ c' ≤ maxLen ∧ Below W.heap.size W w') := fun A W h => rstape_c [96] (by simp) 8 (by omega) (by omega) A 1 1 W h (Nat.le_refl _)
  have hTR := fun A c W h => calls_tree (r11tree_c [3, 0, 2] (by decide) (by decide) A 3 c (by omega) W h) (n := 3) rfl
  have hd1 : ∀ AF c, 3 ≤ c → c ≤ maxLen → ∀ A c0, 1 ≤ c0 → c0 ≤ maxLen → ∀ W, Rd .u64 W W.heap.size AF 3 (treeL [3, 0, 2]) → Rd .u8 W W.heap.size A 1 [96] → Kst W → Calls Tryd.prog 11 #[.agg #[.slice AF 3 c], .agg (srcV (Src.tapeOf [96] 8) A c0), .int .i64 2] W (fun e w' => ∃ A' c', e = .returned (.tuple #[.int .i64 2, .agg (srcV ((Src.tapeOf [96] 8).to 3) A' c'), .int .i64 0]) ∧ Rd .u8 w' w'.heap.size A' 1 [96] ∧ 1 ≤ c' ∧ c' ≤ maxLen ∧ Sep W A A' ∧ Below W.heap.size W w') := fun AF c g1 g2 A c0 h1 h2 W h0 h3 h4 => by
    have h := q13draw_c [3, 0, 2] (by decide) (by decide) (by decide) AF 3 c rfl g1 g2 (Src.tapeOf [96] 8) ok1 2 (by omega) (by omega) A c0 h1 h2 W h0 h3 h4
    unfold RetLead at h
    rw [show ledT [3, 0, 2] (Src.tapeOf [96] 8) 2 = (2, ((Src.tapeOf [96] 8).to 3), 0) by kernel_rfl] at h
    exact h
  have hd3 : ∀ AF c, 3 ≤ c → c ≤ maxLen → ∀ A c0, 1 ≤ c0 → c0 ≤ maxLen → ∀ W, Rd .u64 W W.heap.size AF 3 (treeL [3, 0, 2]) → Rd .u8 W W.heap.size A 1 [96] → Kst W → Calls Tryd.prog 11 #[.agg #[.slice AF 3 c], .agg (srcV ((Src.tapeOf [96] 8).to 3) A c0), .int .i64 9] W (fun e w' => ∃ A' c', e = .returned (.tuple #[.int .i64 0, .agg (srcV ((Src.tapeOf [96] 8).to 6) A' c'), .int .i64 0]) ∧ Rd .u8 w' w'.heap.size A' 1 [96] ∧ 1 ≤ c' ∧ c' ≤ maxLen ∧ Sep W A A' ∧ Below W.heap.size W w') := fun AF c g1 g2 A c0 h1 h2 W h0 h3 h4 => by
    have h := q13draw_c [3, 0, 2] (by decide) (by decide) (by decide) AF 3 c rfl g1 g2 ((Src.tapeOf [96] 8).to 3) okt 9 (by omega) (by omega) A c0 h1 h2 W h0 h3 h4
    unfold RetLead at h
    rw [show ledT [3, 0, 2] ((Src.tapeOf [96] 8).to 3) 9 = (0, ((Src.tapeOf [96] 8).to 6), 0) by kernel_rfl] at h
    exact h
  have hl1 : ∀ AL c, ∀ A c0, 1 ≤ c0 → c0 ≤ maxLen → ∀ W, Rd .u64 W W.heap.size AL 3 [3, 0, 2] → Rd .u8 W W.heap.size A 1 [96] → Kst W → Calls Tryd.prog 14 #[.agg (srcV (Src.tapeOf [96] 8) A c0), .int .i64 2, .slice AL 3 c] W (fun e w' => ∃ A' c', e = .returned (.tuple #[.int .i64 2, .agg (srcV ((Src.tapeOf [96] 8).to 3) A' c'), .int .i64 0]) ∧ Rd .u8 w' w'.heap.size A' 1 [96] ∧ 1 ≤ c' ∧ c' ≤ maxLen ∧ Sep W A A' ∧ Below W.heap.size W w') := fun AL c A c0 h1 h2 W h0 h3 h4 => by
    have h := q13list_c [3, 0, 2] (by decide) AL 3 c (by decide) (Src.tapeOf [96] 8) ok1 2 (by omega) (by omega) A c0 h1 h2 W h0 h3 h4
    unfold RetLead at h
    rw [show ledR [3, 0, 2] (Src.tapeOf [96] 8) 2 = (2, ((Src.tapeOf [96] 8).to 3), 0) by kernel_rfl] at h
    exact h
  have hl2 : ∀ AL c, ∀ A c0, 1 ≤ c0 → c0 ≤ maxLen → ∀ W, Rd .u64 W W.heap.size AL 1 [9223372036854775808] → Rd .u8 W W.heap.size A 1 [96] → Kst W → Calls Tryd.prog 14 #[.agg (srcV (Src.tapeOf [96] 8) A c0), .int .i64 2, .slice AL 1 c] W (fun e w' => ∃ A' c', e = .returned (.tuple #[.int .i64 0, .agg (srcV (Src.tapeOf [96] 8) A' c'), .int .i64 11]) ∧ Rd .u8 w' w'.heap.size A' 1 [96] ∧ 1 ≤ c' ∧ c' ≤ maxLen ∧ Sep W A A' ∧ Below W.heap.size W w') := fun AL c A c0 h1 h2 W h0 h3 h4 => by
    have h := q13list_c [9223372036854775808] (by decide) AL 1 c (by decide) (Src.tapeOf [96] 8) ok1 2 (by omega) (by omega) A c0 h1 h2 W h0 h3 h4
    unfold RetLead at h
    rw [show ledR [9223372036854775808] (Src.tapeOf [96] 8) 2 = (0, (Src.tapeOf [96] 8), 11) by kernel_rfl] at h
    exact h
  have hd2 : ∀ A c0, 1 ≤ c0 → c0 ≤ maxLen → ∀ W, Rd .u8 W W.heap.size A 1 [96] → Kst W → Calls Tryd.prog 11 #[.agg #[.slice none 0 0], .agg (srcV (Src.tapeOf [96] 8) A c0), .int .i64 2] W (fun e w' => ∃ A' c', e = .returned (.tuple #[.int .i64 0, .agg (srcV (Src.tapeOf [96] 8) A' c'), .int .i64 10]) ∧ Rd .u8 w' w'.heap.size A' 1 [96] ∧ 1 ≤ c' ∧ c' ≤ maxLen ∧ Sep W A A' ∧ Below W.heap.size W w') := fun A c0 h1 h2 W h3 h4 => q13draw_c [] (by decide) (by decide) (by decide) none 0 0 rfl (Nat.le_refl _) (Nat.zero_le _) (Src.tapeOf [96] 8) ok1 2 (by omega) (by omega) A c0 h1 h2 W (rd_nil _ _ _ _) h3 h4
  have hc1 := fun (W : World) (g : Nat) A c (h : Blk W g 34 (srcV ((Src.tapeOf [96] 8).to 3) A c)) => (h.cell 36).trans (srcV_at ((Src.tapeOf [96] 8).to 3) rfl A c)
  rw [show ((Src.tapeOf [96] 8).to 3).at_ = 3 from rfl] at hc1
  have hc2 := fun (W : World) (g : Nat) A c (h : Blk W g 34 (srcV (Src.tapeOf [96] 8) A c)) => (h.cell 36).trans (srcV_at (Src.tapeOf [96] 8) rfl A c)
  rw [show (Src.tapeOf [96] 8).at_ = 0 from rfl] at hc2
  have hc3 := fun (W : World) (g : Nat) A c (h : Blk W g 34 (srcV ((Src.tapeOf [96] 8).to 6) A c)) => (h.cell 36).trans (srcV_at ((Src.tapeOf [96] 8).to 6) rfl A c)
  rw [show ((Src.tapeOf [96] 8).to 6).at_ = 6 from rfl] at hc3
  have hl0 : (Src.tapeOf [96] 8).seed.length = 32 := rfl
  have hm1 : ((Src.tapeOf [96] 8).to 3).seed.length = 32 := rfl
  have hm2 : ((Src.tapeOf [96] 8).to 6).seed.length = 32 := rfl
  have HZZ := Lib.hid (fun (s : Src) (h : s.seed.length = 32) (A : Option Addr) (c : Nat) => srcV_same Src.zero s rfl h none A 0 c)
  have HZ0 := Lib.hid zero_src
  obtain ⟨T1, hT1'⟩ : ∃ S, (Src.tapeOf [96] 8).to 3 = S := ⟨_, rfl⟩
  obtain ⟨T2, hT2'⟩ : ∃ S, (Src.tapeOf [96] 8).to 6 = S := ⟨_, rfl⟩
  rw [hT1'] at hd1 hd3 hl1 hc1 hm1
  rw [hT2'] at hd3 hc3 hm2
  obtain ⟨S1, hS1⟩ : ∃ S, Src.tapeOf [96] 8 = S := ⟨_, rfl⟩
  rw [hS1] at hTP hd1 hd2 hl1 hl2 hc2 hl0
  obtain ⟨Z, hZ⟩ : ∃ Z, srcV Src.zero none 0 = Z := ⟨_, rfl⟩
  rw [hZ] at HZ0 HZZ
  obtain ⟨TF, hTF⟩ : ∃ x, treeL [3, 0, 2] = x := ⟨_, rfl⟩
  rw [hTF] at hd1 hd3 hTR
  have HLS1 := Lib.hid hl0
  have HLT1 := Lib.hid hm1
  have HLT2 := Lib.hid hm2
  have HTP := Lib.hid hTP
  have HTR := Lib.hid hTR
  have HD1 := Lib.hid hd1
  have HD2 := Lib.hid hd2
  have HD3 := Lib.hid hd3
  have HL1 := Lib.hid hl1
  have HL2 := Lib.hid hl2
  have HC1 := Lib.hid hc1
  have HC2 := Lib.hid hc2
  have HC3 := Lib.hid hc3
  have HKS := Lib.hid hkst
  have G0 := Lib.hid (Fx.bel0 w)
  clear ok1 okt hTP hTR hd1 hd2 hd3 hl1 hl2 hc1 hc2 hc3 hl0 hm1 hm2 hT1' hT2' hS1 hZ hTF hkst
  go_enter Tryd.func5, Tryd.ntmps5
  go_wp2_with (first
    | (go_at_call 9; (with_reducible refine (HTP.out _ _ (Rd.fit (rd_one _ _ _ _))).mono ?_); rintro e w1 ⟨A1, c1, rfl, hrw1, hlw1, hmw1, hbw1⟩; have lc1 := Lib.hid hlw1; have mc1 := Lib.hid hmw1; have G2 := Lib.hid (Fx.addR (Fx.alloc G0.out _) hbw1 hrw1); clear G0; clear hrw1 hbw1 hlw1 hmw1)
    | (with_reducible refine at_any ?_; refine at_dst 1 rfl ?_; refine wpList_alloc_any rfl 34 rfl Z HZ0.out ?_; intro w3 hkw3 hsw3 hbw3; have U4 := Lib.hid (Fx.under_new G2.out rfl); have G5 := Lib.hid (Fx.newB G2.out hkw3.out hbw3); clear G2; clear hkw3 hsw3 hbw3)
    | (with_reducible refine at_any ?_; refine at_store 1 rfl ?_; refine wpList_store_any rfl 34 (.tmp 1) (.tmp 22) rfl w1.heap.size rfl 34 Z (srcV S1 A1 c1) (Fx.b0 G5.out) rfl (HZZ.out S1 HLS1.out _ _) (sizedS S1 HLS1.out _ _) (srcV_ones _ _ _) ?_; intro w6 hkw6 hsw6 hbw6 how6; have G7 := Lib.hid (Fx.put1B G5.out U4.out hkw6.out hsw6.out hbw6 how6); clear G5; clear hkw6 hsw6 hbw6 how6)
    | (with_reducible refine at_any ?_; refine at_dst 24 rfl ?_; refine wpList_build3 (by kernel_rfl) (.const (.int .u64 3)) (.const (.int .u64 0)) (.const (.int .u64 2)) rfl 3 0 2 rfl rfl rfl ?_; intro gl9 w8 hrw8 hbw8; have G10 := Lib.hid (Fx.addR G7.out hbw8 hrw8); clear G7; clear hrw8 hbw8)
    | (go_at_call 7; (with_reducible refine (HTR.out _ _ _ (Fx.r0 G10.out)).mono ?_); rintro e w11 ⟨A12, c13, rfl, hrw11, hlw11, hmw11, hbw11⟩; have lc13 := Lib.hid hlw11; have mc13 := Lib.hid hmw11; have G14 := Lib.hid (Fx.addR G10.out hbw11 hrw11); clear G10; clear hrw11 hbw11 hlw11 hmw11)
    | (with_reducible refine at_any ?_; refine at_dst 3 rfl ?_; refine wpList_alloc_any rfl 27 rfl #[.slice none 0 0] zero_fen ?_; intro w15 hkw15 hsw15 hbw15; have U16 := Lib.hid (Fx.under_new G14.out rfl); have G17 := Lib.hid (Fx.newB G14.out hkw15.out hbw15); clear G14; clear hkw15 hsw15 hbw15)
    | (with_reducible refine at_any ?_; refine at_store 3 rfl ?_; refine wpList_store_any rfl 27 (.tmp 3) (.tmp 25) rfl w11.heap.size rfl 27 #[.slice none 0 0] (#[.slice A12 3 c13]) (Fx.b0 G17.out) rfl (size1 _ _) (sizedF _) (fen_ones _ _ _) ?_; intro w18 hkw18 hsw18 hbw18 how18; have G19 := Lib.hid (Fx.put1B G17.out U16.out hkw18.out hsw18.out hbw18 how18); clear G17; clear hkw18 hsw18 hbw18 how18)
    | (with_reducible refine at_any ?_; refine at_dst 27 rfl ?_; refine wpList_load_fen (by kernel_rfl) (.tmp 3) rfl w11.heap.size rfl 27 (.slice A12 3 c13) (Fx.b0 G19.out) ?_)
    | (with_reducible refine at_any ?_; refine at_dst 28 rfl ?_; refine wpList_load_blk rfl 34 (.tmp 1) rfl w1.heap.size rfl 34 (srcV S1 A1 c1) (Fx.b3 G19.out) _ Tryd.underlying34 rfl (sizedS S1 HLS1.out _ _) ?_)
    | (go_at_call 11; (with_reducible refine (HD1.out _ _ lc13.out mc13.out _ _ lc1.out mc1.out _ (Fx.r1 G19.out) (Fx.r4 G19.out) (HKS.out.below (Fx.e5 G19.out))).mono ?_); rintro e w20 ⟨A21, c22, rfl, hrw20, hlw20, hmw20, _, hbw20⟩; have lc22 := Lib.hid hlw20; have mc22 := Lib.hid hmw20; have G23 := Lib.hid (Fx.addR G19.out hbw20 hrw20); clear G19; clear hrw20 hbw20 hlw20 hmw20)
    | (with_reducible refine at_any ?_; refine at_dst 5 rfl ?_; refine wpList_alloc_any rfl 34 rfl Z HZ0.out ?_; intro w24 hkw24 hsw24 hbw24; have U25 := Lib.hid (Fx.under_new G23.out rfl); have G26 := Lib.hid (Fx.newB G23.out hkw24.out hbw24); clear G23; clear hkw24 hsw24 hbw24)
    | (with_reducible refine at_any ?_; refine at_store 5 rfl ?_; refine wpList_store_any rfl 34 (.tmp 5) (.tmp 31) rfl w20.heap.size rfl 34 Z (srcV T1 A21 c22) (Fx.b0 G26.out) rfl (HZZ.out T1 HLT1.out _ _) (sizedS T1 HLT1.out _ _) (srcV_ones _ _ _) ?_; intro w27 hkw27 hsw27 hbw27 how27; have G28 := Lib.hid (Fx.put1B G26.out U25.out hkw27.out hsw27.out hbw27 how27); clear G26; clear hkw27 hsw27 hbw27 how27)
    | (with_reducible refine at_any ?_; refine at_dst 34 rfl ?_; refine wpList_load_blk rfl 34 (.tmp 1) rfl w1.heap.size rfl 34 (srcV S1 A1 c1) (Fx.b5 G28.out) _ Tryd.underlying34 rfl (sizedS S1 HLS1.out _ _) ?_)
    | (with_reducible refine at_any ?_; refine at_dst 35 rfl ?_; refine wpList_build3 (by kernel_rfl) (.const (.int .u64 3)) (.const (.int .u64 0)) (.const (.int .u64 2)) rfl 3 0 2 rfl rfl rfl ?_; intro gl30 w29 hrw29 hbw29; have G31 := Lib.hid (Fx.addR G28.out hbw29 hrw29); clear G28; clear hrw29 hbw29)
    | (go_at_call 14; (with_reducible refine (HL1.out _ _ _ _ lc1.out mc1.out _ (Fx.r0 G31.out) (Fx.r7 G31.out) (HKS.out.below (Fx.e8 G31.out))).mono ?_); rintro e w32 ⟨A33, c34, rfl, hrw32, hlw32, hmw32, _, hbw32⟩; have lc34 := Lib.hid hlw32; have mc34 := Lib.hid hmw32; have G35 := Lib.hid (Fx.addR G31.out hbw32 hrw32); clear G31; clear hrw32 hbw32 hlw32 hmw32)
    | (with_reducible refine at_any ?_; refine at_dst 8 rfl ?_; refine wpList_alloc_any rfl 34 rfl Z HZ0.out ?_; intro w36 hkw36 hsw36 hbw36; have U37 := Lib.hid (Fx.under_new G35.out rfl); have G38 := Lib.hid (Fx.newB G35.out hkw36.out hbw36); clear G35; clear hkw36 hsw36 hbw36)
    | (with_reducible refine at_any ?_; refine at_store 8 rfl ?_; refine wpList_store_any rfl 34 (.tmp 8) (.tmp 38) rfl w32.heap.size rfl 34 Z (srcV T1 A33 c34) (Fx.b0 G38.out) rfl (HZZ.out T1 HLT1.out _ _) (sizedS T1 HLT1.out _ _) (srcV_ones _ _ _) ?_; intro w39 hkw39 hsw39 hbw39 how39; have G40 := Lib.hid (Fx.put1B G38.out U37.out hkw39.out hsw39.out hbw39 how39); clear G38; clear hkw39 hsw39 hbw39 how39)
    | (with_reducible refine at_any ?_; refine at_dst 41 rfl ?_; refine wpList_val rfl (.agg #[.slice none 0 0]) (build_fen0 _ rfl) ?_)
    | (with_reducible refine at_any ?_; refine at_dst 42 rfl ?_; refine wpList_load_blk rfl 34 (.tmp 1) rfl w1.heap.size rfl 34 (srcV S1 A1 c1) (Fx.b8 G40.out) _ Tryd.underlying34 rfl (sizedS S1 HLS1.out _ _) ?_)
    | (go_at_call 11; (with_reducible refine (HD2.out _ _ lc1.out mc1.out _ (Fx.r9 G40.out) (HKS.out.below (Fx.e10 G40.out))).mono ?_); rintro e w41 ⟨A42, c43, rfl, hrw41, hlw41, hmw41, _, hbw41⟩; have lc43 := Lib.hid hlw41; have mc43 := Lib.hid hmw41; have G44 := Lib.hid (Fx.addR G40.out hbw41 hrw41); clear G40; clear hrw41 hbw41 hlw41 hmw41)
    | (with_reducible refine at_any ?_; refine at_dst 11 rfl ?_; refine wpList_alloc_any rfl 34 rfl Z HZ0.out ?_; intro w45 hkw45 hsw45 hbw45; have U46 := Lib.hid (Fx.under_new G44.out rfl); have G47 := Lib.hid (Fx.newB G44.out hkw45.out hbw45); clear G44; clear hkw45 hsw45 hbw45)
    | (with_reducible refine at_any ?_; refine at_store 11 rfl ?_; refine wpList_store_any rfl 34 (.tmp 11) (.tmp 45) rfl w41.heap.size rfl 34 Z (srcV S1 A42 c43) (Fx.b0 G47.out) rfl (HZZ.out S1 HLS1.out _ _) (sizedS S1 HLS1.out _ _) (srcV_ones _ _ _) ?_; intro w48 hkw48 hsw48 hbw48 how48; have G49 := Lib.hid (Fx.put1B G47.out U46.out hkw48.out hsw48.out hbw48 how48); clear G47; clear hkw48 hsw48 hbw48 how48)
    | (with_reducible refine at_any ?_; refine at_dst 48 rfl ?_; refine wpList_load_blk rfl 34 (.tmp 1) rfl w1.heap.size rfl 34 (srcV S1 A1 c1) (Fx.b10 G49.out) _ Tryd.underlying34 rfl (sizedS S1 HLS1.out _ _) ?_)
    | (with_reducible refine at_any ?_; refine at_dst 49 rfl ?_; refine wpList_build1 (by kernel_rfl) (.const (.int .u64 9223372036854775808)) rfl 9223372036854775808 rfl ?_; intro gl51 w50 hrw50 hbw50; have G52 := Lib.hid (Fx.addR G49.out hbw50 hrw50); clear G49; clear hrw50 hbw50)
    | (go_at_call 14; (with_reducible refine (HL2.out _ _ _ _ lc1.out mc1.out _ (Fx.r0 G52.out) (Fx.r12 G52.out) (HKS.out.below (Fx.e13 G52.out))).mono ?_); rintro e w53 ⟨A54, c55, rfl, hrw53, hlw53, hmw53, _, hbw53⟩; have lc55 := Lib.hid hlw53; have mc55 := Lib.hid hmw53; have G56 := Lib.hid (Fx.addR G52.out hbw53 hrw53); clear G52; clear hrw53 hbw53 hlw53 hmw53)
    | (with_reducible refine at_any ?_; refine at_dst 14 rfl ?_; refine wpList_alloc_any rfl 34 rfl Z HZ0.out ?_; intro w57 hkw57 hsw57 hbw57; have U58 := Lib.hid (Fx.under_new G56.out rfl); have G59 := Lib.hid (Fx.newB G56.out hkw57.out hbw57); clear G56; clear hkw57 hsw57 hbw57)
    | (with_reducible refine at_any ?_; refine at_store 14 rfl ?_; refine wpList_store_any rfl 34 (.tmp 14) (.tmp 52) rfl w53.heap.size rfl 34 Z (srcV S1 A54 c55) (Fx.b0 G59.out) rfl (HZZ.out S1 HLS1.out _ _) (sizedS S1 HLS1.out _ _) (srcV_ones _ _ _) ?_; intro w60 hkw60 hsw60 hbw60 how60; have G61 := Lib.hid (Fx.put1B G59.out U58.out hkw60.out hsw60.out hbw60 how60); clear G59; clear hkw60 hsw60 hbw60 how60)
    | (with_reducible refine at_any ?_; refine at_dst 55 rfl ?_; refine wpList_load_fen (by kernel_rfl) (.tmp 3) rfl w11.heap.size rfl 27 (.slice A12 3 c13) (Fx.b10 G61.out) ?_)
    | (with_reducible refine at_any ?_; refine at_dst 56 rfl ?_; refine wpList_load_blk rfl 34 (.tmp 5) rfl w20.heap.size rfl 34 (srcV T1 A21 c22) (Fx.b8 G61.out) _ Tryd.underlying34 rfl (sizedS T1 HLT1.out _ _) ?_)
    | (go_at_call 11; (with_reducible refine (HD3.out _ _ lc13.out mc13.out _ _ lc22.out mc22.out _ (Fx.r11 G61.out) (Fx.r9 G61.out) (HKS.out.below (Fx.e15 G61.out))).mono ?_); rintro e w62 ⟨A63, c64, rfl, hrw62, hlw62, hmw62, _, hbw62⟩; have lc64 := Lib.hid hlw62; have mc64 := Lib.hid hmw62; have G65 := Lib.hid (Fx.addR G61.out hbw62 hrw62); clear G61; clear hrw62 hbw62 hlw62 hmw62)
    | (with_reducible refine at_any ?_; refine at_dst 17 rfl ?_; refine wpList_alloc_any rfl 34 rfl Z HZ0.out ?_; intro w66 hkw66 hsw66 hbw66; have U67 := Lib.hid (Fx.under_new G65.out rfl); have G68 := Lib.hid (Fx.newB G65.out hkw66.out hbw66); clear G65; clear hkw66 hsw66 hbw66)
    | (with_reducible refine at_any ?_; refine at_store 17 rfl ?_; refine wpList_store_any rfl 34 (.tmp 17) (.tmp 59) rfl w62.heap.size rfl 34 Z (srcV T2 A63 c64) (Fx.b0 G68.out) rfl (HZZ.out T2 HLT2.out _ _) (sizedS T2 HLT2.out _ _) (srcV_ones _ _ _) ?_; intro w69 hkw69 hsw69 hbw69 how69; have G70 := Lib.hid (Fx.put1B G68.out U67.out hkw69.out hsw69.out hbw69 how69); clear G68; clear hkw69 hsw69 hbw69 how69; have z5 := HC1.out _ _ A21 c22 (Fx.b10 G70.out); have z11 := HC2.out _ _ A42 c43 (Fx.b5 G70.out); have z17 := HC3.out _ _ A63 c64 (Fx.b0 G70.out)))
  go_ret
  exact ⟨rfl, (Fx.e17 G70.out)⟩
end Go.Proofs.YtepclbmcacdhlaaDoor
/-
  A law's argument that is a slice of integers, opened.
  Conditions: the element's type is an integer type of one cell.
-/
set_option maxRecDepth 100000
namespace Go.Proofs.YtepclbmcacdhlaaDoor
open Go.ChangeShapes Go.WideShapes Go.ChangeAt Go.RowKit
theorem open_rd {H : Type} {enc : TypeId × Value → H} {P : Program} {w : World} {base : Nat} {spare : Nat → Bool} {held : Bool} {t e : TypeId} {k : IntKind} {a : Option Addr} {len cap : Nat} {d : DataW H} {p : List MemPlace}
    (ht : P.underlying t = some (.slice e)) (he : P.underlying e = some (.int k)) (hc : P.cellsOf e = 1) (h : DataW.Trod enc P w base spare held t (.slice a len cap) d p) :
    ∃ zs : List Int, Rd k w w.heap.size a len zs ∧ len ≤ cap ∧ cap ≤ maxLen ∧ ∀ z ∈ zs, (Lit.int k z).wf = true := by
  obtain ⟨fuel, hf⟩ := h
  rcases open_ints ht he hc hf with ⟨hcs, _⟩ | ⟨x, l, c, zs, hcs, _, hl, hm, hz, _, hcell, hwz⟩
  · simp [Value.cells] at hcs
    obtain ⟨rfl, rfl, rfl⟩ := hcs
    exact ⟨[], Rd.none_, Nat.le_refl _, by simp [maxLen], fun _ h => by cases h⟩
  · simp [Value.cells] at hcs
    obtain ⟨rfl, rfl, rfl⟩ := hcs
    refine ⟨zs.take len, ⟨?_, fun hn => ?_⟩, hl, hm, fun z hz' => hwz z (List.mem_of_mem_take hz')⟩
    · have : len ≤ zs.length := by rw [hz]; split <;> omega
      rw [List.length_take]; omega
    · have hlen : len ≤ zs.length := by rw [hz]; split <;> omega
      obtain ⟨b, off, spot⟩ := x
      have h0 := hcell 0 (by omega)
      have hspot : spot = none := by simpa [Addr.add] using World.cell?_spot h0
      subst hspot
      have h1 : w.cell? ⟨b, off, none⟩ = some (.int k (zs.getD 0 0)) := by simpa [Addr.add] using h0
      refine ⟨b, off, rfl, World.block_lt_of_cell? w _ h1, fun j hj => ?_⟩
      have h2 := hcell j (by omega)
      rw [add_flat] at h2
      rw [h2]
      congr 2
      simp only [List.getD_eq_getElem?_getD, List.getElem?_take]
      rw [if_pos hj]
end Go.Proofs.YtepclbmcacdhlaaDoor
/-
  A law's arguments, opened: a slice of slices of bytes; the cells of an array.
  Conditions: those that each theorem names.
-/
set_option maxRecDepth 100000
set_option linter.unusedVariables false
set_option linter.unusedSimpArgs false
namespace Go.Proofs.YtepclbmcacdhlaaDoor
open Go.ChangeShapes Go.WideShapes Go.ChangeAt Go.RowKit
theorem rd_of_cells {k : IntKind} {w : World} {A : Option Addr} {L C : Nat} {Z : List Int} (hl : L ≤ C) (hz : Z.length = C) (h0 : A = none → C = 0) (hc : ∀ a', A = some a' → ∀ c, c < C → w.cell? (a'.add c) = some (.int k (Z.getD c 0))) : Rd k w w.heap.size A L (Z.take L) := by
  refine ⟨by rw [List.length_take]; omega, fun hn => ?_⟩
  rcases A with _ | ⟨b, off, spot⟩
  · have := h0 rfl; omega
  · have h1 := hc _ rfl 0 (by omega)
    have hspot : spot = none := by simpa [Addr.add] using World.cell?_spot h1
    subst hspot
    have h2 : w.cell? ⟨b, off, none⟩ = some (.int k (Z.getD 0 0)) := by simpa [Addr.add] using h1
    refine ⟨b, off, rfl, World.block_lt_of_cell? w _ h2, fun j hj => ?_⟩
    have h3 := hc _ rfl j (by omega)
    rw [add_flat] at h3
    rw [h3]
    congr 2
    simp only [List.getD_eq_getElem?_getD, List.getElem?_take]
    rw [if_pos hj]
theorem open_rows {H : Type} {enc : TypeId × Value → H} {P : Program} {w : World} {base : Nat} {held : Bool} {t e q : TypeId} {a : Option Addr} {len cap : Nat} {d : DataW H} {p : List MemPlace}
    (ht : P.underlying t = some (.slice e)) (he : P.underlying e = some (.slice q)) (hq : P.underlying q = some (.int .u8)) (ce : P.cellsOf e = 1) (cq : P.cellsOf q = 1) (h : DataW.Trod enc P w base (fun _ => true) held t (.slice a len cap) d p) :
    ∃ rs : List Row, RdRows w w.heap.size a len rs ∧ len ≤ cap ∧ cap ≤ maxLen ∧ ∀ r ∈ rs, r.n ≤ maxLen ∧ r.zs.length = r.n ∧ ∀ z ∈ r.zs, (Lit.int .u8 z).wf = true := by
  obtain ⟨fuel, hf⟩ := h
  rcases Go.Deep.open_int_rows ht he hq ce cq hf with ⟨hcs, _⟩ | ⟨x, l, c, A, L, C, Z, hcs, _, hl, hm, _, hr⟩
  · simp [Value.cells] at hcs
    obtain ⟨rfl, rfl, rfl⟩ := hcs
    exact ⟨[], ⟨rfl, fun h => absurd h (by omega), fun _ h => by cases h⟩, Nat.le_refl _, by simp [maxLen], fun _ h => by cases h⟩
  · simp [Value.cells] at hcs
    obtain ⟨rfl, rfl, rfl⟩ := hcs
    have hrd : ∀ r, r < len → Rd .u8 w w.heap.size (A r) (L r) ((Z r).take (L r)) := fun r h => by
      obtain ⟨_, h1, _, h3, _, h5, h6⟩ := hr r (by omega)
      exact rd_of_cells h1 h3 h5 (fun a' e' => (h6 a' e').2)
    refine ⟨(List.range len).map fun r => ⟨A r, L r, C r, (Z r).take (L r)⟩, ⟨by simp, fun hn => ?_, fun r hr' => ?_⟩, hl, hm, fun r hr' => ?_⟩
    · obtain ⟨b, off, spot⟩ := x
      have h0 := (hr 0 (by omega)).1
      have hspot : spot = none := by simpa [Addr.add] using World.cell?_spot h0
      subst hspot
      have h1 : w.cell? ⟨b, off, none⟩ = some (.slice (A 0) (L 0) (C 0)) := by simpa [Addr.add] using h0
      refine ⟨b, off, rfl, World.block_lt_of_cell? w _ h1, fun j r hj => ?_⟩
      rw [List.getElem?_map] at hj
      have hjl : j < len := by
        rcases Nat.lt_or_ge j len with h2 | h2
        · exact h2
        · rw [List.getElem?_eq_none (by simpa using h2)] at hj; cases hj
      rw [List.getElem?_range hjl] at hj
      injection hj with hj
      subst hj
      have h2 := (hr j (by omega)).1
      rw [add_flat] at h2
      exact h2
    · obtain ⟨i, hi, rfl⟩ := List.mem_map.1 hr'
      have hi' := List.mem_range.1 hi
      exact ⟨hrd i hi', (hr i (by omega)).2.1⟩
    · obtain ⟨i, hi, rfl⟩ := List.mem_map.1 hr'
      have hi' := List.mem_range.1 hi
      obtain ⟨_, h1, h2, h3, h4, _⟩ := hr i (by omega)
      exact ⟨by dsimp only; omega, (hrd i hi').1, fun z hz => h4 z (List.mem_of_mem_take hz)⟩
section
variable {H : Type} {enc : TypeId × Value → H} {P : Program} {w : World} {base : Nat} {spare : Nat → Bool} {held : Bool}
/-- The cells of an array of integers. -/
theorem trod_ints {fuel n : Nat} {t e : TypeId} {q : IntKind} {cs : List Value} {x : DataW H × List MemPlace} (ht : P.underlying t = some (.array n e)) (he : P.underlying e = some (.int q)) (hc : P.cellsOf e = 1) (hC : P.cellsOf t = n)
    (hf : DataW.trod enc P w base spare held fuel t cs = some x) : ∃ zs : List Int, zs.length = n ∧ cs = zs.map (Value.int q) ∧ ∀ z ∈ zs, (Lit.int q z).wf = true := by
  obtain ⟨xs, m, _, hx, hl, hxl, hat⟩ := DataW.trod_array ht hf
  rw [hC] at hl
  rw [hc] at hat
  have hz : ∀ i (hi : i < n), ∃ z : Int, cs[i]? = some (.int q z) ∧ (Lit.int q z).wf = true := by
    intro i hi
    have h1 := hat i hi
    have e1 : List.take 1 (List.drop (i * 1) cs) = [cs[i]'(by omega)] := by
      rw [Nat.mul_one, List.drop_eq_getElem_cons (show i < cs.length by omega), List.take_succ_cons, List.take_zero]
    rw [e1] at h1
    have hxi : xs[i]? = some (xs[i]'(by omega)) := List.getElem?_eq_getElem (by omega)
    rw [hxi] at h1
    obtain ⟨a, ea, _, wa⟩ := DataW.trod_int he h1
    refine ⟨a, ?_, wa⟩
    rw [List.getElem?_eq_getElem (by omega)]
    simpa using ea
  obtain ⟨zs, hzl, hzs⟩ := list_of n hz
  refine ⟨zs, hzl, ?_, ?_⟩
  · apply List.ext_getElem?
    intro i
    by_cases hi : i < n
    · obtain ⟨z, e1, e2, _⟩ := hzs i hi
      rw [e2, List.getElem?_map, e1]
      rfl
    · rw [List.getElem?_eq_none (by omega), List.getElem?_eq_none (by simp; omega)]
  · intro z hz'
    obtain ⟨i, hi, e⟩ := List.mem_iff_getElem.1 hz'
    obtain ⟨z', e1, _, e4⟩ := hzs i (by omega)
    rw [List.getElem?_eq_getElem hi, e] at e1
    injection e1 with e1
    rw [e1]
    exact e4
end
end Go.Proofs.YtepclbmcacdhlaaDoor
/-
  A law's argument that is a source, opened.
  Conditions: those that the theorem names.
-/
set_option maxRecDepth 100000
set_option linter.unusedVariables false
set_option linter.unusedSimpArgs false
namespace Go.Proofs.YtepclbmcacdhlaaDoor
open Go.ChangeShapes Go.WideShapes Go.ChangeAt Go.RowKit
theorem Src.ok_mk {kd bt dm at_ : Int} {zs sd : List Int} (k0 : -9223372036854775808 ≤ kd) (k1 : kd < 9223372036854775808) (ti : ∀ z ∈ zs, 0 ≤ z ∧ z < 256) (b0 : 0 ≤ bt) (b1 : bt < 18446744073709551616) (sl : sd.length = 32) (si : ∀ z ∈ sd, 0 ≤ z ∧ z < 256) (d0 : 0 ≤ dm) (d1 : dm < 18446744073709551616) (a0 : 0 ≤ at_) (a1 : at_ < 18446744073709551616) :
    (⟨kd, zs, bt, sd, dm, at_⟩ : Src).tape.length ≤ 140737488355328 → (⟨kd, zs, bt, sd, dm, at_⟩ : Src).Ok := fun tl => ⟨k0, k1, tl, ti, b0, b1, sl, si, d0, d1, a0, a1⟩
set_option maxHeartbeats 1000000 in
theorem open_src {H : Type} {enc : TypeId × Value → H} {w : World} {base b0 : Nat} {spare : Nat → Bool} {held : Bool} {r : Reach} {v : Value} {d : DataW H} {p : List MemPlace}
    (hv : Value.okWide Tryd.prog w r b0 34 v) (h : DataW.Trod enc Tryd.prog w base spare held 34 v d p) :
    ∃ (s : Src) (A : Option Addr) (c : Nat), v = .agg (srcV s A c) ∧ (s.tape.length ≤ 140737488355328 → s.Ok) ∧ Rd .u8 w w.heap.size A s.tape.length s.tape ∧ s.tape.length ≤ c ∧ c ≤ maxLen ∧ s.seed.length = 32 := by
  have hv' : ∃ cs : Array Value, v = .agg cs := by
    simp only [Value.okWide, Tryd.underlying34] at hv
    obtain ⟨cs, h1, _⟩ := hv
    exact ⟨cs, h1⟩
  obtain ⟨cs, rfl⟩ := hv'
  obtain ⟨fuel, hf⟩ := h
  obtain ⟨xs, m, _, _, hl, hxl, hat⟩ := DataW.trod_struct Tryd.underlying34 hf
  have hC : Tryd.prog.cellsOf 34 = 37 := by kernel_rfl
  rw [hC] at hl
  obtain ⟨ls, hls⟩ : ∃ ls, (Value.cells (.agg cs)).toList = ls := ⟨_, rfl⟩
  have hcs : cs = ls.toArray := by rw [← hls]; rfl
  rw [hls] at hl hat
  have ci : Tryd.prog.cellsOf 3 = 1 := by kernel_rfl
  have cl : Tryd.prog.cellsOf 30 = 1 := by kernel_rfl
  have cu : Tryd.prog.cellsOf 24 = 1 := by kernel_rfl
  have ch : Tryd.prog.cellsOf 32 = 32 := by kernel_rfl
  have g0 := hat 0 _ rfl
  have g1 := hat 1 _ rfl
  have g2 := hat 2 _ rfl
  have g3 := hat 3 _ rfl
  have g4 := hat 4 _ rfl
  have g5 := hat 5 _ rfl
  change DataW.trod enc Tryd.prog w base spare held m 3 (List.take (Tryd.prog.cellsOf 3) (List.drop 0 ls)) = xs[0]? at g0
  change DataW.trod enc Tryd.prog w base spare held m 30 (List.take (Tryd.prog.cellsOf 30) (List.drop 1 ls)) = xs[1]? at g1
  change DataW.trod enc Tryd.prog w base spare held m 24 (List.take (Tryd.prog.cellsOf 24) (List.drop 2 ls)) = xs[2]? at g2
  change DataW.trod enc Tryd.prog w base spare held m 32 (List.take (Tryd.prog.cellsOf 32) (List.drop 3 ls)) = xs[3]? at g3
  change DataW.trod enc Tryd.prog w base spare held m 24 (List.take (Tryd.prog.cellsOf 24) (List.drop 35 ls)) = xs[4]? at g4
  change DataW.trod enc Tryd.prog w base spare held m 24 (List.take (Tryd.prog.cellsOf 24) (List.drop 36 ls)) = xs[5]? at g5
  have hx6 : xs.length = 6 := hxl
  rw [ci, List.drop_zero, List.getElem?_eq_getElem (show 0 < xs.length by omega)] at g0
  rw [cl, List.getElem?_eq_getElem (show 1 < xs.length by omega)] at g1
  rw [cu, List.getElem?_eq_getElem (show 2 < xs.length by omega)] at g2
  rw [ch, List.getElem?_eq_getElem (show 3 < xs.length by omega)] at g3
  rw [cu, List.getElem?_eq_getElem (show 4 < xs.length by omega)] at g4
  rw [cu, List.getElem?_eq_getElem (show 5 < xs.length by omega)] at g5
  have one : ∀ i, i < 37 → List.take 1 (List.drop i ls) = [ls.getD i undef] := fun i hi => by
    rw [List.drop_eq_getElem_cons (show i < ls.length by omega), List.take_succ_cons, List.take_zero, List.getD_eq_getElem?_getD, List.getElem?_eq_getElem (show i < ls.length by omega), Option.getD_some]
  have g0' : DataW.trod enc Tryd.prog w base spare held m 3 [ls.getD 0 undef] = some (xs[0]'(by omega)) := by rw [← one 0 (by omega), List.drop_zero]; exact g0
  rw [one 1 (by omega)] at g1
  rw [one 2 (by omega)] at g2
  rw [one 35 (by omega)] at g4
  rw [one 36 (by omega)] at g5
  obtain ⟨kd, hk, _, wk⟩ := DataW.trod_int Tryd.underlying3 g0'
  obtain ⟨bt, hb, _, wb⟩ := DataW.trod_int Tryd.underlying24 g2
  obtain ⟨dm, hd, _, wd⟩ := DataW.trod_int Tryd.underlying24 g4
  obtain ⟨at_, ha, _, wa⟩ := DataW.trod_int Tryd.underlying24 g5
  injection hk with hk _
  injection hb with hb _
  injection hd with hd _
  injection ha with ha _
  obtain ⟨sd, hsl, hs, hsw⟩ := trod_ints Tryd.underlying32 Tryd.underlying5 (by kernel_rfl) (by kernel_rfl) g3
  have hsplit : ls = [ls.getD 0 undef, ls.getD 1 undef, ls.getD 2 undef] ++ (List.take 32 (List.drop 3 ls) ++ [ls.getD 35 undef, ls.getD 36 undef]) := by
    have e1 : ls = ls.take 3 ++ ls.drop 3 := (List.take_append_drop 3 ls).symm
    have e2 : ls.drop 3 = (ls.drop 3).take 32 ++ (ls.drop 3).drop 32 := (List.take_append_drop 32 _).symm
    have e3 : ls.take 3 = [ls.getD 0 undef, ls.getD 1 undef, ls.getD 2 undef] := by
      match ls, hl with
      | a :: b :: c :: l, _ => rfl
    have e4 : (ls.drop 3).drop 32 = [ls.getD 35 undef, ls.getD 36 undef] := by
      rw [List.drop_drop, List.drop_eq_getElem_cons (show 3 + 32 < ls.length by omega), List.drop_eq_getElem_cons (show 3 + 32 + 1 < ls.length by omega), List.drop_eq_nil_of_le (by omega)]
      simp [List.getD_eq_getElem?_getD, List.getElem?_eq_getElem (show 35 < ls.length by omega), List.getElem?_eq_getElem (show 36 < ls.length by omega)]
    conv => lhs; rw [e1, e2, e3, e4]
  have bk := bounds_i64 wk
  have bb := bounds_u64 wb
  have bd := bounds_u64 wd
  have ba := bounds_u64 wa
  rcases open_ints Tryd.underlying30 Tryd.underlying5 (by kernel_rfl) g1 with ⟨hcs1, _⟩ | ⟨x, l, c, zs, hcs1, _, hl1, hm1, hz1, _, hcell, hwz⟩
  · injection hcs1 with hcs1 _
    refine ⟨⟨kd, [], bt, sd, dm, at_⟩, none, 0, ?_, Src.ok_mk (by omega) (by omega) (fun _ h => (by cases h)) (by omega) (by omega) hsl (u8b hsw) (by omega) (by omega) (by omega) (by omega), Rd.none_, Nat.le_refl _, by simp [maxLen], hsl⟩
    rw [hcs, hsplit, hs, hk, hcs1, hb, hd, ha]
    rfl
  · injection hcs1 with hcs1 _
    have hlz : l ≤ zs.length := by rw [hz1]; split <;> omega
    have htl : (zs.take l).length = l := by rw [List.length_take]; omega
    refine ⟨⟨kd, zs.take l, bt, sd, dm, at_⟩, some x, c, ?_, Src.ok_mk (by omega) (by omega) (fun z hz => u8b hwz z (List.mem_of_mem_take hz)) (by omega) (by omega) hsl (u8b hsw) (by omega) (by omega) (by omega) (by omega), ?_, by rw [htl]; exact hl1, hm1, hsl⟩
    · rw [hcs, hsplit, hs, hk, hcs1, hb, hd, ha]
      unfold srcV
      rw [htl]
    · rw [htl]
      exact rd_of_cells hlz rfl (fun h => by cases h) (fun a' e' c' hc' => by injection e' with e'; subst e'; exact hcell c' hc')
end Go.Proofs.YtepclbmcacdhlaaDoor
/-
  Tapes counted by what they draw, and numbers taken modulo one, in plain Lean.
  Conditions: those that each theorem names.
-/
set_option maxRecDepth 100000
set_option linter.unusedVariables false
set_option linter.unusedSimpArgs false
namespace Go.Proofs.YtepclbmcacdhlaaDoor
def sumB (f : Nat → Nat) : Nat → Nat
  | 0 => 0
  | n + 1 => sumB f n + f n
theorem sumB_add (f g : Nat → Nat) : ∀ n, sumB (fun v => f v + g v) n = sumB f n + sumB g n
  | 0 => rfl
  | n + 1 => by simp only [sumB, sumB_add f g n]; omega
theorem sumB_congr {f g : Nat → Nat} : ∀ n, (∀ v, v < n → f v = g v) → sumB f n = sumB g n
  | 0, _ => rfl
  | n + 1, h => by rw [sumB, sumB, sumB_congr n (fun v hv => h v (by omega)), h n (by omega)]
theorem sumB_zero : ∀ n, sumB (fun _ => 0) n = 0
  | 0 => rfl
  | n + 1 => by rw [sumB, sumB_zero n]
theorem sumB_mul (f : Nat → Nat) (c : Nat) : ∀ n, sumB f n * c = sumB (fun v => f v * c) n
  | 0 => by simp [sumB]
  | n + 1 => by rw [sumB, sumB, Nat.add_mul, sumB_mul f c n]
theorem sumB_pick (u c : Nat) : ∀ n, sumB (fun v => if v = u then c else 0) n = if u < n then c else 0
  | 0 => by simp [sumB]
  | n + 1 => by
    rw [sumB, sumB_pick u c n]
    by_cases h : n = u
    · subst h; simp
    · rw [if_neg h]
      by_cases h2 : u < n
      · rw [if_pos h2, if_pos (by omega)]; rfl
      · rw [if_neg h2, if_neg (by omega)]
/-- Tapes counted by what they draw. -/
def pickB (p : Nat → Bool) : Option Nat → Bool
  | some v => p v
  | none => false
theorem cnt_split (f : Nat → Option Nat) (p : Nat → Bool) (b : Nat) (hb : ∀ y v, f y = some v → v < b) : ∀ x, cnt (fun y => pickB p (f y)) x = sumB (fun v => if p v = true then cnt (fun y => f y == some v) x else 0) b
  | 0 => by
    rw [show sumB (fun v => if p v = true then cnt (fun y => f y == some v) 0 else 0) b = sumB (fun _ => 0) b from sumB_congr b (fun v _ => by split <;> rfl), sumB_zero]
    rfl
  | x + 1 => by
    have ih := cnt_split f p b hb x
    rw [cnt, ih]
    have e : sumB (fun v => if p v = true then cnt (fun y => f y == some v) (x + 1) else 0) b = sumB (fun v => (if p v = true then cnt (fun y => f y == some v) x else 0) + (if p v = true ∧ f x = some v then 1 else 0)) b := sumB_congr b (fun v _ => by
      rw [cnt]
      by_cases h1 : p v = true
      · by_cases h2 : f x = some v
        · simp [h1, h2]
        · simp [h1, h2]
      · simp [h1])
    rw [e, sumB_add]
    congr 1
    cases hf : f x with
    | none =>
      rw [show sumB (fun v => if p v = true ∧ (none : Option Nat) = some v then 1 else 0) b = sumB (fun _ => 0) b from sumB_congr b (fun v _ => by simp), sumB_zero]
      rfl
    | some u =>
      have hu := hb x u hf
      rw [show sumB (fun v => if p v = true ∧ some u = some v then 1 else 0) b = sumB (fun v => if v = u then (if p u = true then 1 else 0) else 0) b from sumB_congr b (fun v _ => by
        by_cases h : v = u
        · subst h; simp
        · have h2 : ¬ u = v := fun e => h e.symm
          simp [h, h2]), sumB_pick, if_pos hu]
      rfl
def noneL (Q b t x : Nat) : Nat := cnt (fun y => hits Q b t y == none) x
theorem noneL_hit (Q b t x v : Nat) (h : hits Q b t x = some v) : noneL Q b t (x + 1) = noneL Q b t x := by unfold noneL; rw [cnt, h]; simp
theorem noneL_miss (Q b t x : Nat) (h : hits Q b t x = none) : noneL Q b t (x + 1) = noneL Q b t x + 1 := by unfold noneL; rw [cnt, h]; simp
theorem noneL_le (Q b t x : Nat) : noneL Q b t x ≤ x := cnt_le _ _
/-! ### numbers taken modulo one -/
def modK (d : Int) (l : List Int) : List Int := l.map (· % d)
theorem modK_len (d : Int) (l : List Int) : (modK d l).length = l.length := by simp [modK]
theorem modK_at {d : Int} {l : List Int} {i : Nat} (h : i < l.length) : (modK d l).getD i 0 = l.getD i 0 % d := by simp [modK, List.getD_eq_getElem?_getD, h]
theorem modK_in {d : Int} (hd : 0 < d) {l : List Int} : ∀ z ∈ modK d l, 0 ≤ z ∧ z < d := by
  intro z h
  obtain ⟨y, _, rfl⟩ := List.mem_map.1 h
  exact ⟨Int.emod_nonneg _ (by omega), Int.emod_lt_of_pos _ hd⟩
theorem modK_take {d : Int} {l : List Int} {i : Nat} (h : i < l.length) : (modK d l).take (i + 1) = (modK d l).take i ++ [l.getD i 0 % d] := by
  rw [List.take_succ_eq_append_getElem (by rw [modK_len]; exact h)]
  congr 2
  have := modK_at (d := d) h
  rw [List.getD_eq_getElem?_getD, List.getElem?_eq_getElem (by rw [modK_len]; exact h)] at this
  exact this
end Go.Proofs.YtepclbmcacdhlaaDoor
/-
  How many tapes each place leads by, in plain Lean: tickets counted by their owners.
  Conditions: those that each theorem names.
-/
set_option maxRecDepth 100000
set_option linter.unusedVariables false
set_option linter.unusedSimpArgs false
namespace Go.Proofs.YtepclbmcacdhlaaDoor
/-- Who owns a ticket. -/
def ownP (l : List Int) (i : Nat) (v : Nat) : Bool := decide (ownV l (v : Int) = (i : Int))
/-- Of the first tickets a place owns so many. -/
theorem own_count {l : List Int} (hz : ∀ z ∈ l, 0 ≤ z) {i : Nat} (hi : i < l.length) : ∀ t : Nat, (t : Int) ≤ sumL l → ((sumB (fun v => if ownP l i v = true then 1 else 0) t : Nat) : Int) = (owndL l (t : Int)).getD i 0
  | 0, _ => by
    rw [show ((0 : Nat) : Int) = 0 from rfl, owndL_zero hz, List.getD_eq_getElem?_getD, List.getElem?_replicate, if_pos hi]
    rfl
  | t + 1, h => by
    have ih := own_count hz hi t (by push_cast at h; omega)
    obtain ⟨o, e1, e2, e3, e4, e5⟩ := own_at (l := l) (t := (t : Int)) hz (by omega) (by push_cast at h; omega)
    have hn := owndL_next hz e1 e4 e5
    rw [sumB, show ((t + 1 : Nat) : Int) = (t : Int) + 1 by push_cast; rfl, ← hn]
    push_cast
    rw [ih]
    by_cases ho : o = i
    · subst ho
      rw [show ownP l o t = true from decide_eq_true e2, List.getD_eq_getElem?_getD, List.getD_eq_getElem?_getD, List.getElem?_set_self (by rw [owndL_len]; exact e1)]
      simp
    · rw [show ownP l i t = false from decide_eq_false (fun h => ho (by rw [e2] at h; omega)), List.getD_eq_getElem?_getD, List.getD_eq_getElem?_getD, List.getElem?_set_ne ho]
      simp
theorem own_all {l : List Int} (hz : ∀ z ∈ l, 0 ≤ z) {i b : Nat} (hi : i < l.length) (hb : sumL l = (b : Int)) : ((sumB (fun v => if ownP l i v = true then 1 else 0) b : Nat) : Int) = l.getD i 0 := by
  rw [own_count hz hi b (by omega), ← hb, owndL_all hz]
/-- By so many of all tapes a place leads. -/
theorem led_count {l : List Int} (hz : ∀ z ∈ l, 0 ≤ z) {b Q t N L : Nat} (hb : sumL l = (b : Int)) (hev : ∀ v, v < b → cnt (fun y => hits Q b t y == some v) N * b + L = N) {i : Nat} (hi : i < l.length) :
    ((cnt (fun y => pickB (ownP l i) (hits Q b t y)) N : Nat) : Int) * (b : Int) = l.getD i 0 * ((N : Int) - (L : Int)) := by
  have h1 := cnt_split (hits Q b t) (ownP l i) b (fun y v h => hits_lt Q b t y v h) N
  have h2 : cnt (fun y => pickB (ownP l i) (hits Q b t y)) N * b = sumB (fun v => if ownP l i v = true then 1 else 0) b * (N - L) := by
    rw [h1, sumB_mul, sumB_mul]
    apply sumB_congr
    intro v hv
    have := hev v hv
    split
    · rw [Nat.one_mul]; omega
    · rw [Nat.zero_mul, Nat.zero_mul]
  rw [← own_all hz hi hb]
  by_cases h0 : b = 0
  · subst h0
    simp [sumB]
  · have h3 := hev 0 (by omega)
    rw [show (N : Int) - (L : Int) = ((N - L : Nat) : Int) by omega]
    exact_mod_cast h2
/-! ### tapes counted one by one -/
def ledC (l : List Int) (Q b t i x : Nat) : Nat := cnt (fun y => pickB (ownP l i) (hits Q b t y)) x
def ledL (l : List Int) (Q b t x : Nat) : List Int := (List.range l.length).map fun i => ((ledC l Q b t i x : Nat) : Int)
theorem ledL_len (l : List Int) (Q b t x : Nat) : (ledL l Q b t x).length = l.length := by simp [ledL]
theorem ledL_at {l : List Int} {i : Nat} (Q b t x : Nat) (h : i < l.length) : (ledL l Q b t x).getD i 0 = ((ledC l Q b t i x : Nat) : Int) := by simp [ledL, h]
theorem ledL_zero (l : List Int) (Q b t : Nat) : ledL l Q b t 0 = List.replicate l.length 0 := by
  apply ext_getD (by rw [ledL_len, List.length_replicate])
  intro j hj
  rw [ledL_len] at hj
  have e : (List.replicate l.length (0 : Int)).getD j 0 = 0 := by rw [List.getD_eq_getElem?_getD, List.getElem?_replicate]; split <;> rfl
  rw [ledL_at _ _ _ _ hj, e]
  rfl
theorem ledC_le (l : List Int) (Q b t i x : Nat) : ledC l Q b t i x ≤ x := cnt_le _ _
theorem ledL_miss (l : List Int) (Q b t x : Nat) (h : hits Q b t x = none) : ledL l Q b t (x + 1) = ledL l Q b t x := by
  unfold ledL ledC
  congr 1
  funext i
  rw [cnt, h]
  rfl
theorem ledL_hit (l : List Int) (Q b t x v o : Nat) (h : hits Q b t x = some v) (ho : o < l.length) (hv : ownV l (v : Int) = (o : Int)) : (ledL l Q b t x).set o ((ledL l Q b t x).getD o 0 + 1) = ledL l Q b t (x + 1) := by
  apply ext_getD (by rw [List.length_set, ledL_len, ledL_len])
  intro j hj
  rw [List.length_set, ledL_len] at hj
  rw [ledL_at _ _ _ (x + 1) hj]
  have hstep : ledC l Q b t j (x + 1) = ledC l Q b t j x + if ownP l j v = true then 1 else 0 := by
    unfold ledC
    rw [cnt, h]
    rfl
  rw [hstep]
  by_cases hjo : j = o
  · subst hjo
    rw [List.getD_eq_getElem?_getD, List.getElem?_set_self (by rw [ledL_len]; exact hj)]
    show (ledL l Q b t x).getD j 0 + 1 = _
    rw [ledL_at _ _ _ x hj, if_pos (show ownP l j v = true from decide_eq_true hv)]
    push_cast
    rfl
  · rw [List.getD_eq_getElem?_getD, List.getElem?_set_ne (fun h => hjo h.symm), ← List.getD_eq_getElem?_getD, ledL_at _ _ _ x hj, if_neg (show ¬ ownP l j v = true from fun h => by have := of_decide_eq_true h; rw [hv] at this; omega)]
    rfl
theorem modK_pre6 (l : List Int) : ∀ i : Nat, i ≤ l.length → 0 ≤ preL (modK 6 l) i ∧ preL (modK 6 l) i ≤ 6 * (i : Int)
  | 0, _ => ⟨Int.le_refl _, Int.le_refl _⟩
  | i + 1, h => by
    have ih := modK_pre6 l i (by omega)
    have h1 := preL_next (l := modK 6 l) (n := i) (by rw [modK_len]; omega)
    have h2 := modK_in (d := 6) (by omega) (l := l) _ (getD_in (l := modK 6 l) (k := i) (by rw [modK_len]; omega))
    rw [h1]
    push_cast
    omega
end Go.Proofs.YtepclbmcacdhlaaDoor
/-
  What the reference's Need of stage 8 returns.
  Conditions: the number lies in its type's range.
-/
set_option maxRecDepth 100000
set_option linter.unusedVariables false
set_option linter.unusedSimpArgs false
namespace Go.Proofs.YtepclbmcacdhlaaDoor
open Go.ChangeShapes Go.WideShapes Go.ChangeAt Go.RowKit
theorem r8need_c (n : Int) (n0 : 0 ≤ n) (n1 : n < 18446744073709551616) (w : World) : Calls Tryd.prog 6 #[.int .u64 n] w fun e w' => e = .returned (.int .i64 (needN n : Nat)) ∧ w = w' := by
  by_cases h : n = 0
  · subst h
    go_enter Tryd.func6, Tryd.ntmps6
    go_wp2
    go_ret
    exact ⟨rfl, rfl⟩
  · have HB := Lib.hid (fun W => rbits_i (n - 1) (by omega) (by omega) W)
    have hR : needN n = Wd.bitsL (n - 1).toNat := by unfold needN; rw [if_neg h]
    rw [hR]
    obtain ⟨B, hB⟩ : ∃ B, Wd.bitsL (n - 1).toNat = B := ⟨_, rfl⟩
    rw [hB] at HB ⊢
    have t1 : (n == 0) = false := by rw [beq_eq_false_iff_ne]; exact h
    have e1 : IntKind.u64.wrap (n - 1) = n - 1 := by rw [IntKind.wrap_u64]; omega
    clear h hR hB
    go_enter Tryd.func6, Tryd.ntmps6
    go_wp2_with (go_at_call 15; (with_reducible refine (HB.out _).mono ?_); rintro e _ ⟨rfl, rfl⟩)
    go_ret
    exact ⟨rfl, rfl⟩
end Go.Proofs.YtepclbmcacdhlaaDoor

/-
  Texts of this claim, joined: RefN, RefO, PlanA, CompK, CompA, CompT, ShaN, TapM, ShaJ, ShaG, PadR, PadT. What each shows, and its conditions, stand at its own head.
-/
import Derived.Test.YtmeefnhmkffdlaaDoorGb
import Derived.Test.YtmeefnhmkffdlaaDoorRows
import Derived.Deep.RegionHeld3
import Derived.Deep.RegionLaw
import Derived.KernelRfl
import Derived.ProofKit
import Derived.LaidMore
import Derived.OpenShut
import Derived.Stop.Joined
/-
  What the reference's functions of stage 7 return (Right, Left, the n-th bit, Take, Tape, Same), and that memory is left as it was.
  Conditions: the arguments lie in their types' ranges.
-/
set_option maxRecDepth 100000
set_option linter.unusedSimpArgs false
namespace Go.Proofs.YtmeefnhmkffdlaaDoor
open Go.ChangeShapes Go.WideShapes Go.ChangeAt Go.RowKit
set_option linter.unusedVariables false
set_option maxHeartbeats 1000000 in
theorem rsright_c (s : Src) (ok : s.Ok) (A : Option Addr) (c : Nat) (w : World) : Calls Tryd.prog 19 #[.agg (srcV s A c)] w fun e w' => e = .returned (.bool (rightS s)) ∧ Below w.heap.size w w' := by
  have HC := Lib.hid (fun (W : World) (g : Nat) (h : Blk W g 27 (srcV s A c)) => And.intro ((h.cell 0).trans (srcV_kind s A c)) (And.intro ((h.cell 1).trans (srcV_tape s A c)) (And.intro ((h.cell 2).trans (srcV_bits s A c)) ((h.cell 36).trans (srcV_at s ok.sl A c)))))
  have k0 := ok.k0
  have k1 := ok.k1
  have tl := ok.tl
  have b0 := ok.b0
  have b1 := ok.b1
  have a0 := ok.a0
  have a1 := ok.a1
  have hR : rightS s = if s.kind = 1 then decide (s.bits ≤ 8 * (s.tape.length : Int)) && decide (s.at_ ≤ s.bits) else decide (s.kind = 2) && decide (s.at_ ≤ 4611686018427387904) := rfl
  obtain ⟨V, hV⟩ : ∃ V, srcV s A c = V := ⟨_, rfl⟩
  obtain ⟨kd, hkd⟩ : ∃ x, s.kind = x := ⟨_, rfl⟩
  obtain ⟨L, hL⟩ : ∃ x, s.tape.length = x := ⟨_, rfl⟩
  obtain ⟨bt, hbt⟩ : ∃ x, s.bits = x := ⟨_, rfl⟩
  obtain ⟨at_, hat⟩ : ∃ x, s.at_ = x := ⟨_, rfl⟩
  rw [hV, hkd, hL, hbt, hat] at HC
  rw [hkd, hL, hbt, hat] at hR
  rw [hkd] at k0 k1
  rw [hL] at tl
  rw [hbt] at b0 b1
  rw [hat] at a0 a1
  rw [hV, hR]
  clear hV hkd hL hbt hat hR ok
  have e1 : IntKind.u64.wrap (8 * (L : Int)) = 8 * L := by rw [IntKind.wrap_u64]; omega
  by_cases hk : kd = 1
  · rw [if_pos hk]
    subst hk
    by_cases h1 : bt ≤ 8 * (L : Int)
    all_goals
      first | rw [decide_eq_true h1] | rw [decide_eq_false h1]
      first | rw [Bool.true_and] | rw [Bool.false_and]
      go_enter Tryd.func19, Tryd.ntmps19
      go_wp2_with (with_reducible refine at_any ?_; refine at_dst 1 rfl ?_; refine wpList_box_any rfl 27 (.tmp 0) rfl V rfl ?_; intro w1 hk1 hs1 hb1; have c0 := (HC.out _ _ hk1.out).1; have c1 := (HC.out _ _ hk1.out).2.1; have c2 := (HC.out _ _ hk1.out).2.2.1; have c3 := (HC.out _ _ hk1.out).2.2.2)
      go_ret
      exact ⟨rfl, hb1⟩
  · rw [if_neg hk]
    have t1 : (kd == 1) = false := by rw [beq_eq_false_iff_ne]; exact hk
    by_cases h1 : kd = 2
    all_goals
      first | rw [decide_eq_true h1] | rw [decide_eq_false h1]
      first | rw [Bool.true_and] | rw [Bool.false_and]
      first | subst h1 | (have t2 : (kd == 2) = false := by rw [beq_eq_false_iff_ne]; exact h1)
      go_enter Tryd.func19, Tryd.ntmps19
      go_wp2_with (with_reducible refine at_any ?_; refine at_dst 1 rfl ?_; refine wpList_box_any rfl 27 (.tmp 0) rfl V rfl ?_; intro w1 hk1 hs1 hb1; have c0 := (HC.out _ _ hk1.out).1; have c1 := (HC.out _ _ hk1.out).2.1; have c2 := (HC.out _ _ hk1.out).2.2.1; have c3 := (HC.out _ _ hk1.out).2.2.2)
      go_ret
      exact ⟨rfl, hb1⟩
set_option maxHeartbeats 1000000 in
theorem rsleft_c (s : Src) (ok : s.Ok) (A : Option Addr) (c : Nat) (w : World) : Calls Tryd.prog 28 #[.agg (srcV s A c)] w fun e w' => e = .returned (.int .u64 (leftS s)) ∧ Below w.heap.size w w' := by
  have HC := Lib.hid (fun (W : World) (g : Nat) (h : Blk W g 27 (srcV s A c)) => And.intro ((h.cell 0).trans (srcV_kind s A c)) (And.intro ((h.cell 2).trans (srcV_bits s A c)) ((h.cell 36).trans (srcV_at s ok.sl A c))))
  have HRT := Lib.hid (fun W => rsright_c s ok A c W)
  have SV := Lib.hid (sizedS s ok.sl A c)
  have k0 := ok.k0
  have k1 := ok.k1
  have b0 := ok.b0
  have b1 := ok.b1
  have a0 := ok.a0
  have a1 := ok.a1
  have hl := left_le ok
  have hL : leftS s = if rightS s = true then (if s.kind = 1 then s.bits - s.at_ else 4611686018427387904 - s.at_) else 0 := rfl
  obtain ⟨V, hV⟩ : ∃ V, srcV s A c = V := ⟨_, rfl⟩
  obtain ⟨kd, hkd⟩ : ∃ x, s.kind = x := ⟨_, rfl⟩
  obtain ⟨bt, hbt⟩ : ∃ x, s.bits = x := ⟨_, rfl⟩
  obtain ⟨at_, hat⟩ : ∃ x, s.at_ = x := ⟨_, rfl⟩
  obtain ⟨r, hr⟩ : ∃ x, rightS s = x := ⟨_, rfl⟩
  rw [hV, hkd, hbt, hat] at HC
  rw [hV, hr] at HRT
  rw [hV] at SV
  rw [hkd, hbt, hat, hr] at hL
  rw [hkd] at k0 k1
  rw [hbt] at b0 b1
  rw [hat] at a0 a1
  rw [hV]
  rw [hL] at hl
  rw [hL]
  clear hV hkd hbt hat hr hL ok
  cases r
  · rw [if_neg (by decide)]
    go_enter Tryd.func28, Tryd.ntmps28
    go_wp2_with (first
      | (with_reducible refine at_any ?_; refine at_dst 1 rfl ?_; refine wpList_box_any rfl 27 (.tmp 0) rfl V rfl ?_; intro w1 hk1 hs1 hb1)
      | (with_reducible refine at_any ?_; refine at_dst 3 rfl ?_; refine wpList_load_blk rfl 27 (.tmp 1) rfl w.heap.size rfl 27 V hk1.out _ Tryd.underlying27 rfl SV.out ?_)
      | (go_at_call 19; (with_reducible refine (HRT.out _).mono ?_); rintro e w2 ⟨rfl, hb2⟩))
    go_ret
    exact ⟨rfl, hb1.trans (hb2.mono hb1.size)⟩
  · rw [if_pos rfl] at hl ⊢
    by_cases hk : kd = 1
    all_goals
      first | rw [if_pos hk] at hl ⊢ | rw [if_neg hk] at hl ⊢
      first | subst hk | (have t1 : (kd == 1) = false := by rw [beq_eq_false_iff_ne]; exact hk)
      first | (have e1 : IntKind.u64.wrap (bt - at_) = bt - at_ := by rw [IntKind.wrap_u64]; omega) | (have e2 : IntKind.u64.wrap (4611686018427387904 - at_) = 4611686018427387904 - at_ := by rw [IntKind.wrap_u64]; omega)
      go_enter Tryd.func28, Tryd.ntmps28
      go_wp2_with (first
        | (with_reducible refine at_any ?_; refine at_dst 1 rfl ?_; refine wpList_box_any rfl 27 (.tmp 0) rfl V rfl ?_; intro w1 hk1 hs1 hb1)
        | (with_reducible refine at_any ?_; refine at_dst 3 rfl ?_; refine wpList_load_blk rfl 27 (.tmp 1) rfl w.heap.size rfl 27 V hk1.out _ Tryd.underlying27 rfl SV.out ?_)
        | (go_at_call 19; (with_reducible refine (HRT.out _).mono ?_); rintro e w2 ⟨rfl, hb2⟩; have k2 := hk1.out.below hb2 hk1.out.lt; have c0 := (HC.out _ _ k2).1; have c2 := (HC.out _ _ k2).2.1; have c3 := (HC.out _ _ k2).2.2))
      go_ret
      exact ⟨rfl, hb1.trans (hb2.mono hb1.size)⟩
set_option maxHeartbeats 1000000 in
theorem rsbit_c (s : Src) (ok : s.Ok) (n : Int) (n0 : 0 ≤ n) (n1 : n < 18446744073709551616) (hn : s.kind = 2 ∨ n < 8 * (s.tape.length : Int)) (A : Option Addr) (c : Nat) (w : World) (hrd : Rd .u8 w w.heap.size A s.tape.length s.tape) : Calls Tryd.prog 29 #[.agg (srcV s A c), .int .u64 n] w fun e w' => e = .returned (.int .u64 (bitS s n)) ∧ Below w.heap.size w w' := by
  have HC := Lib.hid (fun (W : World) (g : Nat) (h : Blk W g 27 (srcV s A c)) => And.intro ((h.cell 0).trans (srcV_kind s A c)) (And.intro ((h.cell 1).trans (srcV_tape s A c)) (And.intro ((h.cell 35).trans (srcV_dom s ok.sl A c)) (srcV_seed h))))
  have k0 := ok.k0
  have k1 := ok.k1
  have tl := ok.tl
  have SSD := Lib.hid (show (Tryd.prog.info? 25).map (·.size) = some s.seed.length by rw [ok.sl]; exact size_hash)
  have HBT := Lib.hid (fun W => rbit_c s.seed s.dom n ok.sl ok.si ok.d0 ok.d1 n0 n1 W)
  by_cases hk : s.kind = 2
  · have hb : bitS s n = bitN s.seed s.dom n := by unfold bitS; rw [if_pos hk]
    rw [hb]
    obtain ⟨V, hV⟩ : ∃ V, srcV s A c = V := ⟨_, rfl⟩
    rw [hV, hk] at HC
    rw [hV]
    clear hV hk hb hn
    go_enter Tryd.func29, Tryd.ntmps29
    go_wp2_with (first
      | (with_reducible refine at_any ?_; refine at_dst 2 rfl ?_; refine wpList_box_any rfl 27 (.tmp 0) rfl V rfl ?_; intro w1 hk1 hs1 hb1; have c0 := (HC.out _ _ hk1.out).1; have c2 := (HC.out _ _ hk1.out).2.2.1)
      | (with_reducible refine at_any ?_; refine at_dst 9 rfl ?_; refine wpList_load_at rfl 25 (.tmp 8) rfl w.heap.size 3 rfl .u8 s.seed (HC.out _ _ hk1.out).2.2.2 _ Tryd.underlying25 rfl SSD.out ?_)
      | (go_at_call 31; (with_reducible refine (HBT.out _).mono ?_); rintro e w2 ⟨rfl, hb2⟩))
    go_ret
    exact ⟨rfl, hb1.trans (hb2.mono hb1.size)⟩
  · have hlt : n < 8 * (s.tape.length : Int) := by rcases hn with h | h; exact absurd h hk; exact h
    have t1 : (s.kind == 2) = false := by rw [beq_eq_false_iff_ne]; exact hk
    obtain ⟨j, hj⟩ : ∃ j : Nat, (n / 8).toNat = j := ⟨_, rfl⟩
    obtain ⟨q, hq⟩ : ∃ q : Nat, (7 - n % 8).toNat = q := ⟨_, rfl⟩
    have e1 : n / 8 = (j : Int) := by omega
    obtain ⟨r, hr⟩ : ∃ r : Nat, (n % 8).toNat = r := ⟨_, rfl⟩
    have e2 : n % 8 = (r : Int) := by omega
    have e3 : (7 : Int) - (r : Int) = (q : Int) := by omega
    have hq7 : q ≤ 7 := by omega
    have hjl : j < s.tape.length := by omega
    have hb : bitS s n = s.tape.getD j 0 / 2 ^ q % 2 := by unfold bitS; rw [if_neg hk, hj, hq]
    rw [hb]
    have hx : 0 ≤ s.tape.getD j 0 ∧ s.tape.getD j 0 < 256 := by
      rw [List.getD_eq_getElem?_getD, List.getElem?_eq_getElem hjl, Option.getD_some]
      exact ok.ti _ (List.getElem_mem hjl)
    obtain ⟨b0, off, hA, hb0, hcell⟩ := hrd.2 (by omega)
    have cj := hcell j hjl
    obtain ⟨x, hxe⟩ : ∃ x, s.tape.getD j 0 = x := ⟨_, rfl⟩
    rw [hxe] at hx cj
    rw [hxe]
    have hrt := fun W => (rright_c x (q : Int) (by omega) (by omega) (by omega) (by omega) W).mono fun e w' (h : _ ∧ _) => And.intro h.1 h.2.symm
    rw [right_div x q hq7] at hrt
    have p0 := Wd.pow_pos2 q
    have y0 : 0 ≤ x / 2 ^ q := Int.ediv_nonneg hx.1 (by omega)
    have y1 : x / 2 ^ q < 256 := by have := Int.ediv_le_self (2 ^ q) hx.1; omega
    obtain ⟨y, hy⟩ : ∃ y, x / 2 ^ q = y := ⟨_, rfl⟩
    rw [hy] at hrt y0 y1
    rw [hy]
    have HRT := Lib.hid hrt
    have CJ := Lib.hid cj
    obtain ⟨x0, x1⟩ := hx
    obtain ⟨L, hL⟩ : ∃ L, s.tape.length = L := ⟨_, rfl⟩
    rw [hL] at HC tl hjl
    have q0 : (0 : Int) ≤ (j : Int) ∧ (j : Int) < (L : Int) := by omega
    obtain ⟨V, hV⟩ : ∃ V, srcV s A c = V := ⟨_, rfl⟩
    rw [hV] at HC
    rw [hV]
    subst hA
    clear hV hb hn hcell hrt cj p0 hy hxe hrd hL hlt hj hq hr HBT ok
    go_enter Tryd.func29, Tryd.ntmps29
    go_wp2_with (first
      | (with_reducible refine at_any ?_; refine at_dst 2 rfl ?_; refine wpList_box_any rfl 27 (.tmp 0) rfl V rfl ?_; intro w1 hk1 hs1 hb1; have c0 := (HC.out _ _ hk1.out).1; have c2 := (HC.out _ _ hk1.out).2.1; have c3 := (hb1.cell hb0).trans CJ.out)
      | (go_at_call 23; (with_reducible refine (HRT.out _).mono ?_); rintro e _ ⟨rfl, rfl⟩))
    go_ret
    exact ⟨rfl, hb1⟩
set_option maxHeartbeats 4000000 in
theorem rstake_c (s : Src) (ok : s.Ok) (k : Int) (k0 : -9223372036854775808 ≤ k) (k1 : k < 9223372036854775808) (A : Option Addr) (c : Nat) (hc : s.tape.length ≤ c) (hcm : c ≤ maxLen) (w : World) (hrd : Rd .u8 w w.heap.size A s.tape.length s.tape) : Calls Tryd.prog 20 #[.agg (srcV s A c), .int .i64 k] w (RetTake w s k A) := by
  have HRT := Lib.hid (fun W => rsright_c s ok A c W)
  have HLT := Lib.hid (fun W => rsleft_c s ok A c W)
  have hll := left_le ok
  have SV := Lib.hid (sizedS s ok.sl A c)
  have OV := Lib.hid (srcV_ones s A c)
  have ZV := Lib.hid (srcV_same Src.zero s rfl ok.sl none A 0 c)
  have HZ0 := Lib.hid zero_src
  obtain ⟨Z, hZ⟩ : ∃ Z, srcV Src.zero none 0 = Z := ⟨_, rfl⟩
  rw [hZ] at ZV HZ0
  have hRd := Lib.hid hrd
  by_cases hbad : ¬ (rightS s = true ∧ 0 ≤ k ∧ k ≤ 64)
  · have hE : takeE s k = 1 := by unfold takeE; rw [if_neg hbad]
    have HEND : Hid (∀ w', Below w.heap.size w w' → RetTake w s k A (.returned (.tuple #[.int .u64 0, .agg (srcV s A c), .int .i64 1])) w') := Lib.hid (fun w' hb => ⟨A, c, by unfold takeV takeS; rw [hE]; rfl, (hRd.out.below hb).mono hb.size, hc, hcm, .inl rfl, hb⟩)
    obtain ⟨V, hV⟩ : ∃ V, srcV s A c = V := ⟨_, rfl⟩
    rw [hV] at HRT HLT SV OV ZV HEND
    rw [hV]
    have hcase : (rightS s = false) ∨ (rightS s = true ∧ k < 0) ∨ (rightS s = true ∧ ¬ k < 0 ∧ 64 < k) := by
      cases h : rightS s
      · exact .inl rfl
      · refine .inr ?_
        by_cases h0 : k < 0
        · exact .inl ⟨rfl, h0⟩
        · exact .inr ⟨rfl, h0, Decidable.byContradiction fun h7 => hbad ⟨h, by omega, by omega⟩⟩
    clear hZ hV hE hbad hll hrd
    rcases hcase with hr | ⟨hr, h0⟩ | ⟨hr, h0, h6⟩
    all_goals
      rw [hr] at HRT
      go_enter Tryd.func20, Tryd.ntmps20
      go_wp2_with (first
        | (with_reducible refine at_any ?_; refine at_dst 2 rfl ?_; refine wpList_box_any rfl 27 (.tmp 0) rfl V rfl ?_; intro w1 hk1 hs1 hb1)
        | (with_reducible refine at_any ?_; refine at_dst 5 rfl ?_; refine wpList_alloc_any rfl 27 rfl Z HZ0.out ?_; intro w2 hk2 hs2 hb2; have k2 := Lib.hid (hk1.out.below hb2 hk1.out.lt); have bl2 := Lib.hid (hb1.trans (hb2.mono hb1.size)))
        | (with_reducible refine at_any ?_; refine at_dst 9 rfl ?_; refine wpList_load_blk rfl 27 (.tmp 2) rfl w.heap.size rfl 27 V k2.out _ Tryd.underlying27 rfl SV.out ?_)
        | (go_at_call 19; (with_reducible refine (HRT.out _).mono ?_); rintro e wz ⟨rfl, hbz⟩))
      have HB2 : Src2 w w.heap.size w1.heap.size V Z wz := ⟨hk2.out.below hbz hk2.out.lt, k2.out.below hbz k2.out.lt, bl2.out.trans (hbz.mono bl2.out.size), trivial⟩
      have h25 : w.heap.size < w1.heap.size := by rw [hs1.out]; omega
      obtain ⟨g2, hg2⟩ : ∃ g, w.heap.size = g := ⟨_, rfl⟩
      obtain ⟨g5, hg5⟩ : ∃ g, w1.heap.size = g := ⟨_, rfl⟩
      have h02 : w.heap.size ≤ g2 := by omega
      rw [hg2, hg5] at HB2 h25
      rw [hg2, hg5]
      clear hg2 hg5 hk1 hs1 hb1 hk2 hs2 hb2 k2 bl2 hbz
      have hS := HB2.keep.drew
      have HZ5 := HB2.old.drew
      refine wp_region_held_drew (S := (Fx [.blk g2 27 V, .bel w])) (by kernel_rfl) hS (fun hH => ?_)
      refine wpAnyH_letter #[false, false, false, false] (by kernel_rfl) (fun _ _ d _ _ h => by cases d <;> exact h) (fun QL HQ1 HQ2 => ?_)
      refine held_row 0 (some 20) rfl (by kernel_rfl) (by kernel_rfl) (by kernel_rfl) (by kernel_rfl) (fun c a v w h => HQ2.out c a _ v w h) (by kernel_rfl) 27 (.tmp 2) rfl g2 (by kernel_rfl) 27 V (fun _ h => h.1) _ Tryd.underlying27 rfl SV.out hH ?_
      try simp only [Act.put, List.setIfInBounds_toArray, List.set_cons_zero, List.set_cons_succ]
      refine held_v 1 (some 4) rfl (by kernel_rfl) (by kernel_rfl) (by kernel_rfl) (by kernel_rfl) (fun c a v w h => HQ2.out c a _ v w h) (by kernel_rfl) (.int .u64 0) (fun W h => by kernel_rfl) hH ?_
      try simp only [Act.put, List.setIfInBounds_toArray, List.set_cons_zero, List.set_cons_succ]
      refine wpAnyH_ready (rs := [2]) (by kernel_rfl) (by decide) ?_
      refine AllReadyH.cons rfl (fun K hK => ?_) AllReadyH.nil
      refine step_store none (by kernel_rfl) (by kernel_rfl) 27 (.tmp 5) (.tmp 20) rfl g5 (by kernel_rfl) 27 Z V HZ5.1 (by kernel_rfl) ZV.out SV.out OV.out ?_
      intro w41 hkw41 hsw41 hbw41 how41
      have ex42 : Fx [.blk g5 27 V] w41 := ⟨hkw41.out, trivial⟩
      refine hK.out _ _ (hH.store HZ5.1 ⟨Nat.ne_of_lt h25, Nat.le_trans h02 (Nat.le_of_lt h25), trivial⟩ hsw41.out hbw41 how41) (fun hw41 => ?_)
      clear hK K
      try simp only [Act.put, List.setIfInBounds_toArray, List.set_cons_zero, List.set_cons_succ]
      refine held_v 3 (some 6) rfl (by kernel_rfl) (by kernel_rfl) (by kernel_rfl) (by kernel_rfl) (fun c a v w h => HQ2.out c a _ v w h) (by kernel_rfl) (.int .i64 1) (fun W h => by kernel_rfl) hw41 ?_
      try simp only [Act.put, List.setIfInBounds_toArray, List.set_cons_zero, List.set_cons_succ]
      refine wpAnyH_done (by kernel_rfl) ?_ _
      refine HQ1.out _ _ ?_
      clear HQ1 HQ2
      go_wp2_with (refine bodyPost_mid 4 5 6 27 rfl g5 rfl (.int .u64 0) (.int .i64 1) rfl rfl 27 V ex42.1 _ Tryd.underlying27 rfl SV.out rfl ?_)
      exact HEND.out _ hw41.2.1
  · have hgood : rightS s = true ∧ 0 ≤ k ∧ k ≤ 64 := Decidable.of_not_not hbad
    obtain ⟨hr, kk0, kk1⟩ := hgood
    have ng0 : ¬ k < 0 := by omega
    have ng1 : ¬ 64 < k := by omega
    rw [hr] at HRT
    obtain ⟨K, rfl⟩ := Int.eq_ofNat_of_zero_le kk0
    have e3 : IntKind.u64.wrap (K : Int) = K := by rw [IntKind.wrap_u64]; omega
    clear k0 k1
    obtain ⟨lf, hlf⟩ : ∃ x, leftS s = x := ⟨_, rfl⟩
    rw [hlf] at HLT hll
    by_cases hmore : lf < (K : Int)
    · have hE : takeE s (K : Int) = 8 := by unfold takeE; rw [if_pos ⟨hr, kk0, kk1⟩, hlf, if_neg (by omega)]
      have HEND : Hid (∀ w', Below w.heap.size w w' → RetTake w s (K : Int) A (.returned (.tuple #[.int .u64 0, .agg (srcV s A c), .int .i64 8])) w') := Lib.hid (fun w' hb => ⟨A, c, by unfold takeV takeS; rw [hE]; rfl, (hRd.out.below hb).mono hb.size, hc, hcm, .inl rfl, hb⟩)
      obtain ⟨V, hV⟩ : ∃ V, srcV s A c = V := ⟨_, rfl⟩
      rw [hV] at HRT HLT SV OV ZV HEND
      rw [hV]
      clear hZ hV hE hbad hrd hlf
      go_enter Tryd.func20, Tryd.ntmps20
      go_wp2_with (first
        | (with_reducible refine at_any ?_; refine at_dst 2 rfl ?_; refine wpList_box_any rfl 27 (.tmp 0) rfl V rfl ?_; intro w1 hk1 hs1 hb1)
        | (with_reducible refine at_any ?_; refine at_dst 5 rfl ?_; refine wpList_alloc_any rfl 27 rfl Z HZ0.out ?_; intro w2 hk2 hs2 hb2; have k2 := Lib.hid (hk1.out.below hb2 hk1.out.lt); have bl2 := Lib.hid (hb1.trans (hb2.mono hb1.size)))
        | (with_reducible refine at_any ?_; refine at_dst 9 rfl ?_; refine wpList_load_blk rfl 27 (.tmp 2) rfl w.heap.size rfl 27 V k2.out _ Tryd.underlying27 rfl SV.out ?_)
        | (go_at_call 19; (with_reducible refine (HRT.out _).mono ?_); rintro e wy ⟨rfl, hby⟩; have k2y := Lib.hid (k2.out.below hby k2.out.lt); have bly := Lib.hid (bl2.out.trans (hby.mono bl2.out.size)))
        | (with_reducible refine at_any ?_; refine at_dst 23 rfl ?_; refine wpList_load_blk rfl 27 (.tmp 2) rfl w.heap.size rfl 27 V k2y.out _ Tryd.underlying27 rfl SV.out ?_)
        | (go_at_call 28; (with_reducible refine (HLT.out _).mono ?_); rintro e wz ⟨rfl, hbz⟩))
      have HB2 : Src2 w w.heap.size w1.heap.size V Z wz := ⟨(hk2.out.below hby hk2.out.lt).below hbz (hk2.out.below hby hk2.out.lt).lt, k2y.out.below hbz k2y.out.lt, bly.out.trans (hbz.mono bly.out.size), trivial⟩
      have h25 : w.heap.size < w1.heap.size := by rw [hs1.out]; omega
      obtain ⟨g2, hg2⟩ : ∃ g, w.heap.size = g := ⟨_, rfl⟩
      obtain ⟨g5, hg5⟩ : ∃ g, w1.heap.size = g := ⟨_, rfl⟩
      have h02 : w.heap.size ≤ g2 := by omega
      rw [hg2, hg5] at HB2 h25
      rw [hg2, hg5]
      clear hg2 hg5 hk1 hs1 hb1 hk2 hs2 hb2 k2 bl2 hbz hby k2y bly
      have hS := HB2.keep.drew
      have HZ5 := HB2.old.drew
      refine wp_region_held_drew (S := (Fx [.blk g2 27 V, .bel w])) (by kernel_rfl) hS (fun hH => ?_)
      refine wpAnyH_letter #[false, false, false, false] (by kernel_rfl) (fun _ _ d _ _ h => by cases d <;> exact h) (fun QL HQ1 HQ2 => ?_)
      refine held_row 0 (some 26) rfl (by kernel_rfl) (by kernel_rfl) (by kernel_rfl) (by kernel_rfl) (fun c a v w h => HQ2.out c a _ v w h) (by kernel_rfl) 27 (.tmp 2) rfl g2 (by kernel_rfl) 27 V (fun _ h => h.1) _ Tryd.underlying27 rfl SV.out hH ?_
      try simp only [Act.put, List.setIfInBounds_toArray, List.set_cons_zero, List.set_cons_succ]
      refine held_v 1 (some 4) rfl (by kernel_rfl) (by kernel_rfl) (by kernel_rfl) (by kernel_rfl) (fun c a v w h => HQ2.out c a _ v w h) (by kernel_rfl) (.int .u64 0) (fun W h => by kernel_rfl) hH ?_
      try simp only [Act.put, List.setIfInBounds_toArray, List.set_cons_zero, List.set_cons_succ]
      refine wpAnyH_ready (rs := [2]) (by kernel_rfl) (by decide) ?_
      refine AllReadyH.cons rfl (fun K hK => ?_) AllReadyH.nil
      refine step_store none (by kernel_rfl) (by kernel_rfl) 27 (.tmp 5) (.tmp 26) rfl g5 (by kernel_rfl) 27 Z V HZ5.1 (by kernel_rfl) ZV.out SV.out OV.out ?_
      intro w41 hkw41 hsw41 hbw41 how41
      have ex42 : Fx [.blk g5 27 V] w41 := ⟨hkw41.out, trivial⟩
      refine hK.out _ _ (hH.store HZ5.1 ⟨Nat.ne_of_lt h25, Nat.le_trans h02 (Nat.le_of_lt h25), trivial⟩ hsw41.out hbw41 how41) (fun hw41 => ?_)
      clear hK K
      try simp only [Act.put, List.setIfInBounds_toArray, List.set_cons_zero, List.set_cons_succ]
      refine held_v 3 (some 6) rfl (by kernel_rfl) (by kernel_rfl) (by kernel_rfl) (by kernel_rfl) (fun c a v w h => HQ2.out c a _ v w h) (by kernel_rfl) (.int .i64 8) (fun W h => by kernel_rfl) hw41 ?_
      try simp only [Act.put, List.setIfInBounds_toArray, List.set_cons_zero, List.set_cons_succ]
      refine wpAnyH_done (by kernel_rfl) ?_ _
      refine HQ1.out _ _ ?_
      clear HQ1 HQ2
      go_wp2_with (refine bodyPost_mid 4 5 6 27 rfl g5 rfl (.int .u64 0) (.int .i64 8) rfl rfl 27 V ex42.1 _ Tryd.underlying27 rfl SV.out rfl ?_)
      exact HEND.out _ hw41.2.1
    · have hle : (K : Int) ≤ lf := by omega
      have hE : takeE s (K : Int) = 0 := by unfold takeE; rw [if_pos ⟨hr, kk0, kk1⟩, hlf, if_pos hle]
      have hat : s.at_ + lf < 18446744073709551616 := by
        rcases rightS_end hr with h | h
        · rw [hlf] at h; exact h.1
        · exact absurd ok h
      have a0 := ok.a0
      have hnum : takeV s (K : Int) = numS s s.at_ K := by unfold takeV; rw [if_pos hE, Int.toNat_natCast]
      have hsrc : takeS s (K : Int) = s.to (s.at_ + K) := by unfold takeS; rw [if_pos hE]
      have HIN := Lib.hid (fun i => numS_in s s.at_ i)
      have HNX := Lib.hid (fun i => numS_succ s s.at_ i)
      have HPW := Lib.hid (fun (i : Nat) (h : i ≤ 63) => pow2_le i h)
      have hkd : s.kind = 2 ∨ s.at_ + (K : Int) ≤ 8 * (s.tape.length : Int) := by
        unfold leftS at hlf
        rw [if_pos hr] at hlf
        unfold rightS at hr
        split at hr
        · rename_i h1
          rw [if_pos h1] at hlf
          simp at hr
          exact .inr (by omega)
        · simp at hr
          exact .inl hr.1
      have hbi : ∀ (i : Nat), i < K → ∀ W : World, Rd .u8 W W.heap.size A s.tape.length s.tape → Calls Tryd.prog 29 #[.agg (srcV (s.to (s.at_ + i)) A c), .int .u64 (s.at_ + i)] W fun e w' => e = .returned (.int .u64 (bitS s (s.at_ + i))) ∧ Below W.heap.size W w' := fun i h W h2 => rsbit_c (s.to (s.at_ + i)) (ok.to_ _ (by omega) (by omega)) (s.at_ + i) (by omega) (by omega) (by rcases hkd with h3 | h3; exact .inl h3; exact .inr (show s.at_ + (i : Int) < 8 * (s.tape.length : Int) by omega)) A c W h2
      have HBI := Lib.hid hbi
      have HST := Lib.hid (fun (i : Nat) (h : i < K) => srcV_set (s.to (s.at_ + i)) ok.sl A c (s.at_ + i + 1))
      have HC6 := Lib.hid (fun (W : World) (g i : Nat) (h : Blk W g 27 (srcV (s.to (s.at_ + i)) A c)) => (h.cell 36).trans (srcV_at (s.to (s.at_ + i)) ok.sl A c))
      have HSZ := Lib.hid (fun (i : Nat) => sizedS (s.to (s.at_ + i)) ok.sl A c)
      have HSZ2 := Lib.hid (fun (i : Nat) => srcV_size (s.to (s.at_ + i)) ok.sl A c)
      have HS0 := Lib.hid (show srcV (s.to (s.at_ + ((0 : Nat) : Int))) A c = srcV s A c by rw [Int.natCast_zero, Int.add_zero]; rfl)
      have SVK := Lib.hid (sizedS (s.to (s.at_ + K)) ok.sl A c)
      have OVK := Lib.hid (srcV_ones (s.to (s.at_ + K)) A c)
      have ZVK := Lib.hid (srcV_same Src.zero (s.to (s.at_ + K)) rfl ok.sl none A 0 c)
      have HEND : Hid (∀ w', Below w.heap.size w w' → RetTake w s (K : Int) A (.returned (.tuple #[.int .u64 (numS s s.at_ K), .agg (srcV (s.to (s.at_ + K)) A c), .int .i64 0])) w') := Lib.hid (fun w' hb => ⟨A, c, by rw [hnum, hsrc, hE], (hRd.out.below hb).mono hb.size, hc, hcm, .inl rfl, hb⟩)
      rw [hZ] at ZVK
      obtain ⟨V, hV⟩ : ∃ V, srcV s A c = V := ⟨_, rfl⟩
      rw [hV] at HRT HLT SV OV ZV HS0
      rw [hV]
      have HRS := Lib.hid (show Rd .u8 w w.heap.size A s.tape.length s.tape from hrd)
      obtain ⟨n0, hn0⟩ : ∃ x, s.at_ = x := ⟨_, rfl⟩
      clear hZ hV hE hbad hrd hlf hnum hsrc hkd hr hbi
      go_enter Tryd.func20, Tryd.ntmps20
      go_wp2_with (first
        | (with_reducible refine at_any ?_; refine at_dst 2 rfl ?_; refine wpList_box_any rfl 27 (.tmp 0) rfl V rfl ?_; intro w1 hk1 hs1 hb1)
        | (with_reducible refine at_any ?_; refine at_dst 5 rfl ?_; refine wpList_alloc_any rfl 27 rfl Z HZ0.out ?_; intro w2 hk2 hs2 hb2; have k2 := Lib.hid (hk1.out.below hb2 hk1.out.lt); have bl2 := Lib.hid (hb1.trans (hb2.mono hb1.size)))
        | (with_reducible refine at_any ?_; refine at_dst 9 rfl ?_; refine wpList_load_blk rfl 27 (.tmp 2) rfl w.heap.size rfl 27 V k2.out _ Tryd.underlying27 rfl SV.out ?_)
        | (go_at_call 19; (with_reducible refine (HRT.out _).mono ?_); rintro e wy ⟨rfl, hby⟩; have k2y := Lib.hid (k2.out.below hby k2.out.lt); have bly := Lib.hid (bl2.out.trans (hby.mono bl2.out.size)))
        | (with_reducible refine at_any ?_; refine at_dst 23 rfl ?_; refine wpList_load_blk rfl 27 (.tmp 2) rfl w.heap.size rfl 27 V k2y.out _ Tryd.underlying27 rfl SV.out ?_)
        | (go_at_call 28; (with_reducible refine (HLT.out _).mono ?_); rintro e wz ⟨rfl, hbz⟩))
      have HB2 : Src2 w w.heap.size w1.heap.size V Z wz := ⟨(hk2.out.below hby hk2.out.lt).below hbz (hk2.out.below hby hk2.out.lt).lt, k2y.out.below hbz k2y.out.lt, bly.out.trans (hbz.mono bly.out.size), trivial⟩
      have h25 : w.heap.size < w1.heap.size := by rw [hs1.out]; omega
      obtain ⟨g2, hg2⟩ : ∃ g, w.heap.size = g := ⟨_, rfl⟩
      obtain ⟨g5, hg5⟩ : ∃ g, w1.heap.size = g := ⟨_, rfl⟩
      have h02 : w.heap.size ≤ g2 := by omega
      rw [hg2, hg5] at HB2 h25
      rw [hg2, hg5]
      clear hg2 hg5 hk1 hs1 hb1 hk2 hs2 hb2 k2 bl2 hbz hby k2y bly
      go_loopw [7, 8] (fun v cc wr => ∃ i : Nat, i ≤ K ∧ v = .int .u64 (numS s s.at_ i) ∧ cc = .int .i64 i ∧ Src2 w g2 g5 (srcV (s.to (s.at_ + i)) A c) Z wr) (fun _ cc _ => K - (intOf cc).toNat)
      case atStart => exact ⟨0, by omega, rfl, rfl, by rw [HS0.out]; exact HB2⟩
      case round =>
        clear HB2
        obtain ⟨i, hi, rfl, rfl, hF⟩ := hrel
        by_cases hlt : i < K
        · obtain ⟨x0, x1⟩ := HIN.out i
          have hnx := HNX.out i
          have hpw := HPW.out i (by omega)
          obtain ⟨b0, b1⟩ := bitS_in s (s.at_ + i)
          have c6 := HC6.out _ _ i hF.fst
          change _ = some (Value.int .u64 (s.at_ + i)) at c6
          have HBI1 := Lib.hid (fun W h2 => HBI.out i hlt W h2)
          have HS1 := Lib.hid (HSZ.out i)
          have HS2 := Lib.hid (HSZ2.out i)
          have HS3 := Lib.hid (HST.out i hlt)
          have HCI := Lib.hid (fun W g h => HC6.out W g i h)
          have nb : s.at_ + (i : Int) + 1 < 18446744073709551616 := by omega
          have n00 : 0 ≤ s.at_ + (i : Int) := by omega
          have HN1 := Lib.hid (show s.at_ + (i : Int) + 1 = s.at_ + ((i + 1 : Nat) : Int) by omega)
          obtain ⟨Vi, hVi⟩ : ∃ V, srcV (s.to (s.at_ + i)) A c = V := ⟨_, rfl⟩
          rw [hVi] at hF HBI1 HS1 HS2 HS3 HCI
          change Hid (∀ (W : World) (g : Nat), Blk W g 27 Vi → W.cell? ⟨g, 36, none⟩ = some (.int .u64 (s.at_ + i))) at HCI
          obtain ⟨X, hX⟩ : ∃ x, numS s s.at_ i = x := ⟨_, rfl⟩
          obtain ⟨b, hb⟩ : ∃ x, bitS s (s.at_ + i) = x := ⟨_, rfl⟩
          obtain ⟨N, hN⟩ : ∃ x, s.at_ + (i : Int) = x := ⟨_, rfl⟩
          rw [hX, hb] at hnx
          rw [hX] at x0 x1
          rw [hb] at b0 b1 HBI1
          rw [hN] at c6 HBI1 HS3 HCI nb n00 HN1
          rw [hX]
          have HNXi := Lib.hid hnx
          have HF := Lib.hid hF
          have e4 : IntKind.u64.wrap (2 * X) = 2 * X := by rw [IntKind.wrap_u64]; omega
          have e5 : IntKind.u64.wrap (2 * X + b) = 2 * X + b := by rw [IntKind.wrap_u64]; omega
          have e6 : IntKind.u64.wrap (N + 1) = N + 1 := by rw [IntKind.wrap_u64]; omega
          clear hnx hVi hX hb hN hF hpw
          go_wp2_with (first
            | (with_reducible refine at_any ?_; refine at_dst 34 rfl ?_; refine wpList_load_blk rfl 27 (.tmp 2) rfl g2 rfl 27 Vi HF.out.fst _ Tryd.underlying27 rfl HS1.out ?_)
            | (go_at_call 29; (with_reducible refine (HBI1.out _ ((HRS.out.below HF.out.bel).mono HF.out.bel.size)).mono ?_); rintro e w5 ⟨rfl, hb5⟩; have F5 := Lib.hid (HF.out.below hb5); have c7 := HCI.out _ _ F5.out.fst; clear hb5)
            | (with_reducible refine at_any ?_; refine at_store 42 rfl ?_; refine wpList_store_cell rfl 23 (.tmp 42) (.tmp 41) rfl g2 36 rfl 27 Vi F5.out.fst (.int .u64 (N + 1)) rfl (by rw [HS2.out]; omega) size_u64s rfl rfl ?_; intro w9 hk9 ho9; have K9 := Lib.hid hk9.out; rw [HS3.out] at K9; have F9 := Lib.hid (F5.out.only h02 h25 K9.out ho9); clear hk9 ho9 K9))
          go_roundw
          case rel => exact ⟨i + 1, by omega, by rw [HNXi.out], by go_num, by have h := F9.out; rw [HN1.out] at h; exact h⟩
          case measure => simp [intOf]; omega
        · obtain rfl : i = K := by omega
          have HB2 : Src2 w g2 g5 (srcV (s.to (s.at_ + i)) A c) Z wr := hF
          have SV := Lib.hid SVK.out
          have OV := Lib.hid OVK.out
          have ZV := Lib.hid ZVK.out
          have HE2 := Lib.hid HEND.out
          obtain ⟨X, hX⟩ : ∃ x, numS s s.at_ i = x := ⟨_, rfl⟩
          obtain ⟨V, hV⟩ : ∃ V, srcV (s.to (s.at_ + i)) A c = V := ⟨_, rfl⟩
          rw [hV] at HB2 SV OV ZV HE2
          rw [hX] at HE2
          rw [hX]
          have HEND := Lib.hid HE2.out
          clear hF hX hV HIN HNX HPW HBI HST HC6 HSZ HSZ2 SVK OVK ZVK
          go_wp2_with fail
          have hS := HB2.keep.drew
          have HZ5 := HB2.old.drew
          refine wp_region_held_drew (S := (Fx [.blk g2 27 V, .bel w])) (by kernel_rfl) hS (fun hH => ?_)
          refine wpAnyH_letter #[false, false, false, false, false] (by kernel_rfl) (fun _ _ d _ _ h => by cases d <;> exact h) (fun QL HQ1 HQ2 => ?_)
          refine held_v 0 (some 43) rfl (by kernel_rfl) (by kernel_rfl) (by kernel_rfl) (by kernel_rfl) (fun c a v w h => HQ2.out c a _ v w h) (by kernel_rfl) (.int .u64 X) (fun W h => by kernel_rfl) hH ?_
          try simp only [Act.put, List.setIfInBounds_toArray, List.set_cons_zero, List.set_cons_succ]
          refine held_row 1 (some 44) rfl (by kernel_rfl) (by kernel_rfl) (by kernel_rfl) (by kernel_rfl) (fun c a v w h => HQ2.out c a _ v w h) (by kernel_rfl) 27 (.tmp 2) rfl g2 (by kernel_rfl) 27 V (fun _ h => h.1) _ Tryd.underlying27 rfl SV.out hH ?_
          try simp only [Act.put, List.setIfInBounds_toArray, List.set_cons_zero, List.set_cons_succ]
          refine held_v 2 (some 4) rfl (by kernel_rfl) (by kernel_rfl) (by kernel_rfl) (by kernel_rfl) (fun c a v w h => HQ2.out c a _ v w h) (by kernel_rfl) (.int .u64 X) (fun W h => by kernel_rfl) hH ?_
          try simp only [Act.put, List.setIfInBounds_toArray, List.set_cons_zero, List.set_cons_succ]
          refine wpAnyH_ready (rs := [3]) (by kernel_rfl) (by decide) ?_
          refine AllReadyH.cons rfl (fun K hK => ?_) AllReadyH.nil
          refine step_store none (by kernel_rfl) (by kernel_rfl) 27 (.tmp 5) (.tmp 44) rfl g5 (by kernel_rfl) 27 Z V HZ5.1 (by kernel_rfl) ZV.out SV.out OV.out ?_
          intro w41 hkw41 hsw41 hbw41 how41
          have ex42 : Fx [.blk g5 27 V] w41 := ⟨hkw41.out, trivial⟩
          refine hK.out _ _ (hH.store HZ5.1 ⟨Nat.ne_of_lt h25, Nat.le_trans h02 (Nat.le_of_lt h25), trivial⟩ hsw41.out hbw41 how41) (fun hw41 => ?_)
          clear hK K
          try simp only [Act.put, List.setIfInBounds_toArray, List.set_cons_zero, List.set_cons_succ]
          refine held_v 4 (some 6) rfl (by kernel_rfl) (by kernel_rfl) (by kernel_rfl) (by kernel_rfl) (fun c a v w h => HQ2.out c a _ v w h) (by kernel_rfl) (.int .i64 0) (fun W h => by kernel_rfl) hw41 ?_
          try simp only [Act.put, List.setIfInBounds_toArray, List.set_cons_zero, List.set_cons_succ]
          refine wpAnyH_done (by kernel_rfl) ?_ _
          refine HQ1.out _ _ ?_
          clear HQ1 HQ2
          go_wp2_with (refine bodyPost_mid 4 5 6 27 rfl g5 rfl (.int .u64 X) (.int .i64 0) rfl rfl 27 V ex42.1 _ Tryd.underlying27 rfl SV.out rfl ?_)
          exact HEND.out _ hw41.2.1
set_option maxHeartbeats 1000000 in
theorem rstape_c (zs : List Int) (hzl : zs.length ≤ 1000000) (b : Int) (b0 : 0 ≤ b) (b1 : b < 18446744073709551616) (A : Option Addr) (n c : Nat) (w : World) (hrd : Rd .u8 w w.heap.size A n zs) (hnc : n ≤ c) : Calls Tryd.prog 14 #[.slice A n c, .int .u64 b] w (RetTape w zs b) := by
  obtain ⟨i0, hi, hz0, hz1, hzb⟩ := info_parts info_u8'
  have hl := hrd.len
  have e1 : IntKind.u64.wrap (8 * (n : Int)) = 8 * n := by rw [IntKind.wrap_u64]; omega
  have HZ0 := Lib.hid zero_src
  have SZ := Lib.hid (sizedS Src.zero rfl none 0)
  have OZ := Lib.hid (srcV_ones Src.zero none 0)
  have HB0 := Lib.hid (fun (a : Act) (o : Oper) W h => build_src0 (a := a) (o := o) W h)
  have hR : RetTape w zs b = if b ≤ 8 * (zs.length : Int) then (fun e w' => ∃ A' c', e = .returned (.tuple #[.agg (srcV (Src.tapeOf zs b) A' c'), .int .i64 0]) ∧ Rd .u8 w' w'.heap.size A' zs.length zs ∧ zs.length ≤ c' ∧ c' ≤ maxLen ∧ Below w.heap.size w w') else (fun e w' => e = .returned (.tuple #[.agg (srcV Src.zero none 0), .int .i64 1]) ∧ Below w.heap.size w w') := by
    funext e w'
    unfold RetTape
    split <;> rfl
  rw [hR]
  obtain ⟨Z, hZ⟩ : ∃ Z, srcV Src.zero none 0 = Z := ⟨_, rfl⟩
  rw [hZ] at HZ0 SZ OZ HB0
  rw [hZ]
  by_cases hbig : b ≤ 8 * (zs.length : Int)
  · rw [if_pos hbig]
    have hT := Lib.hid (fun (A' : Option Addr) (c' : Nat) => sizedS (Src.tapeOf zs b) (by rfl) A' c')
    have OT := Lib.hid (fun (A' : Option Addr) (c' : Nat) => srcV_ones (Src.tapeOf zs b) A' c')
    have ZT := Lib.hid (fun (A' : Option Addr) (c' : Nat) => srcV_same Src.zero (Src.tapeOf zs b) rfl (by rfl) none A' 0 c')
    have BT := Lib.hid (fun (a : Act) (o : Oper) (x y z : Operand) (W : World) (A' : Option Addr) (c' : Nat) h1 h2 (h3 : a.eval y = .slice A' n c') h4 => build_src1 (a := a) (o := o) (x := x) (y := y) (z := z) W A' c' zs b h1 h2 (by rw [hl]; exact h3) h4)
    rw [hZ] at ZT
    rw [hl] at hbig ⊢
    have HRD := Lib.hid hrd
    have HLZ := Lib.hid hl
    have hn : n ≤ 1000000 := by omega
    clear hZ hR hrd hl hzl
    go_enter Tryd.func14, Tryd.ntmps14
    go_wp2_with (first
      | (with_reducible refine at_any ?_; refine at_dst 4 rfl ?_; refine wpList_alloc_any rfl 27 rfl Z HZ0.out ?_; intro w1 hk1 hs1 hb1)
      | (at_builtin; refine wpList_append_ints _ rfl (.tmp 13) (.tmp 14) 22 rfl w.heap.size 5 i0 _ 1 .u8 Tryd.underlying22 hi hz0 hz1 hzb rfl _ [] rfl (own_empty w1 5 .u8 hb1.size) w.heap.size A n c zs rfl ((HRD.out.below hb1).alloc hb1.size _) (by simp [maxLen]; omega) (by simp; omega) (by have := hb1.size; simp; omega) ?_; intro v2 w2 hown2 hg2 hat2; have hb2 : Below w.heap.size w w2 := (own_empty w1 5 .u8 hb1.size).below_ (hb1.alloc hb1.size _) (by have := hb1.size; simp; omega) hg2; have hk2 : Blk w2 w.heap.size 27 Z := Blk.grown (hk1.out.alloc _) (own_empty w1 5 .u8 hb1.size) (by decide) hg2; simp only [List.nil_append] at hown2; obtain ⟨A2, c2, rfl, hc2, hm2⟩ := hown2.form; rw [HLZ.out] at hown2 hc2 ⊢; clear hg2 hat2)
      | (with_reducible refine at_any ?_; refine at_dst 17 rfl ?_; refine wpList_val rfl (.agg (srcV (Src.tapeOf zs b) A2 c2)) (BT.out _ _ _ _ _ _ A2 c2 rfl rfl rfl rfl) ?_)
      | (with_reducible refine at_any ?_; refine at_store 4 rfl ?_; refine wpList_store_any rfl 27 (.tmp 4) (.tmp 17) rfl w.heap.size rfl 27 Z (srcV (Src.tapeOf zs b) A2 c2) hk2 rfl (ZT.out _ _) (hT.out _ _) (OT.out _ _) ?_; intro w3 hk3 hs3 hb3 ho3)
      | (refine bodyPost_any2 4 5 27 rfl w.heap.size rfl (.int .i64 0) rfl 27 (srcV (Src.tapeOf zs b) A2 c2) hk3.out _ Tryd.underlying27 rfl (hT.out _ _) rfl ?_))
    exact ⟨A2, c2, rfl, ((hown2.rd HLZ.out).other ho3 (hown2.apart hk2 (by decide))).fit, hc2, hm2, hb2.trans (hb3 _ (Nat.le_refl _))⟩
  · rw [if_neg hbig]
    rw [hl] at hbig
    clear hZ hR hrd hl
    go_enter Tryd.func14, Tryd.ntmps14
    go_wp2_with (first
      | (with_reducible refine at_any ?_; refine at_dst 4 rfl ?_; refine wpList_alloc_any rfl 27 rfl Z HZ0.out ?_; intro w1 hk1 hs1 hb1)
      | (with_reducible refine at_any ?_; refine at_dst 12 rfl ?_; refine wpList_val rfl (.agg Z) (HB0.out _ _ _ rfl) ?_)
      | (with_reducible refine at_any ?_; refine at_store 4 rfl ?_; refine wpList_store_any rfl 27 (.tmp 4) (.tmp 12) rfl w.heap.size rfl 27 Z Z hk1.out rfl rfl SZ.out OZ.out ?_; intro w3 hk3 hs3 hb3 ho3)
      | (refine bodyPost_any2 4 5 27 rfl w.heap.size rfl (.int .i64 1) rfl 27 Z hk3.out _ Tryd.underlying27 rfl SZ.out rfl ?_))
    exact hb1.trans (hb3 _ (Nat.le_refl _))
set_option maxHeartbeats 4000000 in
theorem rssame_c (a b : Src) (oka : a.Ok) (okb : b.Ok) (A B : Option Addr) (c d : Nat) (w : World) (hra : Rd .u8 w w.heap.size A a.tape.length a.tape) (hrb : Rd .u8 w w.heap.size B b.tape.length b.tape) : Calls Tryd.prog 10 #[.agg (srcV a A c), .agg (srcV b B d)] w fun e w' => e = .returned (.bool (sameS a b)) ∧ Below w.heap.size w w' := by
  have HA := Lib.hid (fun (W : World) (g : Nat) (h : Blk W g 27 (srcV a A c)) => And.intro ((h.cell 0).trans (srcV_kind a A c)) (And.intro ((h.cell 1).trans (srcV_tape a A c)) (And.intro ((h.cell 2).trans (srcV_bits a A c)) (And.intro ((h.cell 35).trans (srcV_dom a oka.sl A c)) (And.intro ((h.cell 36).trans (srcV_at a oka.sl A c)) (srcV_seed h))))))
  have HB := Lib.hid (fun (W : World) (g : Nat) (h : Blk W g 27 (srcV b B d)) => And.intro ((h.cell 0).trans (srcV_kind b B d)) (And.intro ((h.cell 1).trans (srcV_tape b B d)) (And.intro ((h.cell 2).trans (srcV_bits b B d)) (And.intro ((h.cell 35).trans (srcV_dom b okb.sl B d)) (And.intro ((h.cell 36).trans (srcV_at b okb.sl B d)) (srcV_seed h))))))
  have SA := Lib.hid (show (Tryd.prog.info? 25).map (·.size) = some a.seed.length by rw [oka.sl]; exact size_hash)
  have SB := Lib.hid (show (Tryd.prog.info? 25).map (·.size) = some b.seed.length by rw [okb.sl]; exact size_hash)
  have HRA := Lib.hid hra
  have HRB := Lib.hid hrb
  by_cases h0 : a.kind = b.kind
  · by_cases h1 : a.tape = b.tape
    · by_cases h2 : a.bits = b.bits
      · by_cases h3 : a.seed = b.seed
        · by_cases h4 : a.dom = b.dom
          · by_cases h5 : a.at_ = b.at_
            · have HR : Hid (sameS a b = true) := Lib.hid (by unfold sameS; rw [decide_eq_true h0, decide_eq_true h1, decide_eq_true h2, decide_eq_true h3, decide_eq_true h4, decide_eq_true h5]; simp)
              have t0 : (a.kind == b.kind) = true := by rw [beq_iff_eq]; exact h0
              have t1 : ((strB a.tape).toList == (strB b.tape).toList) = true := by rw [beq_iff_eq, h1]
              have t2 : (a.bits == b.bits) = true := by rw [beq_iff_eq]; exact h2
              have HSE := Lib.hid (fun W => (show (Op.equalIn 10000 25 (.agg (intsA .u8 a.seed)) (.agg (intsA .u8 b.seed))).run Tryd.prog W = .ok true W by rw [eq_hash a.seed b.seed oka.sl okb.sl, decide_eq_true h3]))
              have t4 : (a.dom == b.dom) = true := by rw [beq_iff_eq]; exact h4
              have t5 : (a.at_ == b.at_) = true := by rw [beq_iff_eq]; exact h5
              have t3 := HSE.out
              clear HSE
              obtain ⟨Va, hVa⟩ : ∃ V, srcV a A c = V := ⟨_, rfl⟩
              obtain ⟨Vb, hVb⟩ : ∃ V, srcV b B d = V := ⟨_, rfl⟩
              rw [hVa] at HA
              rw [hVb] at HB
              rw [hVa, hVb]
              clear hVa hVb hra hrb h0 h1 h2 h3 h4 h5
              obtain ⟨a_kind, ha_kind⟩ : ∃ x, a.kind = x := ⟨_, rfl⟩
              obtain ⟨b_kind, hb_kind⟩ : ∃ x, b.kind = x := ⟨_, rfl⟩
              obtain ⟨a_bits, ha_bits⟩ : ∃ x, a.bits = x := ⟨_, rfl⟩
              obtain ⟨b_bits, hb_bits⟩ : ∃ x, b.bits = x := ⟨_, rfl⟩
              obtain ⟨a_dom, ha_dom⟩ : ∃ x, a.dom = x := ⟨_, rfl⟩
              obtain ⟨b_dom, hb_dom⟩ : ∃ x, b.dom = x := ⟨_, rfl⟩
              obtain ⟨a_at_, ha_at_⟩ : ∃ x, a.at_ = x := ⟨_, rfl⟩
              obtain ⟨b_at_, hb_at_⟩ : ∃ x, b.at_ = x := ⟨_, rfl⟩
              rw [ha_kind, ha_bits, ha_dom, ha_at_] at HA
              rw [hb_kind, hb_bits, hb_dom, hb_at_] at HB
              rw [ha_kind, hb_kind] at t0
              rw [ha_bits, hb_bits] at t2
              rw [ha_dom, hb_dom] at t4
              rw [ha_at_, hb_at_] at t5
              clear ha_kind ha_bits ha_dom ha_at_ hb_kind hb_bits hb_dom hb_at_
              go_enter Tryd.func10, Tryd.ntmps10
              go_wp2_with (first
                | (with_reducible refine at_any ?_; refine at_dst 2 rfl ?_; refine wpList_box_any rfl 27 (.tmp 0) rfl Va rfl ?_; intro w1 hk1 hs1 hb1)
                | (with_reducible refine at_any ?_; refine at_dst 3 rfl ?_; refine wpList_box_any rfl 27 (.tmp 1) rfl Vb rfl ?_; intro w2 hk2 hs2 hb2; have ka := Lib.hid (hk1.out.below hb2 hk1.out.lt); have bl := Lib.hid (hb1.trans (hb2.mono hb1.size)); have ca0 := (HA.out _ _ ka.out).1; have ca1 := (HA.out _ _ ka.out).2.1; have ca2 := (HA.out _ _ ka.out).2.2.1; have ca4 := (HA.out _ _ ka.out).2.2.2.1; have ca5 := (HA.out _ _ ka.out).2.2.2.2.1; have cb0 := (HB.out _ _ hk2.out).1; have cb1 := (HB.out _ _ hk2.out).2.1; have cb2 := (HB.out _ _ hk2.out).2.2.1; have cb4 := (HB.out _ _ hk2.out).2.2.2.1; have cb5 := (HB.out _ _ hk2.out).2.2.2.2.1; have xa := str_rd5 (c := c) (HRA.out.below bl.out); have xb := str_rd5 (c := d) (HRB.out.below bl.out))
                | (with_reducible refine at_any ?_; refine at_dst 28 rfl ?_; refine wpList_load_gdo (by kernel_rfl) 25 (.tmp 27) rfl w.heap.size 3 rfl .u8 a.seed (HA.out _ _ ka.out).2.2.2.2.2 _ Tryd.underlying25 rfl SA.out ?_)
                | (with_reducible refine at_any ?_; refine at_dst 30 rfl ?_; refine wpList_load_gdo (by kernel_rfl) 25 (.tmp 29) rfl w1.heap.size 3 rfl .u8 b.seed (HB.out _ _ hk2.out).2.2.2.2.2 _ Tryd.underlying25 rfl SB.out ?_))
              go_ret
              exact ⟨by rw [HR.out]; rfl, bl.out⟩
            · have HR : Hid (sameS a b = false) := Lib.hid (by unfold sameS; rw [decide_eq_true h0, decide_eq_true h1, decide_eq_true h2, decide_eq_true h3, decide_eq_true h4, decide_eq_false h5]; simp)
              have t0 : (a.kind == b.kind) = true := by rw [beq_iff_eq]; exact h0
              have t1 : ((strB a.tape).toList == (strB b.tape).toList) = true := by rw [beq_iff_eq, h1]
              have t2 : (a.bits == b.bits) = true := by rw [beq_iff_eq]; exact h2
              have HSE := Lib.hid (fun W => (show (Op.equalIn 10000 25 (.agg (intsA .u8 a.seed)) (.agg (intsA .u8 b.seed))).run Tryd.prog W = .ok true W by rw [eq_hash a.seed b.seed oka.sl okb.sl, decide_eq_true h3]))
              have t4 : (a.dom == b.dom) = true := by rw [beq_iff_eq]; exact h4
              have t5 : (a.at_ == b.at_) = false := by rw [beq_eq_false_iff_ne]; exact h5
              have t3 := HSE.out
              clear HSE
              obtain ⟨Va, hVa⟩ : ∃ V, srcV a A c = V := ⟨_, rfl⟩
              obtain ⟨Vb, hVb⟩ : ∃ V, srcV b B d = V := ⟨_, rfl⟩
              rw [hVa] at HA
              rw [hVb] at HB
              rw [hVa, hVb]
              clear hVa hVb hra hrb h0 h1 h2 h3 h4 h5
              obtain ⟨a_kind, ha_kind⟩ : ∃ x, a.kind = x := ⟨_, rfl⟩
              obtain ⟨b_kind, hb_kind⟩ : ∃ x, b.kind = x := ⟨_, rfl⟩
              obtain ⟨a_bits, ha_bits⟩ : ∃ x, a.bits = x := ⟨_, rfl⟩
              obtain ⟨b_bits, hb_bits⟩ : ∃ x, b.bits = x := ⟨_, rfl⟩
              obtain ⟨a_dom, ha_dom⟩ : ∃ x, a.dom = x := ⟨_, rfl⟩
              obtain ⟨b_dom, hb_dom⟩ : ∃ x, b.dom = x := ⟨_, rfl⟩
              obtain ⟨a_at_, ha_at_⟩ : ∃ x, a.at_ = x := ⟨_, rfl⟩
              obtain ⟨b_at_, hb_at_⟩ : ∃ x, b.at_ = x := ⟨_, rfl⟩
              rw [ha_kind, ha_bits, ha_dom, ha_at_] at HA
              rw [hb_kind, hb_bits, hb_dom, hb_at_] at HB
              rw [ha_kind, hb_kind] at t0
              rw [ha_bits, hb_bits] at t2
              rw [ha_dom, hb_dom] at t4
              rw [ha_at_, hb_at_] at t5
              clear ha_kind ha_bits ha_dom ha_at_ hb_kind hb_bits hb_dom hb_at_
              go_enter Tryd.func10, Tryd.ntmps10
              go_wp2_with (first
                | (with_reducible refine at_any ?_; refine at_dst 2 rfl ?_; refine wpList_box_any rfl 27 (.tmp 0) rfl Va rfl ?_; intro w1 hk1 hs1 hb1)
                | (with_reducible refine at_any ?_; refine at_dst 3 rfl ?_; refine wpList_box_any rfl 27 (.tmp 1) rfl Vb rfl ?_; intro w2 hk2 hs2 hb2; have ka := Lib.hid (hk1.out.below hb2 hk1.out.lt); have bl := Lib.hid (hb1.trans (hb2.mono hb1.size)); have ca0 := (HA.out _ _ ka.out).1; have ca1 := (HA.out _ _ ka.out).2.1; have ca2 := (HA.out _ _ ka.out).2.2.1; have ca4 := (HA.out _ _ ka.out).2.2.2.1; have ca5 := (HA.out _ _ ka.out).2.2.2.2.1; have cb0 := (HB.out _ _ hk2.out).1; have cb1 := (HB.out _ _ hk2.out).2.1; have cb2 := (HB.out _ _ hk2.out).2.2.1; have cb4 := (HB.out _ _ hk2.out).2.2.2.1; have cb5 := (HB.out _ _ hk2.out).2.2.2.2.1; have xa := str_rd5 (c := c) (HRA.out.below bl.out); have xb := str_rd5 (c := d) (HRB.out.below bl.out))
                | (with_reducible refine at_any ?_; refine at_dst 28 rfl ?_; refine wpList_load_gdo (by kernel_rfl) 25 (.tmp 27) rfl w.heap.size 3 rfl .u8 a.seed (HA.out _ _ ka.out).2.2.2.2.2 _ Tryd.underlying25 rfl SA.out ?_)
                | (with_reducible refine at_any ?_; refine at_dst 30 rfl ?_; refine wpList_load_gdo (by kernel_rfl) 25 (.tmp 29) rfl w1.heap.size 3 rfl .u8 b.seed (HB.out _ _ hk2.out).2.2.2.2.2 _ Tryd.underlying25 rfl SB.out ?_))
              go_ret
              exact ⟨by rw [HR.out]; rfl, bl.out⟩
          · have HR : Hid (sameS a b = false) := Lib.hid (by unfold sameS; rw [decide_eq_true h0, decide_eq_true h1, decide_eq_true h2, decide_eq_true h3, decide_eq_false h4]; simp)
            have t0 : (a.kind == b.kind) = true := by rw [beq_iff_eq]; exact h0
            have t1 : ((strB a.tape).toList == (strB b.tape).toList) = true := by rw [beq_iff_eq, h1]
            have t2 : (a.bits == b.bits) = true := by rw [beq_iff_eq]; exact h2
            have HSE := Lib.hid (fun W => (show (Op.equalIn 10000 25 (.agg (intsA .u8 a.seed)) (.agg (intsA .u8 b.seed))).run Tryd.prog W = .ok true W by rw [eq_hash a.seed b.seed oka.sl okb.sl, decide_eq_true h3]))
            have t4 : (a.dom == b.dom) = false := by rw [beq_eq_false_iff_ne]; exact h4
            have t3 := HSE.out
            clear HSE
            obtain ⟨Va, hVa⟩ : ∃ V, srcV a A c = V := ⟨_, rfl⟩
            obtain ⟨Vb, hVb⟩ : ∃ V, srcV b B d = V := ⟨_, rfl⟩
            rw [hVa] at HA
            rw [hVb] at HB
            rw [hVa, hVb]
            clear hVa hVb hra hrb h0 h1 h2 h3 h4
            obtain ⟨a_kind, ha_kind⟩ : ∃ x, a.kind = x := ⟨_, rfl⟩
            obtain ⟨b_kind, hb_kind⟩ : ∃ x, b.kind = x := ⟨_, rfl⟩
            obtain ⟨a_bits, ha_bits⟩ : ∃ x, a.bits = x := ⟨_, rfl⟩
            obtain ⟨b_bits, hb_bits⟩ : ∃ x, b.bits = x := ⟨_, rfl⟩
            obtain ⟨a_dom, ha_dom⟩ : ∃ x, a.dom = x := ⟨_, rfl⟩
            obtain ⟨b_dom, hb_dom⟩ : ∃ x, b.dom = x := ⟨_, rfl⟩
            obtain ⟨a_at_, ha_at_⟩ : ∃ x, a.at_ = x := ⟨_, rfl⟩
            obtain ⟨b_at_, hb_at_⟩ : ∃ x, b.at_ = x := ⟨_, rfl⟩
            rw [ha_kind, ha_bits, ha_dom, ha_at_] at HA
            rw [hb_kind, hb_bits, hb_dom, hb_at_] at HB
            rw [ha_kind, hb_kind] at t0
            rw [ha_bits, hb_bits] at t2
            rw [ha_dom, hb_dom] at t4
            clear ha_kind ha_bits ha_dom ha_at_ hb_kind hb_bits hb_dom hb_at_
            go_enter Tryd.func10, Tryd.ntmps10
            go_wp2_with (first
              | (with_reducible refine at_any ?_; refine at_dst 2 rfl ?_; refine wpList_box_any rfl 27 (.tmp 0) rfl Va rfl ?_; intro w1 hk1 hs1 hb1)
              | (with_reducible refine at_any ?_; refine at_dst 3 rfl ?_; refine wpList_box_any rfl 27 (.tmp 1) rfl Vb rfl ?_; intro w2 hk2 hs2 hb2; have ka := Lib.hid (hk1.out.below hb2 hk1.out.lt); have bl := Lib.hid (hb1.trans (hb2.mono hb1.size)); have ca0 := (HA.out _ _ ka.out).1; have ca1 := (HA.out _ _ ka.out).2.1; have ca2 := (HA.out _ _ ka.out).2.2.1; have ca4 := (HA.out _ _ ka.out).2.2.2.1; have ca5 := (HA.out _ _ ka.out).2.2.2.2.1; have cb0 := (HB.out _ _ hk2.out).1; have cb1 := (HB.out _ _ hk2.out).2.1; have cb2 := (HB.out _ _ hk2.out).2.2.1; have cb4 := (HB.out _ _ hk2.out).2.2.2.1; have cb5 := (HB.out _ _ hk2.out).2.2.2.2.1; have xa := str_rd5 (c := c) (HRA.out.below bl.out); have xb := str_rd5 (c := d) (HRB.out.below bl.out))
              | (with_reducible refine at_any ?_; refine at_dst 28 rfl ?_; refine wpList_load_gdo (by kernel_rfl) 25 (.tmp 27) rfl w.heap.size 3 rfl .u8 a.seed (HA.out _ _ ka.out).2.2.2.2.2 _ Tryd.underlying25 rfl SA.out ?_)
              | (with_reducible refine at_any ?_; refine at_dst 30 rfl ?_; refine wpList_load_gdo (by kernel_rfl) 25 (.tmp 29) rfl w1.heap.size 3 rfl .u8 b.seed (HB.out _ _ hk2.out).2.2.2.2.2 _ Tryd.underlying25 rfl SB.out ?_))
            go_ret
            exact ⟨by rw [HR.out]; rfl, bl.out⟩
        · have HR : Hid (sameS a b = false) := Lib.hid (by unfold sameS; rw [decide_eq_true h0, decide_eq_true h1, decide_eq_true h2, decide_eq_false h3]; simp)
          have t0 : (a.kind == b.kind) = true := by rw [beq_iff_eq]; exact h0
          have t1 : ((strB a.tape).toList == (strB b.tape).toList) = true := by rw [beq_iff_eq, h1]
          have t2 : (a.bits == b.bits) = true := by rw [beq_iff_eq]; exact h2
          have HSE := Lib.hid (fun W => (show (Op.equalIn 10000 25 (.agg (intsA .u8 a.seed)) (.agg (intsA .u8 b.seed))).run Tryd.prog W = .ok false W by rw [eq_hash a.seed b.seed oka.sl okb.sl, decide_eq_false h3]))
          have t3 := HSE.out
          clear HSE
          obtain ⟨Va, hVa⟩ : ∃ V, srcV a A c = V := ⟨_, rfl⟩
          obtain ⟨Vb, hVb⟩ : ∃ V, srcV b B d = V := ⟨_, rfl⟩
          rw [hVa] at HA
          rw [hVb] at HB
          rw [hVa, hVb]
          clear hVa hVb hra hrb h0 h1 h2 h3
          obtain ⟨a_kind, ha_kind⟩ : ∃ x, a.kind = x := ⟨_, rfl⟩
          obtain ⟨b_kind, hb_kind⟩ : ∃ x, b.kind = x := ⟨_, rfl⟩
          obtain ⟨a_bits, ha_bits⟩ : ∃ x, a.bits = x := ⟨_, rfl⟩
          obtain ⟨b_bits, hb_bits⟩ : ∃ x, b.bits = x := ⟨_, rfl⟩
          obtain ⟨a_dom, ha_dom⟩ : ∃ x, a.dom = x := ⟨_, rfl⟩
          obtain ⟨b_dom, hb_dom⟩ : ∃ x, b.dom = x := ⟨_, rfl⟩
          obtain ⟨a_at_, ha_at_⟩ : ∃ x, a.at_ = x := ⟨_, rfl⟩
          obtain ⟨b_at_, hb_at_⟩ : ∃ x, b.at_ = x := ⟨_, rfl⟩
          rw [ha_kind, ha_bits, ha_dom, ha_at_] at HA
          rw [hb_kind, hb_bits, hb_dom, hb_at_] at HB
          rw [ha_kind, hb_kind] at t0
          rw [ha_bits, hb_bits] at t2
          clear ha_kind ha_bits ha_dom ha_at_ hb_kind hb_bits hb_dom hb_at_
          go_enter Tryd.func10, Tryd.ntmps10
          go_wp2_with (first
            | (with_reducible refine at_any ?_; refine at_dst 2 rfl ?_; refine wpList_box_any rfl 27 (.tmp 0) rfl Va rfl ?_; intro w1 hk1 hs1 hb1)
            | (with_reducible refine at_any ?_; refine at_dst 3 rfl ?_; refine wpList_box_any rfl 27 (.tmp 1) rfl Vb rfl ?_; intro w2 hk2 hs2 hb2; have ka := Lib.hid (hk1.out.below hb2 hk1.out.lt); have bl := Lib.hid (hb1.trans (hb2.mono hb1.size)); have ca0 := (HA.out _ _ ka.out).1; have ca1 := (HA.out _ _ ka.out).2.1; have ca2 := (HA.out _ _ ka.out).2.2.1; have ca4 := (HA.out _ _ ka.out).2.2.2.1; have ca5 := (HA.out _ _ ka.out).2.2.2.2.1; have cb0 := (HB.out _ _ hk2.out).1; have cb1 := (HB.out _ _ hk2.out).2.1; have cb2 := (HB.out _ _ hk2.out).2.2.1; have cb4 := (HB.out _ _ hk2.out).2.2.2.1; have cb5 := (HB.out _ _ hk2.out).2.2.2.2.1; have xa := str_rd5 (c := c) (HRA.out.below bl.out); have xb := str_rd5 (c := d) (HRB.out.below bl.out))
            | (with_reducible refine at_any ?_; refine at_dst 28 rfl ?_; refine wpList_load_gdo (by kernel_rfl) 25 (.tmp 27) rfl w.heap.size 3 rfl .u8 a.seed (HA.out _ _ ka.out).2.2.2.2.2 _ Tryd.underlying25 rfl SA.out ?_)
            | (with_reducible refine at_any ?_; refine at_dst 30 rfl ?_; refine wpList_load_gdo (by kernel_rfl) 25 (.tmp 29) rfl w1.heap.size 3 rfl .u8 b.seed (HB.out _ _ hk2.out).2.2.2.2.2 _ Tryd.underlying25 rfl SB.out ?_))
          go_ret
          exact ⟨by rw [HR.out]; rfl, bl.out⟩
      · have HR : Hid (sameS a b = false) := Lib.hid (by unfold sameS; rw [decide_eq_true h0, decide_eq_true h1, decide_eq_false h2]; simp)
        have t0 : (a.kind == b.kind) = true := by rw [beq_iff_eq]; exact h0
        have t1 : ((strB a.tape).toList == (strB b.tape).toList) = true := by rw [beq_iff_eq, h1]
        have t2 : (a.bits == b.bits) = false := by rw [beq_eq_false_iff_ne]; exact h2
        skip
        obtain ⟨Va, hVa⟩ : ∃ V, srcV a A c = V := ⟨_, rfl⟩
        obtain ⟨Vb, hVb⟩ : ∃ V, srcV b B d = V := ⟨_, rfl⟩
        rw [hVa] at HA
        rw [hVb] at HB
        rw [hVa, hVb]
        clear hVa hVb hra hrb h0 h1 h2
        obtain ⟨a_kind, ha_kind⟩ : ∃ x, a.kind = x := ⟨_, rfl⟩
        obtain ⟨b_kind, hb_kind⟩ : ∃ x, b.kind = x := ⟨_, rfl⟩
        obtain ⟨a_bits, ha_bits⟩ : ∃ x, a.bits = x := ⟨_, rfl⟩
        obtain ⟨b_bits, hb_bits⟩ : ∃ x, b.bits = x := ⟨_, rfl⟩
        obtain ⟨a_dom, ha_dom⟩ : ∃ x, a.dom = x := ⟨_, rfl⟩
        obtain ⟨b_dom, hb_dom⟩ : ∃ x, b.dom = x := ⟨_, rfl⟩
        obtain ⟨a_at_, ha_at_⟩ : ∃ x, a.at_ = x := ⟨_, rfl⟩
        obtain ⟨b_at_, hb_at_⟩ : ∃ x, b.at_ = x := ⟨_, rfl⟩
        rw [ha_kind, ha_bits, ha_dom, ha_at_] at HA
        rw [hb_kind, hb_bits, hb_dom, hb_at_] at HB
        rw [ha_kind, hb_kind] at t0
        rw [ha_bits, hb_bits] at t2
        clear ha_kind ha_bits ha_dom ha_at_ hb_kind hb_bits hb_dom hb_at_
        go_enter Tryd.func10, Tryd.ntmps10
        go_wp2_with (first
          | (with_reducible refine at_any ?_; refine at_dst 2 rfl ?_; refine wpList_box_any rfl 27 (.tmp 0) rfl Va rfl ?_; intro w1 hk1 hs1 hb1)
          | (with_reducible refine at_any ?_; refine at_dst 3 rfl ?_; refine wpList_box_any rfl 27 (.tmp 1) rfl Vb rfl ?_; intro w2 hk2 hs2 hb2; have ka := Lib.hid (hk1.out.below hb2 hk1.out.lt); have bl := Lib.hid (hb1.trans (hb2.mono hb1.size)); have ca0 := (HA.out _ _ ka.out).1; have ca1 := (HA.out _ _ ka.out).2.1; have ca2 := (HA.out _ _ ka.out).2.2.1; have ca4 := (HA.out _ _ ka.out).2.2.2.1; have ca5 := (HA.out _ _ ka.out).2.2.2.2.1; have cb0 := (HB.out _ _ hk2.out).1; have cb1 := (HB.out _ _ hk2.out).2.1; have cb2 := (HB.out _ _ hk2.out).2.2.1; have cb4 := (HB.out _ _ hk2.out).2.2.2.1; have cb5 := (HB.out _ _ hk2.out).2.2.2.2.1; have xa := str_rd5 (c := c) (HRA.out.below bl.out); have xb := str_rd5 (c := d) (HRB.out.below bl.out))
          | (with_reducible refine at_any ?_; refine at_dst 28 rfl ?_; refine wpList_load_gdo (by kernel_rfl) 25 (.tmp 27) rfl w.heap.size 3 rfl .u8 a.seed (HA.out _ _ ka.out).2.2.2.2.2 _ Tryd.underlying25 rfl SA.out ?_)
          | (with_reducible refine at_any ?_; refine at_dst 30 rfl ?_; refine wpList_load_gdo (by kernel_rfl) 25 (.tmp 29) rfl w1.heap.size 3 rfl .u8 b.seed (HB.out _ _ hk2.out).2.2.2.2.2 _ Tryd.underlying25 rfl SB.out ?_))
        go_ret
        exact ⟨by rw [HR.out]; rfl, bl.out⟩
    · have HR : Hid (sameS a b = false) := Lib.hid (by unfold sameS; rw [decide_eq_true h0, decide_eq_false h1]; simp)
      have t0 : (a.kind == b.kind) = true := by rw [beq_iff_eq]; exact h0
      have t1 : ((strB a.tape).toList == (strB b.tape).toList) = false := by rw [beq_eq_false_iff_ne]; exact fun h => h1 (strB_inj oka.ti okb.ti (toL_eq5.1 h))
      skip
      obtain ⟨Va, hVa⟩ : ∃ V, srcV a A c = V := ⟨_, rfl⟩
      obtain ⟨Vb, hVb⟩ : ∃ V, srcV b B d = V := ⟨_, rfl⟩
      rw [hVa] at HA
      rw [hVb] at HB
      rw [hVa, hVb]
      clear hVa hVb hra hrb h0 h1
      obtain ⟨a_kind, ha_kind⟩ : ∃ x, a.kind = x := ⟨_, rfl⟩
      obtain ⟨b_kind, hb_kind⟩ : ∃ x, b.kind = x := ⟨_, rfl⟩
      obtain ⟨a_bits, ha_bits⟩ : ∃ x, a.bits = x := ⟨_, rfl⟩
      obtain ⟨b_bits, hb_bits⟩ : ∃ x, b.bits = x := ⟨_, rfl⟩
      obtain ⟨a_dom, ha_dom⟩ : ∃ x, a.dom = x := ⟨_, rfl⟩
      obtain ⟨b_dom, hb_dom⟩ : ∃ x, b.dom = x := ⟨_, rfl⟩
      obtain ⟨a_at_, ha_at_⟩ : ∃ x, a.at_ = x := ⟨_, rfl⟩
      obtain ⟨b_at_, hb_at_⟩ : ∃ x, b.at_ = x := ⟨_, rfl⟩
      rw [ha_kind, ha_bits, ha_dom, ha_at_] at HA
      rw [hb_kind, hb_bits, hb_dom, hb_at_] at HB
      rw [ha_kind, hb_kind] at t0
      clear ha_kind ha_bits ha_dom ha_at_ hb_kind hb_bits hb_dom hb_at_
      go_enter Tryd.func10, Tryd.ntmps10
      go_wp2_with (first
        | (with_reducible refine at_any ?_; refine at_dst 2 rfl ?_; refine wpList_box_any rfl 27 (.tmp 0) rfl Va rfl ?_; intro w1 hk1 hs1 hb1)
        | (with_reducible refine at_any ?_; refine at_dst 3 rfl ?_; refine wpList_box_any rfl 27 (.tmp 1) rfl Vb rfl ?_; intro w2 hk2 hs2 hb2; have ka := Lib.hid (hk1.out.below hb2 hk1.out.lt); have bl := Lib.hid (hb1.trans (hb2.mono hb1.size)); have ca0 := (HA.out _ _ ka.out).1; have ca1 := (HA.out _ _ ka.out).2.1; have ca2 := (HA.out _ _ ka.out).2.2.1; have ca4 := (HA.out _ _ ka.out).2.2.2.1; have ca5 := (HA.out _ _ ka.out).2.2.2.2.1; have cb0 := (HB.out _ _ hk2.out).1; have cb1 := (HB.out _ _ hk2.out).2.1; have cb2 := (HB.out _ _ hk2.out).2.2.1; have cb4 := (HB.out _ _ hk2.out).2.2.2.1; have cb5 := (HB.out _ _ hk2.out).2.2.2.2.1; have xa := str_rd5 (c := c) (HRA.out.below bl.out); have xb := str_rd5 (c := d) (HRB.out.below bl.out))
        | (with_reducible refine at_any ?_; refine at_dst 28 rfl ?_; refine wpList_load_gdo (by kernel_rfl) 25 (.tmp 27) rfl w.heap.size 3 rfl .u8 a.seed (HA.out _ _ ka.out).2.2.2.2.2 _ Tryd.underlying25 rfl SA.out ?_)
        | (with_reducible refine at_any ?_; refine at_dst 30 rfl ?_; refine wpList_load_gdo (by kernel_rfl) 25 (.tmp 29) rfl w1.heap.size 3 rfl .u8 b.seed (HB.out _ _ hk2.out).2.2.2.2.2 _ Tryd.underlying25 rfl SB.out ?_))
      go_ret
      exact ⟨by rw [HR.out]; rfl, bl.out⟩
  · have HR : Hid (sameS a b = false) := Lib.hid (by unfold sameS; rw [decide_eq_false h0]; simp)
    have t0 : (a.kind == b.kind) = false := by rw [beq_eq_false_iff_ne]; exact h0
    skip
    obtain ⟨Va, hVa⟩ : ∃ V, srcV a A c = V := ⟨_, rfl⟩
    obtain ⟨Vb, hVb⟩ : ∃ V, srcV b B d = V := ⟨_, rfl⟩
    rw [hVa] at HA
    rw [hVb] at HB
    rw [hVa, hVb]
    clear hVa hVb hra hrb h0
    obtain ⟨a_kind, ha_kind⟩ : ∃ x, a.kind = x := ⟨_, rfl⟩
    obtain ⟨b_kind, hb_kind⟩ : ∃ x, b.kind = x := ⟨_, rfl⟩
    obtain ⟨a_bits, ha_bits⟩ : ∃ x, a.bits = x := ⟨_, rfl⟩
    obtain ⟨b_bits, hb_bits⟩ : ∃ x, b.bits = x := ⟨_, rfl⟩
    obtain ⟨a_dom, ha_dom⟩ : ∃ x, a.dom = x := ⟨_, rfl⟩
    obtain ⟨b_dom, hb_dom⟩ : ∃ x, b.dom = x := ⟨_, rfl⟩
    obtain ⟨a_at_, ha_at_⟩ : ∃ x, a.at_ = x := ⟨_, rfl⟩
    obtain ⟨b_at_, hb_at_⟩ : ∃ x, b.at_ = x := ⟨_, rfl⟩
    rw [ha_kind, ha_bits, ha_dom, ha_at_] at HA
    rw [hb_kind, hb_bits, hb_dom, hb_at_] at HB
    rw [ha_kind, hb_kind] at t0
    clear ha_kind ha_bits ha_dom ha_at_ hb_kind hb_bits hb_dom hb_at_
    go_enter Tryd.func10, Tryd.ntmps10
    go_wp2_with (first
      | (with_reducible refine at_any ?_; refine at_dst 2 rfl ?_; refine wpList_box_any rfl 27 (.tmp 0) rfl Va rfl ?_; intro w1 hk1 hs1 hb1)
      | (with_reducible refine at_any ?_; refine at_dst 3 rfl ?_; refine wpList_box_any rfl 27 (.tmp 1) rfl Vb rfl ?_; intro w2 hk2 hs2 hb2; have ka := Lib.hid (hk1.out.below hb2 hk1.out.lt); have bl := Lib.hid (hb1.trans (hb2.mono hb1.size)); have ca0 := (HA.out _ _ ka.out).1; have ca1 := (HA.out _ _ ka.out).2.1; have ca2 := (HA.out _ _ ka.out).2.2.1; have ca4 := (HA.out _ _ ka.out).2.2.2.1; have ca5 := (HA.out _ _ ka.out).2.2.2.2.1; have cb0 := (HB.out _ _ hk2.out).1; have cb1 := (HB.out _ _ hk2.out).2.1; have cb2 := (HB.out _ _ hk2.out).2.2.1; have cb4 := (HB.out _ _ hk2.out).2.2.2.1; have cb5 := (HB.out _ _ hk2.out).2.2.2.2.1; have xa := str_rd5 (c := c) (HRA.out.below bl.out); have xb := str_rd5 (c := d) (HRB.out.below bl.out))
      | (with_reducible refine at_any ?_; refine at_dst 28 rfl ?_; refine wpList_load_gdo (by kernel_rfl) 25 (.tmp 27) rfl w.heap.size 3 rfl .u8 a.seed (HA.out _ _ ka.out).2.2.2.2.2 _ Tryd.underlying25 rfl SA.out ?_)
      | (with_reducible refine at_any ?_; refine at_dst 30 rfl ?_; refine wpList_load_gdo (by kernel_rfl) 25 (.tmp 29) rfl w1.heap.size 3 rfl .u8 b.seed (HB.out _ _ hk2.out).2.2.2.2.2 _ Tryd.underlying25 rfl SB.out ?_))
    go_ret
    exact ⟨by rw [HR.out]; rfl, bl.out⟩
end Go.Proofs.YtmeefnhmkffdlaaDoor
/-
  What the reference's functions of stage 8 return (Need, Draw), and that memory is left as it was.
  Conditions: the arguments lie in their types' ranges.
-/
set_option maxRecDepth 100000
set_option linter.unusedSimpArgs false
namespace Go.Proofs.YtmeefnhmkffdlaaDoor
open Go.ChangeShapes Go.WideShapes Go.ChangeAt Go.RowKit
set_option linter.unusedVariables false
theorem r8need_c (n : Int) (n0 : 0 ≤ n) (n1 : n < 18446744073709551616) (w : World) : Calls Tryd.prog 12 #[.int .u64 n] w fun e w' => e = .returned (.int .i64 (needN n : Nat)) ∧ w = w' := by
  by_cases h : n = 0
  · subst h
    go_enter Tryd.func12, Tryd.ntmps12
    go_wp2
    go_ret
    exact ⟨rfl, rfl⟩
  · have HB := Lib.hid (fun W => rbits_i (n - 1) (by omega) (by omega) W)
    have hR : needN n = Wd.bitsL (n - 1).toNat := by unfold needN; rw [if_neg h]
    rw [hR]
    obtain ⟨B, hB⟩ : ∃ B, Wd.bitsL (n - 1).toNat = B := ⟨_, rfl⟩
    rw [hB] at HB ⊢
    have t1 : (n == 0) = false := by rw [beq_eq_false_iff_ne]; exact h
    have e1 : IntKind.u64.wrap (n - 1) = n - 1 := by rw [IntKind.wrap_u64]; omega
    clear h hR hB
    go_enter Tryd.func12, Tryd.ntmps12
    go_wp2_with (go_at_call 22; (with_reducible refine (HB.out _).mono ?_); rintro e _ ⟨rfl, rfl⟩)
    go_ret
    exact ⟨rfl, rfl⟩
set_option maxHeartbeats 8000000 in
theorem r8draw_c (s : Src) (ok : s.Ok) (n : Int) (n0 : 0 ≤ n) (n1 : n < 18446744073709551616) (a : Int) (a0 : -9223372036854775808 ≤ a) (a1 : a < 9223372036854775808) (A0 : Option Addr) (c0 : Nat) (hc : s.tape.length ≤ c0) (hcm : c0 ≤ maxLen) (w : World) (hrd : Rd .u8 w w.heap.size A0 s.tape.length s.tape) : Calls Tryd.prog 9 #[.agg (srcV s A0 c0), .int .u64 n, .int .i64 a] w (RetDraw w s A0 (drawR s n a)) := by
  have HRT := Lib.hid (fun W => rsright_c s ok A0 c0 W)
  have HZ0 := Lib.hid zero_src
  have hRd := Lib.hid hrd
  have HZSS := Lib.hid (fun (t : Src) (h : t.seed.length = 32) A c => srcV_same Src.zero t rfl h none A 0 c)
  obtain ⟨Z, hZ⟩ : ∃ Z, srcV Src.zero none 0 = Z := ⟨_, rfl⟩
  rw [hZ] at HZ0 HZSS
  by_cases hbad : ¬ drawB s n a = true
  · have hE : drawR s n a = (0, s, 1) := by unfold drawR; rw [if_neg hbad]
    have HEND : Hid (∀ w', RdP A0 s.tape.length s.tape w' → Below w.heap.size w w' → RetDraw w s A0 (drawR s n a) (.returned (.tuple #[.int .u64 0, .agg (srcV s A0 c0), .int .i64 1])) w') := Lib.hid (fun w' hr hb => ⟨A0, c0, by rw [hE], hr, hc, hcm, .inl rfl, hb⟩)
    have hcase : (rightS s = false) ∨ (rightS s = true ∧ n < 1) ∨ (rightS s = true ∧ ¬ n < 1 ∧ 9223372036854775808 ≤ n) ∨ (rightS s = true ∧ ¬ n < 1 ∧ n < 9223372036854775808 ∧ a < 1) ∨ (rightS s = true ∧ ¬ n < 1 ∧ n < 9223372036854775808 ∧ ¬ a < 1 ∧ 64 < a) := by
      cases h : rightS s
      · exact .inl rfl
      · refine .inr ?_
        by_cases h1 : n < 1
        · exact .inl ⟨rfl, h1⟩
        · refine .inr ?_
          by_cases h2 : 9223372036854775808 ≤ n
          · exact .inl ⟨rfl, h1, h2⟩
          · refine .inr ?_
            by_cases h3 : a < 1
            · exact .inl ⟨rfl, h1, by omega, h3⟩
            · refine .inr ⟨rfl, h1, by omega, h3, Decidable.byContradiction fun h4 => hbad ?_⟩
              unfold drawB
              rw [h, Bool.true_and]
              exact decide_eq_true ⟨by omega, by omega, by omega, by omega⟩
    have SV := Lib.hid (sizedS s ok.sl A0 c0)
    have OV := Lib.hid (srcV_ones s A0 c0)
    have ZV := Lib.hid (HZSS.out s ok.sl A0 c0)
    obtain ⟨V, hV⟩ : ∃ V, srcV s A0 c0 = V := ⟨_, rfl⟩
    rw [hV] at HRT HEND SV OV ZV
    rw [hV]
    obtain ⟨rr, hrr⟩ : ∃ r, drawR s n a = r := ⟨_, rfl⟩
    rw [hrr] at HEND ⊢
    clear hZ hV hE hbad hrd hrr
    rcases hcase with hr | ⟨hr, h1⟩ | ⟨hr, h1, h2⟩ | ⟨hr, h1, h2, h3⟩ | ⟨hr, h1, h2, h3, h4⟩
    all_goals
      rw [hr] at HRT
      go_enter Tryd.func9, Tryd.ntmps9
      go_wp2_with (first
        | (with_reducible refine at_any ?_; refine at_dst 3 rfl ?_; refine wpList_box_any rfl 27 (.tmp 0) rfl V rfl ?_; intro w1 hk1 hs1 hb1)
        | (with_reducible refine at_any ?_; refine at_dst 7 rfl ?_; refine wpList_alloc_any rfl 27 rfl Z HZ0.out ?_; intro w2 hk2 hs2 hb2; have k2 := Lib.hid (hk1.out.below hb2 hk1.out.lt))
        | (with_reducible refine at_any ?_; refine at_dst 13 rfl ?_; refine wpList_load_blk rfl 27 (.tmp 3) rfl w.heap.size rfl 27 V k2.out _ Tryd.underlying27 rfl SV.out ?_)
        | (go_at_call 19; (with_reducible refine (HRT.out _).mono ?_); rintro e wz ⟨rfl, hbz⟩))
      have HS := DrS.mk2 hRd.out hk1.out hb1 hk2.out hb2 hbz
      have HZ : Fx [.blk w1.heap.size 27 Z] wz := ⟨hk2.out.below hbz hk2.out.lt, trivial⟩
      obtain ⟨g3, hg3⟩ : ∃ g, w.heap.size = g := ⟨_, rfl⟩
      obtain ⟨g7, hg7⟩ : ∃ g, w1.heap.size = g := ⟨_, rfl⟩
      obtain ⟨zs, hzs⟩ : ∃ zs, s.tape = zs := ⟨_, rfl⟩
      obtain ⟨L, hL⟩ : ∃ L, zs.length = L := ⟨_, rfl⟩
      rw [hzs, hL] at HEND
      rw [hg3, hg7, hzs, hL] at HS
      rw [hg7] at HZ
      rw [hg3, hg7]
      clear hg3 hg7 hzs hL hk1 hs1 hb1 hk2 hs2 hb2 k2 hbz
      have HZ7 := HZ.drew
      refine wp_region_held_drew (S := (DrS w g3 g7 V A0 L zs)) (by kernel_rfl) HS.drew (fun hH => ?_)
      refine wpAnyH_letter #[false, false, false, false] (by kernel_rfl) (fun _ _ d _ _ h => by cases d <;> exact h) (fun QL HQ1 HQ2 => ?_)
      refine held_row 0 (some 32) rfl (by kernel_rfl) (by kernel_rfl) (by kernel_rfl) (by kernel_rfl) (fun c a v w h => HQ2.out c a _ v w h) (by kernel_rfl) 27 (.tmp 3) rfl g3 (by kernel_rfl) 27 V (fun _ h => h.blk) _ Tryd.underlying27 rfl SV.out hH ?_
      try simp only [Act.put, List.setIfInBounds_toArray, List.set_cons_zero, List.set_cons_succ]
      refine held_v 1 (some 6) rfl (by kernel_rfl) (by kernel_rfl) (by kernel_rfl) (by kernel_rfl) (fun c a v w h => HQ2.out c a _ v w h) (by kernel_rfl) (.int .u64 0) (fun W h => by kernel_rfl) hH ?_
      try simp only [Act.put, List.setIfInBounds_toArray, List.set_cons_zero, List.set_cons_succ]
      refine wpAnyH_ready (rs := [2]) (by kernel_rfl) (by decide) ?_
      refine AllReadyH.cons rfl (fun K hK => ?_) AllReadyH.nil
      refine step_store none (by kernel_rfl) (by kernel_rfl) 27 (.tmp 7) (.tmp 32) rfl g7 (by kernel_rfl) 27 Z V HZ7.1 (by kernel_rfl) ZV.out SV.out OV.out ?_
      intro w41 hkw41 hsw41 hbw41 how41
      have ex42 : Fx [.blk g7 27 V] w41 := ⟨hkw41.out, trivial⟩
      refine hK.out _ _ (hH.store HZ7.1 hH.store7 hsw41.out hbw41 how41) (fun hw41 => ?_)
      clear hK K
      try simp only [Act.put, List.setIfInBounds_toArray, List.set_cons_zero, List.set_cons_succ]
      refine held_v 3 (some 8) rfl (by kernel_rfl) (by kernel_rfl) (by kernel_rfl) (by kernel_rfl) (fun c a v w h => HQ2.out c a _ v w h) (by kernel_rfl) (.int .i64 1) (fun W h => by kernel_rfl) hw41 ?_
      try simp only [Act.put, List.setIfInBounds_toArray, List.set_cons_zero, List.set_cons_succ]
      refine wpAnyH_done (by kernel_rfl) ?_ _
      refine HQ1.out _ _ ?_
      clear HQ1 HQ2
      go_wp2_with (refine bodyPost_mid 6 7 8 27 rfl g7 rfl (.int .u64 0) (.int .i64 1) rfl rfl 27 V ex42.1 _ Tryd.underlying27 rfl SV.out rfl ?_)
      exact HEND.out _ hw41.rd hw41.bel
  · have hgood : drawB s n a = true := Decidable.of_not_not hbad
    have hE : drawR s n a = drawGo (needN n) n a.toNat s := by unfold drawR; rw [if_pos hgood]
    obtain ⟨hr, hd⟩ : rightS s = true ∧ decide (1 ≤ n ∧ n < 9223372036854775808 ∧ 1 ≤ a ∧ a ≤ 64) = true := by unfold drawB at hgood; rwa [Bool.and_eq_true] at hgood
    obtain ⟨nn0, nn1, aa0, aa1⟩ := of_decide_eq_true hd
    have h1 : ¬ n < 1 := by omega
    have h3 : ¬ a < 1 := by omega
    have h4 : ¬ 64 < a := by omega
    have hk64 := needN_le n n0 n1
    have HND := Lib.hid (fun W => r8need_c n n0 n1 W)
    obtain ⟨k, hk⟩ : ∃ k, needN n = k := ⟨_, rfl⟩
    rw [hk] at hE hk64 HND
    rw [hE]
    obtain ⟨a, rfl⟩ := Int.eq_ofNat_of_zero_le (show 0 ≤ a by omega)
    rw [Int.toNat_natCast]
    rw [hr] at HRT
    have HTAKE := Lib.hid (fun (t : Src) (okt : t.Ok) (A : Option Addr) (c : Nat) (h1 : t.tape.length ≤ c) (h2 : c ≤ maxLen) (W : World) (h3 : Rd .u8 W W.heap.size A t.tape.length t.tape) => rstake_c t okt (k : Int) (by omega) (by omega) A c h1 h2 W h3)
    have SV := Lib.hid (sizedS s ok.sl A0 c0)
    have HL0 : Hid (∀ g3 g7 W, DrS w g3 g7 (srcV s A0 c0) A0 s.tape.length s.tape W → Fx [.blk g7 27 Z] W → DrL w g3 g7 s k n a A0 Z 0 W) := Lib.hid (fun g3 g7 W h1 h2 => ⟨s, A0, c0, rfl, ok, rfl, h1, h2, .inl rfl, hc, hcm⟩)
    obtain ⟨V, hV⟩ : ∃ V, srcV s A0 c0 = V := ⟨_, rfl⟩
    rw [hV] at HRT SV HL0
    rw [hV]
    obtain ⟨rr, hrr⟩ : ∃ r, drawGo k n a s = r := ⟨_, rfl⟩
    rw [hrr]
    have HRR := Lib.hid hrr
    clear hZ hV hE hbad hrd hrr hgood hd hr hk a0 a1 aa0 hc hcm
    have aa2 : a ≤ 64 := by omega
    clear aa1
    go_enter Tryd.func9, Tryd.ntmps9
    go_wp2_with (first
      | (with_reducible refine at_any ?_; refine at_dst 3 rfl ?_; refine wpList_box_any rfl 27 (.tmp 0) rfl V rfl ?_; intro w1 hk1 hs1 hb1)
      | (with_reducible refine at_any ?_; refine at_dst 7 rfl ?_; refine wpList_alloc_any rfl 27 rfl Z HZ0.out ?_; intro w2 hk2 hs2 hb2; have k2 := Lib.hid (hk1.out.below hb2 hk1.out.lt))
      | (with_reducible refine at_any ?_; refine at_dst 13 rfl ?_; refine wpList_load_blk rfl 27 (.tmp 3) rfl w.heap.size rfl 27 V k2.out _ Tryd.underlying27 rfl SV.out ?_)
      | (go_at_call 19; (with_reducible refine (HRT.out _).mono ?_); rintro e wz ⟨rfl, hbz⟩))
    have HS := DrS.mk2 hRd.out hk1.out hb1 hk2.out hb2 hbz
    have HZ : Fx [.blk w1.heap.size 27 Z] wz := ⟨hk2.out.below hbz hk2.out.lt, trivial⟩
    have HL := Lib.hid (HL0.out _ _ _ HS HZ)
    obtain ⟨g3, hg3⟩ : ∃ g, w.heap.size = g := ⟨_, rfl⟩
    obtain ⟨g7, hg7⟩ : ∃ g, w1.heap.size = g := ⟨_, rfl⟩
    rw [hg3, hg7] at HL
    rw [hg3, hg7]
    clear hg3 hg7 hk1 hs1 hb1 hk2 hs2 hb2 k2 hbz HS HZ HL0 HRT SV h1 h3 h4
    go_loopw [9] (fun cc wr => ∃ i : Nat, i ≤ a ∧ cc = .int .i64 i ∧ DrL w g3 g7 s k n a A0 Z i wr) (fun cc _ => a - (intOf cc).toNat)
    case atStart => exact ⟨0, by omega, rfl, HL.out⟩
    case round =>
      clear HL
      obtain ⟨i, hi, rfl, si, A, c, hgo, oki, htp, HS, HZ, hsp, hcl, hcm⟩ := hrel
      have SV := Lib.hid (sizedS si oki.sl A c)
      have OV := Lib.hid (srcV_ones si A c)
      have ZV := Lib.hid (HZSS.out si oki.sl A c)
      have HSP := Lib.hid hsp
      rw [HRR.out] at hgo
      by_cases hlt : i < a
      · have HTK := Lib.hid (fun (W : World) (h3 : RdP A s.tape.length s.tape W) => HTAKE.out si oki A c (by rw [htp]; exact hcl) hcm W (by rw [htp]; exact h3))
        have hst : a - i = a - i - 1 + 1 := by omega
        rw [hst] at hgo
        have hti := takeE_in si k
        have hvi := takeV_in si k
        have htok := takeS_ok oki k
        have http := takeS_tape si k
        rw [htp] at http
        have hgz : takeE si k ≠ 0 → rr = (0, si, takeE si k) := fun h => by rw [hgo, drawGo_err h]
        have hgh : takeE si k = 0 → takeV si k < n → rr = (takeV si k, takeS si k, 0) := fun h h2 => by rw [hgo, drawGo_hit h h2]
        have hgm : takeE si k = 0 → ¬ takeV si k < n → rr = drawGo k n (a - (i + 1)) (takeS si k) := fun h h2 => by rw [hgo, drawGo_miss h h2, show a - i - 1 = a - (i + 1) by omega]
        have hsi : takeE si k ≠ 0 → takeS si k = si := fun h => by unfold takeS; rw [if_neg h]
        unfold RetTake at HTK
        rw [htp] at HTK
        obtain ⟨X, hX⟩ : ∃ X, takeV si k = X := ⟨_, rfl⟩
        obtain ⟨E, hE⟩ : ∃ E, takeE si k = E := ⟨_, rfl⟩
        obtain ⟨t, ht⟩ : ∃ t, takeS si k = t := ⟨_, rfl⟩
        rw [hX, hE, ht] at HTK
        rw [hX] at hvi hgh hgm
        rw [hE] at hti hgz hgh hgm hsi
        rw [ht] at htok http hgh hgm hsi
        have ST := Lib.hid (fun A c => sizedS t htok.sl A c)
        have OT := Lib.hid (fun A c => srcV_ones t A c)
        have ZT := Lib.hid (fun A c => HZSS.out t htok.sl A c)
        obtain ⟨zs, hzs⟩ : ∃ zs, s.tape = zs := ⟨_, rfl⟩
        obtain ⟨L, hL⟩ : ∃ L, zs.length = L := ⟨_, rfl⟩
        have HG1 : Hid (∀ A2 c2 g11 W, DrS w g3 g7 (srcV si A c) A L zs W → Blk W g7 27 Z → Blk W g11 27 (srcV t A2 c2) → RdP A2 L zs W → Apt L A2 g3 → Apt L A2 g7 → Sep w A0 A2 → L ≤ c2 → c2 ≤ maxLen → g3 ≠ g11 → g7 ≠ g11 → True) := Lib.hid (fun _ _ _ _ _ _ _ _ _ _ _ _ _ _ _ => trivial)
        have HEZ : Hid (E ≠ 0 → ∀ w', RdP A L zs w' → Below w.heap.size w w' → RetDraw w s A0 rr (.returned (.tuple #[.int .u64 0, .agg (srcV si A c), .int .i64 E])) w') := Lib.hid (fun h w' hr hb => ⟨A, c, by rw [hgz h], by rw [hzs, hL]; exact hr, hcl, hcm, hsp, hb⟩)
        have HEH : Hid (E = 0 → X < n → ∀ A2 c2 w', Sep w A0 A2 → L ≤ c2 → c2 ≤ maxLen → RdP A2 L zs w' → Below w.heap.size w w' → RetDraw w s A0 rr (.returned (.tuple #[.int .u64 X, .agg (srcV t A2 c2), .int .i64 0])) w') := Lib.hid (fun h h2 A2 c2 w' h3 h4 h5 hr hb => ⟨A2, c2, by rw [hgh h h2], by rw [hzs, hL]; exact hr, by rw [hzs, hL]; exact h4, h5, h3, hb⟩)
        have HEM : Hid (E = 0 → ¬ X < n → ∀ A2 c2 W, DrS w g3 g7 (srcV t A2 c2) A2 L zs W → Fx [.blk g7 27 Z] W → Sep w A0 A2 → L ≤ c2 → c2 ≤ maxLen → DrL w g3 g7 s k n a A0 Z (i + 1) W) := Lib.hid (fun h h2 A2 c2 W h3 h4 h5 h6 h7 => ⟨t, A2, c2, by rw [HRR.out]; exact hgm h h2, htok, by rw [http, hzs], by rw [hzs, hL]; exact h3, h4, h5, by rw [hzs, hL]; exact h6, h7⟩)
        rw [hzs, hL] at HTK
        rw [hzs, hL] at HS hcl
        clear hgo oki htp hsp hst htok http hgz hgh hgm hsi hX hE ht hzs hL HG1
        obtain ⟨V, hV⟩ : ∃ V, srcV si A c = V := ⟨_, rfl⟩
        rw [hV] at SV OV ZV HS HTK HEZ
        clear hV HTAKE HZSS
        go_wp2_with fail
        have HZ7 := HZ.drew
        refine wp_region_held_drew (S := (DrS w g3 g7 V A L zs)) (by kernel_rfl) HS.drew (fun hH => ?_)
        refine wpAnyH_letter #[false, false, false, false, false, false, false, false, false, false, false, false] (by kernel_rfl) (fun _ _ d _ _ h => by cases d <;> exact h) (fun QL HQ1 HQ2 => ?_)
        refine held_row 0 (some 39) rfl (by kernel_rfl) (by kernel_rfl) (by kernel_rfl) (by kernel_rfl) (fun c a v w h => HQ2.out c a _ v w h) (by kernel_rfl) 27 (.tmp 3) rfl g3 (by kernel_rfl) 27 V (fun _ h => h.blk) _ Tryd.underlying27 rfl SV.out hH ?_
        try simp only [Act.put, List.setIfInBounds_toArray, List.set_cons_zero, List.set_cons_succ]
        refine held_v 1 (some 40) rfl (by kernel_rfl) (by kernel_rfl) (by kernel_rfl) (by kernel_rfl) (fun c a v w h => HQ2.out c a _ v w h) (by kernel_rfl) (.int .u64 n) (fun W h => by kernel_rfl) hH ?_
        try simp only [Act.put, List.setIfInBounds_toArray, List.set_cons_zero, List.set_cons_succ]
        refine wpAnyH_ready (rs := [2, 8]) (by kernel_rfl) (by decide) ?_
        refine AllReadyH.cons rfl (fun K hK => ?_) (AllReadyH.cons rfl (fun K hK => ?_) AllReadyH.nil)
        · refine step_call (some 41) (by kernel_rfl) (by kernel_rfl) _ _ (by kernel_rfl) _ (HND.out _) ?_
          rintro e _ ⟨rfl, rfl⟩
          refine ⟨_, rfl, ?_⟩
          refine hK.out _ _ hH (fun _ => ?_)
          clear hK K
          try simp only [Act.put, List.setIfInBounds_toArray, List.set_cons_zero, List.set_cons_succ]
          refine wpAnyH_ready (rs := [3, 8]) (by kernel_rfl) (by decide) ?_
          refine AllReadyH.cons rfl (fun K hK => ?_) (AllReadyH.cons rfl (fun K hK => ?_) AllReadyH.nil)
          · refine step_call (some 42) (by kernel_rfl) (by kernel_rfl) _ _ (by kernel_rfl) _ (HTK.out wr.drew hH.rd) ?_
            rintro e w42 ⟨A2, c2, rfl, hrd2, hc2, hm2, hsp2, hbw42⟩
            have hSP : Hid (Sep w A0 A2) := Lib.hid (Sep.trans HSP.out hsp2 hH.bel.size)
            have hA23 := Lib.hid (Apt.of_sep hsp2 hH.apt3 hH.lt3)
            have hA27 := Lib.hid (Apt.of_sep hsp2 hH.apt7 hH.lt7)
            have hC2 := Lib.hid hc2
            have hM2 := Lib.hid hm2
            have ex43 := HZ7.below hbw42
            have ex44 : RdP A2 L zs w42 := hrd2
            clear hrd2 hc2 hm2 hsp2
            refine ⟨_, rfl, ?_⟩
            refine hK.out _ _ (hH.below hbw42) (fun hw42 => ?_)
            clear hK K
            try simp only [Act.put, List.setIfInBounds_toArray, List.set_cons_zero, List.set_cons_succ]
            refine held_v 4 (some 38) rfl (by kernel_rfl) (by kernel_rfl) (by kernel_rfl) (by kernel_rfl) (fun c a v w h => HQ2.out c a _ v w h) (by kernel_rfl) (.tuple #[.int .u64 X, .agg (srcV t A2 c2), .int .i64 E]) (fun W h => by kernel_rfl) hw42 ?_
            try simp only [Act.put, List.setIfInBounds_toArray, List.set_cons_zero, List.set_cons_succ]
            refine held_v 5 (some 43) rfl (by kernel_rfl) (by kernel_rfl) (by kernel_rfl) (by kernel_rfl) (fun c a v w h => HQ2.out c a _ v w h) (by kernel_rfl) (.int .u64 X) (fun W h => by kernel_rfl) hw42 ?_
            try simp only [Act.put, List.setIfInBounds_toArray, List.set_cons_zero, List.set_cons_succ]
            refine held_v 6 (some 44) rfl (by kernel_rfl) (by kernel_rfl) (by kernel_rfl) (by kernel_rfl) (fun c a v w h => HQ2.out c a _ v w h) (by kernel_rfl) (.agg (srcV t A2 c2)) (fun W h => by kernel_rfl) hw42 ?_
            try simp only [Act.put, List.setIfInBounds_toArray, List.set_cons_zero, List.set_cons_succ]
            refine held_v 7 (some 45) rfl (by kernel_rfl) (by kernel_rfl) (by kernel_rfl) (by kernel_rfl) (fun c a v w h => HQ2.out c a _ v w h) (by kernel_rfl) (.int .i64 E) (fun W h => by kernel_rfl) hw42 ?_
            try simp only [Act.put, List.setIfInBounds_toArray, List.set_cons_zero, List.set_cons_succ]
            refine wpAnyH_ready (rs := [8]) (by kernel_rfl) (by decide) ?_
            refine AllReadyH.cons rfl (fun K hK => ?_) AllReadyH.nil
            refine step_alloc (some 11) (by kernel_rfl) (by kernel_rfl) 27 rfl Z HZ0.out ?_
            intro w45 hkw45 hsw45 hbw45
            obtain ⟨g11, hg11⟩ : ∃ g, w42.heap.size = g := ⟨_, rfl⟩
            have hAo11 := Apt.of_lt (g := g11) hw42.rd.rd (Nat.le_of_eq hg11)
            have hn3 : g3 ≠ g11 := by have := hw42.lt3; omega
            have hn7 : g7 ≠ g11 := by have := hw42.lt7; omega
            have hle11 : w.heap.size ≤ g11 := by have := hw42.bel.size; omega
            have hA11 := Apt.of_lt (g := g11) ex44.rd (Nat.le_of_eq hg11)
            rw [hg11] at hkw45
            rw [hg11]
            have ex46 := ex43.below hbw45
            have ex47 := ex44.below hbw45
            have ex48 : Fx [.blk g11 27 Z] w45 := ⟨hkw45.out, trivial⟩
            refine hK.out _ _ (hw42.below hbw45) (fun hw45 => ?_)
            clear hK K
            try simp only [Act.put, List.setIfInBounds_toArray, List.set_cons_zero, List.set_cons_succ]
            refine held_v 9 (some 10) rfl (by kernel_rfl) (by kernel_rfl) (by kernel_rfl) (by kernel_rfl) (fun c a v w h => HQ2.out c a _ v w h) (by kernel_rfl) (.int .u64 X) (fun W h => by kernel_rfl) hw45 ?_
            try simp only [Act.put, List.setIfInBounds_toArray, List.set_cons_zero, List.set_cons_succ]
            refine wpAnyH_ready (rs := [10]) (by kernel_rfl) (by decide) ?_
            refine AllReadyH.cons rfl (fun K hK => ?_) AllReadyH.nil
            refine step_store none (by kernel_rfl) (by kernel_rfl) 27 (.tmp 11) (.tmp 44) rfl g11 (by kernel_rfl) 27 Z (srcV t A2 c2) ex48.1 (by kernel_rfl) (ZT.out _ _) (ST.out _ _) (OT.out _ _) ?_
            intro w49 hkw49 hsw49 hbw49 how49
            have ex50 := ex46.store ex48.1 ⟨hn7, trivial⟩ hsw49.out hbw49 how49
            have ex51 := ex47.store ex48.1 hA11 hsw49.out hbw49 how49
            have ex52 : Fx [.blk g11 27 (srcV t A2 c2)] w49 := ⟨hkw49.out, trivial⟩
            refine hK.out _ _ (hw45.store ex48.1 ⟨hn3, hAo11, hle11⟩ hsw49.out hbw49 how49) (fun hw49 => ?_)
            clear hK K
            try simp only [Act.put, List.setIfInBounds_toArray, List.set_cons_zero, List.set_cons_succ]
            refine held_v 11 (some 12) rfl (by kernel_rfl) (by kernel_rfl) (by kernel_rfl) (by kernel_rfl) (fun c a v w h => HQ2.out c a _ v w h) (by kernel_rfl) (.int .i64 E) (fun W h => by kernel_rfl) hw49 ?_
            try simp only [Act.put, List.setIfInBounds_toArray, List.set_cons_zero, List.set_cons_succ]
            refine wpAnyH_done (by kernel_rfl) ?_ _
            refine HQ1.out _ _ ?_
            clear HQ1 HQ2
            have HS6 := Lib.hid hw49
            have HZ6 := Lib.hid ex50
            have H11 : Hid (Blk w49 g11 27 (srcV t A2 c2)) := Lib.hid ex52.1
            have HR2 := Lib.hid ex51
            have HOF : Hid (Fx.off g3 V [.blk g7 27 Z]) := Lib.hid ⟨Nat.ne_of_gt HS6.out.lt, trivial⟩
            have HV2 : Hid (∃ V2, srcV t A2 c2 = V2) := Lib.hid ⟨_, rfl⟩
            have SV2 := Lib.hid (ST.out A2 c2)
            have OV2 := Lib.hid (OT.out A2 c2)
            have ZV2 := Lib.hid (ZT.out A2 c2)
            have HM2 := Lib.hid (fun h h2 W h3 h4 => HEM.out h h2 A2 c2 W h3 h4 hSP.out hC2.out hM2.out)
            have HH2 := Lib.hid (fun h h2 w' h3 h4 => HEH.out h h2 A2 c2 w' hSP.out hC2.out hM2.out h3 h4)
            obtain ⟨V2, hV2⟩ := HV2.out
            rw [hV2] at H11 SV2 OV2 ZV2 HM2 HH2
            have A23 := Lib.hid hA23.out
            have A27 := Lib.hid hA27.out
            by_cases hE0 : E = 0
            · have t1 : (E == 0) = true := by rw [beq_iff_eq]; exact hE0
              have t2 : (E != 0) = false := by rw [bne, t1]; rfl
              by_cases hx : X < n
              · have VV2 := Lib.hid (show V.size = V2.size by rw [← ZV.out, ZV2.out])
                go_wp2_with (first
                  | (with_reducible refine at_any ?_; refine at_dst 50 rfl ?_; refine wpList_load_blk rfl 27 (.tmp 11) rfl g11 rfl 27 V2 H11.out _ Tryd.underlying27 rfl SV2.out ?_)
                  | (with_reducible refine at_any ?_; refine at_store 3 rfl ?_; refine wpList_store_any rfl 27 (.tmp 3) (.tmp 50) rfl g3 rfl 27 V V2 HS6.out.blk rfl VV2.out SV2.out OV2.out ?_; intro w9 hk9 hs9 hb9 ho9; have HS := HS6.out.put3 HR2.out A23.out A27.out hk9.out hs9.out hb9 ho9; have HZ := HZ6.out.store HS6.out.blk HOF.out hs9.out hb9 ho9))
                have HZ7 := HZ.drew
                refine wp_region_held_drew (S := (DrS w g3 g7 V2 A2 L zs)) (by kernel_rfl) HS.drew (fun hH => ?_)
                refine wpAnyH_letter #[false, false, false, false, false] (by kernel_rfl) (fun _ _ d _ _ h => by cases d <;> exact h) (fun QL HQ1 HQ2 => ?_)
                refine held_v 0 (some 54) rfl (by kernel_rfl) (by kernel_rfl) (by kernel_rfl) (by kernel_rfl) (fun c a v w h => HQ2.out c a _ v w h) (by kernel_rfl) (.int .u64 X) (fun W h => by kernel_rfl) hH ?_
                try simp only [Act.put, List.setIfInBounds_toArray, List.set_cons_zero, List.set_cons_succ]
                refine held_row 1 (some 55) rfl (by kernel_rfl) (by kernel_rfl) (by kernel_rfl) (by kernel_rfl) (fun c a v w h => HQ2.out c a _ v w h) (by kernel_rfl) 27 (.tmp 3) rfl g3 (by kernel_rfl) 27 V2 (fun _ h => h.blk) _ Tryd.underlying27 rfl SV2.out hH ?_
                try simp only [Act.put, List.setIfInBounds_toArray, List.set_cons_zero, List.set_cons_succ]
                refine held_v 2 (some 6) rfl (by kernel_rfl) (by kernel_rfl) (by kernel_rfl) (by kernel_rfl) (fun c a v w h => HQ2.out c a _ v w h) (by kernel_rfl) (.int .u64 X) (fun W h => by kernel_rfl) hH ?_
                try simp only [Act.put, List.setIfInBounds_toArray, List.set_cons_zero, List.set_cons_succ]
                refine wpAnyH_ready (rs := [3]) (by kernel_rfl) (by decide) ?_
                refine AllReadyH.cons rfl (fun K hK => ?_) AllReadyH.nil
                refine step_store none (by kernel_rfl) (by kernel_rfl) 27 (.tmp 7) (.tmp 55) rfl g7 (by kernel_rfl) 27 Z V2 HZ7.1 (by kernel_rfl) ZV2.out SV2.out OV2.out ?_
                intro w141 hkw141 hsw141 hbw141 how141
                have ex142 : Fx [.blk g7 27 V2] w141 := ⟨hkw141.out, trivial⟩
                refine hK.out _ _ (hH.store HZ7.1 hH.store7 hsw141.out hbw141 how141) (fun hw141 => ?_)
                clear hK K
                try simp only [Act.put, List.setIfInBounds_toArray, List.set_cons_zero, List.set_cons_succ]
                refine held_v 4 (some 8) rfl (by kernel_rfl) (by kernel_rfl) (by kernel_rfl) (by kernel_rfl) (fun c a v w h => HQ2.out c a _ v w h) (by kernel_rfl) (.int .i64 0) (fun W h => by kernel_rfl) hw141 ?_
                try simp only [Act.put, List.setIfInBounds_toArray, List.set_cons_zero, List.set_cons_succ]
                refine wpAnyH_done (by kernel_rfl) ?_ _
                refine HQ1.out _ _ ?_
                clear HQ1 HQ2
                go_wp2_with (refine bodyPost_mid 6 7 8 27 rfl g7 rfl (.int .u64 X) (.int .i64 0) rfl rfl 27 V2 ex142.1 _ Tryd.underlying27 rfl SV2.out rfl ?_)
                exact HH2.out hE0 hx _ hw141.rd.rd hw141.bel
              · have hx2 : n ≤ X := by omega
                have VV2 := Lib.hid (show V.size = V2.size by rw [← ZV.out, ZV2.out])
                go_wp2_with (first
                  | (with_reducible refine at_any ?_; refine at_dst 50 rfl ?_; refine wpList_load_blk rfl 27 (.tmp 11) rfl g11 rfl 27 V2 H11.out _ Tryd.underlying27 rfl SV2.out ?_)
                  | (with_reducible refine at_any ?_; refine at_store 3 rfl ?_; refine wpList_store_any rfl 27 (.tmp 3) (.tmp 50) rfl g3 rfl 27 V V2 HS6.out.blk rfl VV2.out SV2.out OV2.out ?_; intro w9 hk9 hs9 hb9 ho9; have HS := HS6.out.put3 HR2.out A23.out A27.out hk9.out hs9.out hb9 ho9; have HZ := HZ6.out.store HS6.out.blk HOF.out hs9.out hb9 ho9))
                have HF := Lib.hid (HM2.out hE0 (by first | exact hx2 | exact Int.not_lt.2 hx2) _ HS HZ)
                clear HS HZ
                go_roundw
                case rel => exact ⟨i + 1, by omega, by go_num, HF.out⟩
                case measure => simp [intOf]; omega
            · have t1 : (E == 0) = false := by rw [beq_eq_false_iff_ne]; exact hE0
              have t2 : (E != 0) = true := by rw [bne, t1]; rfl
              go_wp2_with fail
              have HZ7 := HZ6.out.drew
              refine wp_region_held_drew (S := (DrS w g3 g7 V A L zs)) (by kernel_rfl) HS6.out.drew (fun hH => ?_)
              refine wpAnyH_letter #[false, false, false, false, false] (by kernel_rfl) (fun _ _ d _ _ h => by cases d <;> exact h) (fun QL HQ1 HQ2 => ?_)
              refine held_row 0 (some 48) rfl (by kernel_rfl) (by kernel_rfl) (by kernel_rfl) (by kernel_rfl) (fun c a v w h => HQ2.out c a _ v w h) (by kernel_rfl) 27 (.tmp 3) rfl g3 (by kernel_rfl) 27 V (fun _ h => h.blk) _ Tryd.underlying27 rfl SV.out hH ?_
              try simp only [Act.put, List.setIfInBounds_toArray, List.set_cons_zero, List.set_cons_succ]
              refine held_v 1 (some 49) rfl (by kernel_rfl) (by kernel_rfl) (by kernel_rfl) (by kernel_rfl) (fun c a v w h => HQ2.out c a _ v w h) (by kernel_rfl) (.int .i64 E) (fun W h => by kernel_rfl) hH ?_
              try simp only [Act.put, List.setIfInBounds_toArray, List.set_cons_zero, List.set_cons_succ]
              refine held_v 2 (some 6) rfl (by kernel_rfl) (by kernel_rfl) (by kernel_rfl) (by kernel_rfl) (fun c a v w h => HQ2.out c a _ v w h) (by kernel_rfl) (.int .u64 0) (fun W h => by kernel_rfl) hH ?_
              try simp only [Act.put, List.setIfInBounds_toArray, List.set_cons_zero, List.set_cons_succ]
              refine wpAnyH_ready (rs := [3]) (by kernel_rfl) (by decide) ?_
              refine AllReadyH.cons rfl (fun K hK => ?_) AllReadyH.nil
              refine step_store none (by kernel_rfl) (by kernel_rfl) 27 (.tmp 7) (.tmp 48) rfl g7 (by kernel_rfl) 27 Z V HZ7.1 (by kernel_rfl) ZV.out SV.out OV.out ?_
              intro w141 hkw141 hsw141 hbw141 how141
              have ex142 : Fx [.blk g7 27 V] w141 := ⟨hkw141.out, trivial⟩
              refine hK.out _ _ (hH.store HZ7.1 hH.store7 hsw141.out hbw141 how141) (fun hw141 => ?_)
              clear hK K
              try simp only [Act.put, List.setIfInBounds_toArray, List.set_cons_zero, List.set_cons_succ]
              refine held_v 4 (some 8) rfl (by kernel_rfl) (by kernel_rfl) (by kernel_rfl) (by kernel_rfl) (fun c a v w h => HQ2.out c a _ v w h) (by kernel_rfl) (.int .i64 E) (fun W h => by kernel_rfl) hw141 ?_
              try simp only [Act.put, List.setIfInBounds_toArray, List.set_cons_zero, List.set_cons_succ]
              refine wpAnyH_done (by kernel_rfl) ?_ _
              refine HQ1.out _ _ ?_
              clear HQ1 HQ2
              go_wp2_with (refine bodyPost_mid 6 7 8 27 rfl g7 rfl (.int .u64 0) (.int .i64 E) rfl rfl 27 V ex142.1 _ Tryd.underlying27 rfl SV.out rfl ?_)
              exact HEZ.out hE0 _ hw141.rd.rd hw141.bel
          · refine step_alloc (some 11) (by kernel_rfl) (by kernel_rfl) 27 rfl Z HZ0.out ?_
            intro w53 hkw53 hsw53 hbw53
            obtain ⟨g11, hg11⟩ : ∃ g, wr.drew.heap.size = g := ⟨_, rfl⟩
            have hAo11 := Apt.of_lt (g := g11) hH.rd.rd (Nat.le_of_eq hg11)
            have hn3 : g3 ≠ g11 := by have := hH.lt3; omega
            have hn7 : g7 ≠ g11 := by have := hH.lt7; omega
            have hle11 : w.heap.size ≤ g11 := by have := hH.bel.size; omega
            rw [hg11] at hkw53
            rw [hg11]
            have ex54 := HZ7.below hbw53
            have ex55 : Fx [.blk g11 27 Z] w53 := ⟨hkw53.out, trivial⟩
            refine hK.out _ _ (hH.below hbw53) (fun hw53 => ?_)
            clear hK K
            try simp only [Act.put, List.setIfInBounds_toArray, List.set_cons_zero, List.set_cons_succ]
            refine wpAnyH_ready (rs := [3]) (by kernel_rfl) (by decide) ?_
            refine AllReadyH.cons rfl (fun K hK => ?_) AllReadyH.nil
            refine step_call (some 42) (by kernel_rfl) (by kernel_rfl) _ _ (by kernel_rfl) _ (HTK.out w53 hw53.rd) ?_
            rintro e w56 ⟨A2, c2, rfl, hrd2, hc2, hm2, hsp2, hbw56⟩
            have hSP : Hid (Sep w A0 A2) := Lib.hid (Sep.trans HSP.out hsp2 hw53.bel.size)
            have hA23 := Lib.hid (Apt.of_sep hsp2 hw53.apt3 hw53.lt3)
            have hA27 := Lib.hid (Apt.of_sep hsp2 hw53.apt7 hw53.lt7)
            have hC2 := Lib.hid hc2
            have hM2 := Lib.hid hm2
            have hA11 := Apt.of_sep hsp2 hAo11 ex55.1.lt
            have ex57 := ex54.below hbw56
            have ex58 := ex55.below hbw56
            have ex59 : RdP A2 L zs w56 := hrd2
            clear hrd2 hc2 hm2 hsp2
            refine ⟨_, rfl, ?_⟩
            refine hK.out _ _ (hw53.below hbw56) (fun hw56 => ?_)
            clear hK K
            try simp only [Act.put, List.setIfInBounds_toArray, List.set_cons_zero, List.set_cons_succ]
            refine held_v 4 (some 38) rfl (by kernel_rfl) (by kernel_rfl) (by kernel_rfl) (by kernel_rfl) (fun c a v w h => HQ2.out c a _ v w h) (by kernel_rfl) (.tuple #[.int .u64 X, .agg (srcV t A2 c2), .int .i64 E]) (fun W h => by kernel_rfl) hw56 ?_
            try simp only [Act.put, List.setIfInBounds_toArray, List.set_cons_zero, List.set_cons_succ]
            refine held_v 5 (some 43) rfl (by kernel_rfl) (by kernel_rfl) (by kernel_rfl) (by kernel_rfl) (fun c a v w h => HQ2.out c a _ v w h) (by kernel_rfl) (.int .u64 X) (fun W h => by kernel_rfl) hw56 ?_
            try simp only [Act.put, List.setIfInBounds_toArray, List.set_cons_zero, List.set_cons_succ]
            refine held_v 6 (some 44) rfl (by kernel_rfl) (by kernel_rfl) (by kernel_rfl) (by kernel_rfl) (fun c a v w h => HQ2.out c a _ v w h) (by kernel_rfl) (.agg (srcV t A2 c2)) (fun W h => by kernel_rfl) hw56 ?_
            try simp only [Act.put, List.setIfInBounds_toArray, List.set_cons_zero, List.set_cons_succ]
            refine held_v 7 (some 45) rfl (by kernel_rfl) (by kernel_rfl) (by kernel_rfl) (by kernel_rfl) (fun c a v w h => HQ2.out c a _ v w h) (by kernel_rfl) (.int .i64 E) (fun W h => by kernel_rfl) hw56 ?_
            try simp only [Act.put, List.setIfInBounds_toArray, List.set_cons_zero, List.set_cons_succ]
            refine held_v 9 (some 10) rfl (by kernel_rfl) (by kernel_rfl) (by kernel_rfl) (by kernel_rfl) (fun c a v w h => HQ2.out c a _ v w h) (by kernel_rfl) (.int .u64 X) (fun W h => by kernel_rfl) hw56 ?_
            try simp only [Act.put, List.setIfInBounds_toArray, List.set_cons_zero, List.set_cons_succ]
            refine wpAnyH_ready (rs := [10]) (by kernel_rfl) (by decide) ?_
            refine AllReadyH.cons rfl (fun K hK => ?_) AllReadyH.nil
            refine step_store none (by kernel_rfl) (by kernel_rfl) 27 (.tmp 11) (.tmp 44) rfl g11 (by kernel_rfl) 27 Z (srcV t A2 c2) ex58.1 (by kernel_rfl) (ZT.out _ _) (ST.out _ _) (OT.out _ _) ?_
            intro w60 hkw60 hsw60 hbw60 how60
            have ex61 := ex57.store ex58.1 ⟨hn7, trivial⟩ hsw60.out hbw60 how60
            have ex62 := ex59.store ex58.1 hA11 hsw60.out hbw60 how60
            have ex63 : Fx [.blk g11 27 (srcV t A2 c2)] w60 := ⟨hkw60.out, trivial⟩
            refine hK.out _ _ (hw56.store ex58.1 ⟨hn3, hAo11, hle11⟩ hsw60.out hbw60 how60) (fun hw60 => ?_)
            clear hK K
            try simp only [Act.put, List.setIfInBounds_toArray, List.set_cons_zero, List.set_cons_succ]
            refine held_v 11 (some 12) rfl (by kernel_rfl) (by kernel_rfl) (by kernel_rfl) (by kernel_rfl) (fun c a v w h => HQ2.out c a _ v w h) (by kernel_rfl) (.int .i64 E) (fun W h => by kernel_rfl) hw60 ?_
            try simp only [Act.put, List.setIfInBounds_toArray, List.set_cons_zero, List.set_cons_succ]
            refine wpAnyH_done (by kernel_rfl) ?_ _
            refine HQ1.out _ _ ?_
            clear HQ1 HQ2
            have HS6 := Lib.hid hw60
            have HZ6 := Lib.hid ex61
            have H11 : Hid (Blk w60 g11 27 (srcV t A2 c2)) := Lib.hid ex63.1
            have HR2 := Lib.hid ex62
            have HOF : Hid (Fx.off g3 V [.blk g7 27 Z]) := Lib.hid ⟨Nat.ne_of_gt HS6.out.lt, trivial⟩
            have HV2 : Hid (∃ V2, srcV t A2 c2 = V2) := Lib.hid ⟨_, rfl⟩
            have SV2 := Lib.hid (ST.out A2 c2)
            have OV2 := Lib.hid (OT.out A2 c2)
            have ZV2 := Lib.hid (ZT.out A2 c2)
            have HM2 := Lib.hid (fun h h2 W h3 h4 => HEM.out h h2 A2 c2 W h3 h4 hSP.out hC2.out hM2.out)
            have HH2 := Lib.hid (fun h h2 w' h3 h4 => HEH.out h h2 A2 c2 w' hSP.out hC2.out hM2.out h3 h4)
            obtain ⟨V2, hV2⟩ := HV2.out
            rw [hV2] at H11 SV2 OV2 ZV2 HM2 HH2
            have A23 := Lib.hid hA23.out
            have A27 := Lib.hid hA27.out
            by_cases hE0 : E = 0
            · have t1 : (E == 0) = true := by rw [beq_iff_eq]; exact hE0
              have t2 : (E != 0) = false := by rw [bne, t1]; rfl
              by_cases hx : X < n
              · have VV2 := Lib.hid (show V.size = V2.size by rw [← ZV.out, ZV2.out])
                go_wp2_with (first
                  | (with_reducible refine at_any ?_; refine at_dst 50 rfl ?_; refine wpList_load_blk rfl 27 (.tmp 11) rfl g11 rfl 27 V2 H11.out _ Tryd.underlying27 rfl SV2.out ?_)
                  | (with_reducible refine at_any ?_; refine at_store 3 rfl ?_; refine wpList_store_any rfl 27 (.tmp 3) (.tmp 50) rfl g3 rfl 27 V V2 HS6.out.blk rfl VV2.out SV2.out OV2.out ?_; intro w9 hk9 hs9 hb9 ho9; have HS := HS6.out.put3 HR2.out A23.out A27.out hk9.out hs9.out hb9 ho9; have HZ := HZ6.out.store HS6.out.blk HOF.out hs9.out hb9 ho9))
                have HZ7 := HZ.drew
                refine wp_region_held_drew (S := (DrS w g3 g7 V2 A2 L zs)) (by kernel_rfl) HS.drew (fun hH => ?_)
                refine wpAnyH_letter #[false, false, false, false, false] (by kernel_rfl) (fun _ _ d _ _ h => by cases d <;> exact h) (fun QL HQ1 HQ2 => ?_)
                refine held_v 0 (some 54) rfl (by kernel_rfl) (by kernel_rfl) (by kernel_rfl) (by kernel_rfl) (fun c a v w h => HQ2.out c a _ v w h) (by kernel_rfl) (.int .u64 X) (fun W h => by kernel_rfl) hH ?_
                try simp only [Act.put, List.setIfInBounds_toArray, List.set_cons_zero, List.set_cons_succ]
                refine held_row 1 (some 55) rfl (by kernel_rfl) (by kernel_rfl) (by kernel_rfl) (by kernel_rfl) (fun c a v w h => HQ2.out c a _ v w h) (by kernel_rfl) 27 (.tmp 3) rfl g3 (by kernel_rfl) 27 V2 (fun _ h => h.blk) _ Tryd.underlying27 rfl SV2.out hH ?_
                try simp only [Act.put, List.setIfInBounds_toArray, List.set_cons_zero, List.set_cons_succ]
                refine held_v 2 (some 6) rfl (by kernel_rfl) (by kernel_rfl) (by kernel_rfl) (by kernel_rfl) (fun c a v w h => HQ2.out c a _ v w h) (by kernel_rfl) (.int .u64 X) (fun W h => by kernel_rfl) hH ?_
                try simp only [Act.put, List.setIfInBounds_toArray, List.set_cons_zero, List.set_cons_succ]
                refine wpAnyH_ready (rs := [3]) (by kernel_rfl) (by decide) ?_
                refine AllReadyH.cons rfl (fun K hK => ?_) AllReadyH.nil
                refine step_store none (by kernel_rfl) (by kernel_rfl) 27 (.tmp 7) (.tmp 55) rfl g7 (by kernel_rfl) 27 Z V2 HZ7.1 (by kernel_rfl) ZV2.out SV2.out OV2.out ?_
                intro w141 hkw141 hsw141 hbw141 how141
                have ex142 : Fx [.blk g7 27 V2] w141 := ⟨hkw141.out, trivial⟩
                refine hK.out _ _ (hH.store HZ7.1 hH.store7 hsw141.out hbw141 how141) (fun hw141 => ?_)
                clear hK K
                try simp only [Act.put, List.setIfInBounds_toArray, List.set_cons_zero, List.set_cons_succ]
                refine held_v 4 (some 8) rfl (by kernel_rfl) (by kernel_rfl) (by kernel_rfl) (by kernel_rfl) (fun c a v w h => HQ2.out c a _ v w h) (by kernel_rfl) (.int .i64 0) (fun W h => by kernel_rfl) hw141 ?_
                try simp only [Act.put, List.setIfInBounds_toArray, List.set_cons_zero, List.set_cons_succ]
                refine wpAnyH_done (by kernel_rfl) ?_ _
                refine HQ1.out _ _ ?_
                clear HQ1 HQ2
                go_wp2_with (refine bodyPost_mid 6 7 8 27 rfl g7 rfl (.int .u64 X) (.int .i64 0) rfl rfl 27 V2 ex142.1 _ Tryd.underlying27 rfl SV2.out rfl ?_)
                exact HH2.out hE0 hx _ hw141.rd.rd hw141.bel
              · have hx2 : n ≤ X := by omega
                have VV2 := Lib.hid (show V.size = V2.size by rw [← ZV.out, ZV2.out])
                go_wp2_with (first
                  | (with_reducible refine at_any ?_; refine at_dst 50 rfl ?_; refine wpList_load_blk rfl 27 (.tmp 11) rfl g11 rfl 27 V2 H11.out _ Tryd.underlying27 rfl SV2.out ?_)
                  | (with_reducible refine at_any ?_; refine at_store 3 rfl ?_; refine wpList_store_any rfl 27 (.tmp 3) (.tmp 50) rfl g3 rfl 27 V V2 HS6.out.blk rfl VV2.out SV2.out OV2.out ?_; intro w9 hk9 hs9 hb9 ho9; have HS := HS6.out.put3 HR2.out A23.out A27.out hk9.out hs9.out hb9 ho9; have HZ := HZ6.out.store HS6.out.blk HOF.out hs9.out hb9 ho9))
                have HF := Lib.hid (HM2.out hE0 (by first | exact hx2 | exact Int.not_lt.2 hx2) _ HS HZ)
                clear HS HZ
                go_roundw
                case rel => exact ⟨i + 1, by omega, by go_num, HF.out⟩
                case measure => simp [intOf]; omega
            · have t1 : (E == 0) = false := by rw [beq_eq_false_iff_ne]; exact hE0
              have t2 : (E != 0) = true := by rw [bne, t1]; rfl
              go_wp2_with fail
              have HZ7 := HZ6.out.drew
              refine wp_region_held_drew (S := (DrS w g3 g7 V A L zs)) (by kernel_rfl) HS6.out.drew (fun hH => ?_)
              refine wpAnyH_letter #[false, false, false, false, false] (by kernel_rfl) (fun _ _ d _ _ h => by cases d <;> exact h) (fun QL HQ1 HQ2 => ?_)
              refine held_row 0 (some 48) rfl (by kernel_rfl) (by kernel_rfl) (by kernel_rfl) (by kernel_rfl) (fun c a v w h => HQ2.out c a _ v w h) (by kernel_rfl) 27 (.tmp 3) rfl g3 (by kernel_rfl) 27 V (fun _ h => h.blk) _ Tryd.underlying27 rfl SV.out hH ?_
              try simp only [Act.put, List.setIfInBounds_toArray, List.set_cons_zero, List.set_cons_succ]
              refine held_v 1 (some 49) rfl (by kernel_rfl) (by kernel_rfl) (by kernel_rfl) (by kernel_rfl) (fun c a v w h => HQ2.out c a _ v w h) (by kernel_rfl) (.int .i64 E) (fun W h => by kernel_rfl) hH ?_
              try simp only [Act.put, List.setIfInBounds_toArray, List.set_cons_zero, List.set_cons_succ]
              refine held_v 2 (some 6) rfl (by kernel_rfl) (by kernel_rfl) (by kernel_rfl) (by kernel_rfl) (fun c a v w h => HQ2.out c a _ v w h) (by kernel_rfl) (.int .u64 0) (fun W h => by kernel_rfl) hH ?_
              try simp only [Act.put, List.setIfInBounds_toArray, List.set_cons_zero, List.set_cons_succ]
              refine wpAnyH_ready (rs := [3]) (by kernel_rfl) (by decide) ?_
              refine AllReadyH.cons rfl (fun K hK => ?_) AllReadyH.nil
              refine step_store none (by kernel_rfl) (by kernel_rfl) 27 (.tmp 7) (.tmp 48) rfl g7 (by kernel_rfl) 27 Z V HZ7.1 (by kernel_rfl) ZV.out SV.out OV.out ?_
              intro w141 hkw141 hsw141 hbw141 how141
              have ex142 : Fx [.blk g7 27 V] w141 := ⟨hkw141.out, trivial⟩
              refine hK.out _ _ (hH.store HZ7.1 hH.store7 hsw141.out hbw141 how141) (fun hw141 => ?_)
              clear hK K
              try simp only [Act.put, List.setIfInBounds_toArray, List.set_cons_zero, List.set_cons_succ]
              refine held_v 4 (some 8) rfl (by kernel_rfl) (by kernel_rfl) (by kernel_rfl) (by kernel_rfl) (fun c a v w h => HQ2.out c a _ v w h) (by kernel_rfl) (.int .i64 E) (fun W h => by kernel_rfl) hw141 ?_
              try simp only [Act.put, List.setIfInBounds_toArray, List.set_cons_zero, List.set_cons_succ]
              refine wpAnyH_done (by kernel_rfl) ?_ _
              refine HQ1.out _ _ ?_
              clear HQ1 HQ2
              go_wp2_with (refine bodyPost_mid 6 7 8 27 rfl g7 rfl (.int .u64 0) (.int .i64 E) rfl rfl 27 V ex142.1 _ Tryd.underlying27 rfl SV.out rfl ?_)
              exact HEZ.out hE0 _ hw141.rd.rd hw141.bel
        · refine step_alloc (some 11) (by kernel_rfl) (by kernel_rfl) 27 rfl Z HZ0.out ?_
          intro w64 hkw64 hsw64 hbw64
          obtain ⟨g11, hg11⟩ : ∃ g, wr.drew.heap.size = g := ⟨_, rfl⟩
          have hAo11 := Apt.of_lt (g := g11) hH.rd.rd (Nat.le_of_eq hg11)
          have hn3 : g3 ≠ g11 := by have := hH.lt3; omega
          have hn7 : g7 ≠ g11 := by have := hH.lt7; omega
          have hle11 : w.heap.size ≤ g11 := by have := hH.bel.size; omega
          rw [hg11] at hkw64
          rw [hg11]
          have ex65 := HZ7.below hbw64
          have ex66 : Fx [.blk g11 27 Z] w64 := ⟨hkw64.out, trivial⟩
          refine hK.out _ _ (hH.below hbw64) (fun hw64 => ?_)
          clear hK K
          try simp only [Act.put, List.setIfInBounds_toArray, List.set_cons_zero, List.set_cons_succ]
          refine wpAnyH_ready (rs := [2]) (by kernel_rfl) (by decide) ?_
          refine AllReadyH.cons rfl (fun K hK => ?_) AllReadyH.nil
          refine step_call (some 41) (by kernel_rfl) (by kernel_rfl) _ _ (by kernel_rfl) _ (HND.out _) ?_
          rintro e _ ⟨rfl, rfl⟩
          refine ⟨_, rfl, ?_⟩
          refine hK.out _ _ hw64 (fun _ => ?_)
          clear hK K
          try simp only [Act.put, List.setIfInBounds_toArray, List.set_cons_zero, List.set_cons_succ]
          refine wpAnyH_ready (rs := [3]) (by kernel_rfl) (by decide) ?_
          refine AllReadyH.cons rfl (fun K hK => ?_) AllReadyH.nil
          refine step_call (some 42) (by kernel_rfl) (by kernel_rfl) _ _ (by kernel_rfl) _ (HTK.out w64 hw64.rd) ?_
          rintro e w68 ⟨A2, c2, rfl, hrd2, hc2, hm2, hsp2, hbw68⟩
          have hSP : Hid (Sep w A0 A2) := Lib.hid (Sep.trans HSP.out hsp2 hw64.bel.size)
          have hA23 := Lib.hid (Apt.of_sep hsp2 hw64.apt3 hw64.lt3)
          have hA27 := Lib.hid (Apt.of_sep hsp2 hw64.apt7 hw64.lt7)
          have hC2 := Lib.hid hc2
          have hM2 := Lib.hid hm2
          have hA11 := Apt.of_sep hsp2 hAo11 ex66.1.lt
          have ex69 := ex65.below hbw68
          have ex70 := ex66.below hbw68
          have ex71 : RdP A2 L zs w68 := hrd2
          clear hrd2 hc2 hm2 hsp2
          refine ⟨_, rfl, ?_⟩
          refine hK.out _ _ (hw64.below hbw68) (fun hw68 => ?_)
          clear hK K
          try simp only [Act.put, List.setIfInBounds_toArray, List.set_cons_zero, List.set_cons_succ]
          refine held_v 4 (some 38) rfl (by kernel_rfl) (by kernel_rfl) (by kernel_rfl) (by kernel_rfl) (fun c a v w h => HQ2.out c a _ v w h) (by kernel_rfl) (.tuple #[.int .u64 X, .agg (srcV t A2 c2), .int .i64 E]) (fun W h => by kernel_rfl) hw68 ?_
          try simp only [Act.put, List.setIfInBounds_toArray, List.set_cons_zero, List.set_cons_succ]
          refine held_v 5 (some 43) rfl (by kernel_rfl) (by kernel_rfl) (by kernel_rfl) (by kernel_rfl) (fun c a v w h => HQ2.out c a _ v w h) (by kernel_rfl) (.int .u64 X) (fun W h => by kernel_rfl) hw68 ?_
          try simp only [Act.put, List.setIfInBounds_toArray, List.set_cons_zero, List.set_cons_succ]
          refine held_v 6 (some 44) rfl (by kernel_rfl) (by kernel_rfl) (by kernel_rfl) (by kernel_rfl) (fun c a v w h => HQ2.out c a _ v w h) (by kernel_rfl) (.agg (srcV t A2 c2)) (fun W h => by kernel_rfl) hw68 ?_
          try simp only [Act.put, List.setIfInBounds_toArray, List.set_cons_zero, List.set_cons_succ]
          refine held_v 7 (some 45) rfl (by kernel_rfl) (by kernel_rfl) (by kernel_rfl) (by kernel_rfl) (fun c a v w h => HQ2.out c a _ v w h) (by kernel_rfl) (.int .i64 E) (fun W h => by kernel_rfl) hw68 ?_
          try simp only [Act.put, List.setIfInBounds_toArray, List.set_cons_zero, List.set_cons_succ]
          refine held_v 9 (some 10) rfl (by kernel_rfl) (by kernel_rfl) (by kernel_rfl) (by kernel_rfl) (fun c a v w h => HQ2.out c a _ v w h) (by kernel_rfl) (.int .u64 X) (fun W h => by kernel_rfl) hw68 ?_
          try simp only [Act.put, List.setIfInBounds_toArray, List.set_cons_zero, List.set_cons_succ]
          refine wpAnyH_ready (rs := [10]) (by kernel_rfl) (by decide) ?_
          refine AllReadyH.cons rfl (fun K hK => ?_) AllReadyH.nil
          refine step_store none (by kernel_rfl) (by kernel_rfl) 27 (.tmp 11) (.tmp 44) rfl g11 (by kernel_rfl) 27 Z (srcV t A2 c2) ex70.1 (by kernel_rfl) (ZT.out _ _) (ST.out _ _) (OT.out _ _) ?_
          intro w72 hkw72 hsw72 hbw72 how72
          have ex73 := ex69.store ex70.1 ⟨hn7, trivial⟩ hsw72.out hbw72 how72
          have ex74 := ex71.store ex70.1 hA11 hsw72.out hbw72 how72
          have ex75 : Fx [.blk g11 27 (srcV t A2 c2)] w72 := ⟨hkw72.out, trivial⟩
          refine hK.out _ _ (hw68.store ex70.1 ⟨hn3, hAo11, hle11⟩ hsw72.out hbw72 how72) (fun hw72 => ?_)
          clear hK K
          try simp only [Act.put, List.setIfInBounds_toArray, List.set_cons_zero, List.set_cons_succ]
          refine held_v 11 (some 12) rfl (by kernel_rfl) (by kernel_rfl) (by kernel_rfl) (by kernel_rfl) (fun c a v w h => HQ2.out c a _ v w h) (by kernel_rfl) (.int .i64 E) (fun W h => by kernel_rfl) hw72 ?_
          try simp only [Act.put, List.setIfInBounds_toArray, List.set_cons_zero, List.set_cons_succ]
          refine wpAnyH_done (by kernel_rfl) ?_ _
          refine HQ1.out _ _ ?_
          clear HQ1 HQ2
          have HS6 := Lib.hid hw72
          have HZ6 := Lib.hid ex73
          have H11 : Hid (Blk w72 g11 27 (srcV t A2 c2)) := Lib.hid ex75.1
          have HR2 := Lib.hid ex74
          have HOF : Hid (Fx.off g3 V [.blk g7 27 Z]) := Lib.hid ⟨Nat.ne_of_gt HS6.out.lt, trivial⟩
          have HV2 : Hid (∃ V2, srcV t A2 c2 = V2) := Lib.hid ⟨_, rfl⟩
          have SV2 := Lib.hid (ST.out A2 c2)
          have OV2 := Lib.hid (OT.out A2 c2)
          have ZV2 := Lib.hid (ZT.out A2 c2)
          have HM2 := Lib.hid (fun h h2 W h3 h4 => HEM.out h h2 A2 c2 W h3 h4 hSP.out hC2.out hM2.out)
          have HH2 := Lib.hid (fun h h2 w' h3 h4 => HEH.out h h2 A2 c2 w' hSP.out hC2.out hM2.out h3 h4)
          obtain ⟨V2, hV2⟩ := HV2.out
          rw [hV2] at H11 SV2 OV2 ZV2 HM2 HH2
          have A23 := Lib.hid hA23.out
          have A27 := Lib.hid hA27.out
          by_cases hE0 : E = 0
          · have t1 : (E == 0) = true := by rw [beq_iff_eq]; exact hE0
            have t2 : (E != 0) = false := by rw [bne, t1]; rfl
            by_cases hx : X < n
            · have VV2 := Lib.hid (show V.size = V2.size by rw [← ZV.out, ZV2.out])
              go_wp2_with (first
                | (with_reducible refine at_any ?_; refine at_dst 50 rfl ?_; refine wpList_load_blk rfl 27 (.tmp 11) rfl g11 rfl 27 V2 H11.out _ Tryd.underlying27 rfl SV2.out ?_)
                | (with_reducible refine at_any ?_; refine at_store 3 rfl ?_; refine wpList_store_any rfl 27 (.tmp 3) (.tmp 50) rfl g3 rfl 27 V V2 HS6.out.blk rfl VV2.out SV2.out OV2.out ?_; intro w9 hk9 hs9 hb9 ho9; have HS := HS6.out.put3 HR2.out A23.out A27.out hk9.out hs9.out hb9 ho9; have HZ := HZ6.out.store HS6.out.blk HOF.out hs9.out hb9 ho9))
              have HZ7 := HZ.drew
              refine wp_region_held_drew (S := (DrS w g3 g7 V2 A2 L zs)) (by kernel_rfl) HS.drew (fun hH => ?_)
              refine wpAnyH_letter #[false, false, false, false, false] (by kernel_rfl) (fun _ _ d _ _ h => by cases d <;> exact h) (fun QL HQ1 HQ2 => ?_)
              refine held_v 0 (some 54) rfl (by kernel_rfl) (by kernel_rfl) (by kernel_rfl) (by kernel_rfl) (fun c a v w h => HQ2.out c a _ v w h) (by kernel_rfl) (.int .u64 X) (fun W h => by kernel_rfl) hH ?_
              try simp only [Act.put, List.setIfInBounds_toArray, List.set_cons_zero, List.set_cons_succ]
              refine held_row 1 (some 55) rfl (by kernel_rfl) (by kernel_rfl) (by kernel_rfl) (by kernel_rfl) (fun c a v w h => HQ2.out c a _ v w h) (by kernel_rfl) 27 (.tmp 3) rfl g3 (by kernel_rfl) 27 V2 (fun _ h => h.blk) _ Tryd.underlying27 rfl SV2.out hH ?_
              try simp only [Act.put, List.setIfInBounds_toArray, List.set_cons_zero, List.set_cons_succ]
              refine held_v 2 (some 6) rfl (by kernel_rfl) (by kernel_rfl) (by kernel_rfl) (by kernel_rfl) (fun c a v w h => HQ2.out c a _ v w h) (by kernel_rfl) (.int .u64 X) (fun W h => by kernel_rfl) hH ?_
              try simp only [Act.put, List.setIfInBounds_toArray, List.set_cons_zero, List.set_cons_succ]
              refine wpAnyH_ready (rs := [3]) (by kernel_rfl) (by decide) ?_
              refine AllReadyH.cons rfl (fun K hK => ?_) AllReadyH.nil
              refine step_store none (by kernel_rfl) (by kernel_rfl) 27 (.tmp 7) (.tmp 55) rfl g7 (by kernel_rfl) 27 Z V2 HZ7.1 (by kernel_rfl) ZV2.out SV2.out OV2.out ?_
              intro w141 hkw141 hsw141 hbw141 how141
              have ex142 : Fx [.blk g7 27 V2] w141 := ⟨hkw141.out, trivial⟩
              refine hK.out _ _ (hH.store HZ7.1 hH.store7 hsw141.out hbw141 how141) (fun hw141 => ?_)
              clear hK K
              try simp only [Act.put, List.setIfInBounds_toArray, List.set_cons_zero, List.set_cons_succ]
              refine held_v 4 (some 8) rfl (by kernel_rfl) (by kernel_rfl) (by kernel_rfl) (by kernel_rfl) (fun c a v w h => HQ2.out c a _ v w h) (by kernel_rfl) (.int .i64 0) (fun W h => by kernel_rfl) hw141 ?_
              try simp only [Act.put, List.setIfInBounds_toArray, List.set_cons_zero, List.set_cons_succ]
              refine wpAnyH_done (by kernel_rfl) ?_ _
              refine HQ1.out _ _ ?_
              clear HQ1 HQ2
              go_wp2_with (refine bodyPost_mid 6 7 8 27 rfl g7 rfl (.int .u64 X) (.int .i64 0) rfl rfl 27 V2 ex142.1 _ Tryd.underlying27 rfl SV2.out rfl ?_)
              exact HH2.out hE0 hx _ hw141.rd.rd hw141.bel
            · have hx2 : n ≤ X := by omega
              have VV2 := Lib.hid (show V.size = V2.size by rw [← ZV.out, ZV2.out])
              go_wp2_with (first
                | (with_reducible refine at_any ?_; refine at_dst 50 rfl ?_; refine wpList_load_blk rfl 27 (.tmp 11) rfl g11 rfl 27 V2 H11.out _ Tryd.underlying27 rfl SV2.out ?_)
                | (with_reducible refine at_any ?_; refine at_store 3 rfl ?_; refine wpList_store_any rfl 27 (.tmp 3) (.tmp 50) rfl g3 rfl 27 V V2 HS6.out.blk rfl VV2.out SV2.out OV2.out ?_; intro w9 hk9 hs9 hb9 ho9; have HS := HS6.out.put3 HR2.out A23.out A27.out hk9.out hs9.out hb9 ho9; have HZ := HZ6.out.store HS6.out.blk HOF.out hs9.out hb9 ho9))
              have HF := Lib.hid (HM2.out hE0 (by first | exact hx2 | exact Int.not_lt.2 hx2) _ HS HZ)
              clear HS HZ
              go_roundw
              case rel => exact ⟨i + 1, by omega, by go_num, HF.out⟩
              case measure => simp [intOf]; omega
          · have t1 : (E == 0) = false := by rw [beq_eq_false_iff_ne]; exact hE0
            have t2 : (E != 0) = true := by rw [bne, t1]; rfl
            go_wp2_with fail
            have HZ7 := HZ6.out.drew
            refine wp_region_held_drew (S := (DrS w g3 g7 V A L zs)) (by kernel_rfl) HS6.out.drew (fun hH => ?_)
            refine wpAnyH_letter #[false, false, false, false, false] (by kernel_rfl) (fun _ _ d _ _ h => by cases d <;> exact h) (fun QL HQ1 HQ2 => ?_)
            refine held_row 0 (some 48) rfl (by kernel_rfl) (by kernel_rfl) (by kernel_rfl) (by kernel_rfl) (fun c a v w h => HQ2.out c a _ v w h) (by kernel_rfl) 27 (.tmp 3) rfl g3 (by kernel_rfl) 27 V (fun _ h => h.blk) _ Tryd.underlying27 rfl SV.out hH ?_
            try simp only [Act.put, List.setIfInBounds_toArray, List.set_cons_zero, List.set_cons_succ]
            refine held_v 1 (some 49) rfl (by kernel_rfl) (by kernel_rfl) (by kernel_rfl) (by kernel_rfl) (fun c a v w h => HQ2.out c a _ v w h) (by kernel_rfl) (.int .i64 E) (fun W h => by kernel_rfl) hH ?_
            try simp only [Act.put, List.setIfInBounds_toArray, List.set_cons_zero, List.set_cons_succ]
            refine held_v 2 (some 6) rfl (by kernel_rfl) (by kernel_rfl) (by kernel_rfl) (by kernel_rfl) (fun c a v w h => HQ2.out c a _ v w h) (by kernel_rfl) (.int .u64 0) (fun W h => by kernel_rfl) hH ?_
            try simp only [Act.put, List.setIfInBounds_toArray, List.set_cons_zero, List.set_cons_succ]
            refine wpAnyH_ready (rs := [3]) (by kernel_rfl) (by decide) ?_
            refine AllReadyH.cons rfl (fun K hK => ?_) AllReadyH.nil
            refine step_store none (by kernel_rfl) (by kernel_rfl) 27 (.tmp 7) (.tmp 48) rfl g7 (by kernel_rfl) 27 Z V HZ7.1 (by kernel_rfl) ZV.out SV.out OV.out ?_
            intro w141 hkw141 hsw141 hbw141 how141
            have ex142 : Fx [.blk g7 27 V] w141 := ⟨hkw141.out, trivial⟩
            refine hK.out _ _ (hH.store HZ7.1 hH.store7 hsw141.out hbw141 how141) (fun hw141 => ?_)
            clear hK K
            try simp only [Act.put, List.setIfInBounds_toArray, List.set_cons_zero, List.set_cons_succ]
            refine held_v 4 (some 8) rfl (by kernel_rfl) (by kernel_rfl) (by kernel_rfl) (by kernel_rfl) (fun c a v w h => HQ2.out c a _ v w h) (by kernel_rfl) (.int .i64 E) (fun W h => by kernel_rfl) hw141 ?_
            try simp only [Act.put, List.setIfInBounds_toArray, List.set_cons_zero, List.set_cons_succ]
            refine wpAnyH_done (by kernel_rfl) ?_ _
            refine HQ1.out _ _ ?_
            clear HQ1 HQ2
            go_wp2_with (refine bodyPost_mid 6 7 8 27 rfl g7 rfl (.int .u64 0) (.int .i64 E) rfl rfl 27 V ex142.1 _ Tryd.underlying27 rfl SV.out rfl ?_)
            exact HEZ.out hE0 _ hw141.rd.rd hw141.bel
      · obtain rfl : i = a := by omega
        rw [Nat.sub_self, drawGo_zero] at hgo
        have HEND : Hid (∀ w', RdP A s.tape.length s.tape w' → Below w.heap.size w w' → RetDraw w s A0 rr (.returned (.tuple #[.int .u64 0, .agg (srcV si A c), .int .i64 9])) w') := Lib.hid (fun w' hr hb => ⟨A, c, by rw [hgo], hr, hcl, hcm, hsp, hb⟩)
        obtain ⟨zs, hzs⟩ : ∃ zs, s.tape = zs := ⟨_, rfl⟩
        obtain ⟨L, hL⟩ : ∃ L, zs.length = L := ⟨_, rfl⟩
        rw [hzs, hL] at HEND HS
        obtain ⟨V, hV⟩ : ∃ V, srcV si A c = V := ⟨_, rfl⟩
        rw [hV] at SV OV ZV HEND HS
        clear hgo oki htp hsp hcl hcm hzs hL hV HTAKE HND HZSS
        go_wp2_with fail
        have HZ7 := HZ.drew
        refine wp_region_held_drew (S := (DrS w g3 g7 V A L zs)) (by kernel_rfl) HS.drew (fun hH => ?_)
        refine wpAnyH_letter #[false, false, false, false] (by kernel_rfl) (fun _ _ d _ _ h => by cases d <;> exact h) (fun QL HQ1 HQ2 => ?_)
        refine held_row 0 (some 56) rfl (by kernel_rfl) (by kernel_rfl) (by kernel_rfl) (by kernel_rfl) (fun c a v w h => HQ2.out c a _ v w h) (by kernel_rfl) 27 (.tmp 3) rfl g3 (by kernel_rfl) 27 V (fun _ h => h.blk) _ Tryd.underlying27 rfl SV.out hH ?_
        try simp only [Act.put, List.setIfInBounds_toArray, List.set_cons_zero, List.set_cons_succ]
        refine held_v 1 (some 6) rfl (by kernel_rfl) (by kernel_rfl) (by kernel_rfl) (by kernel_rfl) (fun c a v w h => HQ2.out c a _ v w h) (by kernel_rfl) (.int .u64 0) (fun W h => by kernel_rfl) hH ?_
        try simp only [Act.put, List.setIfInBounds_toArray, List.set_cons_zero, List.set_cons_succ]
        refine wpAnyH_ready (rs := [2]) (by kernel_rfl) (by decide) ?_
        refine AllReadyH.cons rfl (fun K hK => ?_) AllReadyH.nil
        refine step_store none (by kernel_rfl) (by kernel_rfl) 27 (.tmp 7) (.tmp 56) rfl g7 (by kernel_rfl) 27 Z V HZ7.1 (by kernel_rfl) ZV.out SV.out OV.out ?_
        intro w41 hkw41 hsw41 hbw41 how41
        have ex42 : Fx [.blk g7 27 V] w41 := ⟨hkw41.out, trivial⟩
        refine hK.out _ _ (hH.store HZ7.1 hH.store7 hsw41.out hbw41 how41) (fun hw41 => ?_)
        clear hK K
        try simp only [Act.put, List.setIfInBounds_toArray, List.set_cons_zero, List.set_cons_succ]
        refine held_v 3 (some 8) rfl (by kernel_rfl) (by kernel_rfl) (by kernel_rfl) (by kernel_rfl) (fun c a v w h => HQ2.out c a _ v w h) (by kernel_rfl) (.int .i64 9) (fun W h => by kernel_rfl) hw41 ?_
        try simp only [Act.put, List.setIfInBounds_toArray, List.set_cons_zero, List.set_cons_succ]
        refine wpAnyH_done (by kernel_rfl) ?_ _
        refine HQ1.out _ _ ?_
        clear HQ1 HQ2
        go_wp2_with (refine bodyPost_mid 6 7 8 27 rfl g7 rfl (.int .u64 0) (.int .i64 9) rfl rfl 27 V ex42.1 _ Tryd.underlying27 rfl SV.out rfl ?_)
        exact HEND.out _ hw41.rd hw41.bel
end Go.Proofs.YtmeefnhmkffdlaaDoor
/-
  What the program's package plan returns, and that they leave memory as it was.
  Conditions: the arguments lie in their types' ranges.
-/
set_option maxRecDepth 100000
namespace Go.Proofs.YtmeefnhmkffdlaaDoor
open Go.ChangeShapes Go.WideShapes Go.ChangeAt Go.RowKit
set_option linter.unusedVariables false

theorem pfirst_c (x : Int) (h0 : 0 ≤ x) (h1 : x < 4294967296) (w : World) :
    Calls Tryd.prog 76 #[.int .u32 x] w fun e w' => e = .returned (.int .u32 (mix1 x)) ∧ w = w' := by
  unfold mix1
  go_enter Tryd.func76, Tryd.ntmps76
  go_wp2_with (first
    | (go_at_call 79; (with_reducible refine (rotate_c _ _ (by omega) (by omega) (by omega) (by omega) _).mono ?_); rintro e _ ⟨rfl, rfl⟩)
    | (go_at_call 80; (with_reducible refine (right_c _ _ (by omega) (by omega) (by omega) (by omega) _).mono ?_); rintro e _ ⟨rfl, rfl⟩))
  go_ret
  exact ⟨rfl, rfl⟩
theorem psecond_c (x : Int) (h0 : 0 ≤ x) (h1 : x < 4294967296) (w : World) :
    Calls Tryd.prog 75 #[.int .u32 x] w fun e w' => e = .returned (.int .u32 (mix2 x)) ∧ w = w' := by
  unfold mix2
  go_enter Tryd.func75, Tryd.ntmps75
  go_wp2_with (first
    | (go_at_call 79; (with_reducible refine (rotate_c _ _ (by omega) (by omega) (by omega) (by omega) _).mono ?_); rintro e _ ⟨rfl, rfl⟩)
    | (go_at_call 80; (with_reducible refine (right_c _ _ (by omega) (by omega) (by omega) (by omega) _).mono ?_); rintro e _ ⟨rfl, rfl⟩))
  go_ret
  exact ⟨rfl, rfl⟩

set_option maxHeartbeats 1000000 in
theorem pof_c (b : List Int) (hl : b.length = 64) (hb : ∀ z ∈ b, 0 ≤ z ∧ z < 256) (w : World) :
    Calls Tryd.prog 70 #[.agg (intsA .u8 b)] w fun e w' => e = .returned (.agg (intsA .u32 (planL b))) ∧ Below w.heap.size w w' := by
  go_enter Tryd.func70, Tryd.ntmps70
  go_wp2_with (first
    | (with_reducible refine at_any ?_; refine at_dst 1 rfl ?_; refine wpList_box_ints rfl 81 (.tmp 0) rfl .u8 b rfl ?_; intro w1 hk1 hs1 hb1)
    | (with_reducible refine at_any ?_; refine at_dst 2 rfl ?_; refine wpList_alloc_ints rfl 92 rfl .u32 (List.replicate 64 0) zero_plan ?_; intro w2 hk2 hs2 hb2)
    | (with_reducible refine at_any ?_; refine at_dst 3 rfl ?_; refine wpList_alloc_ints rfl 92 rfl .u32 (List.replicate 64 0) zero_plan ?_; intro w3 hk3 hs3 hb3))
  have HI : In3 w w.heap.size w1.heap.size w2.heap.size 81 92 92 .u8 .u32 .u32 b (List.replicate 64 0) (planF b 0) w3 := by
    rw [planF_zero]
    have q1 := hs1.out
    have q2 := hs2.out
    have q3 := hs3.out
    exact ⟨(hk1.out.below hb2 (by omega)).below hb3 (by omega), hk2.out.below hb3 (by omega), hk3.out, hb1.trans ((hb2.mono (by omega)).trans (hb3.mono (by omega))), by omega, by omega, by omega⟩
  obtain ⟨g1, hg1⟩ : ∃ g, w.heap.size = g := ⟨_, rfl⟩
  obtain ⟨g2, hg2⟩ : ∃ g, w1.heap.size = g := ⟨_, rfl⟩
  obtain ⟨g3, hg3⟩ : ∃ g, w2.heap.size = g := ⟨_, rfl⟩
  have HG2 := Lib.hid (show w.heap.size ≤ g2 by have := hb1.size; omega)
  rw [hg1, hg2, hg3] at HI
  rw [hg1, hg2, hg3]
  clear hk1 hs1 hb1 hk2 hs2 hb2 hk3 hs3 hb3
  go_loopw [7] (fun v wr => ∃ i : Nat, i ≤ 16 ∧ v = .int .i64 i ∧ In3 w g1 g2 g3 81 92 92 .u8 .u32 .u32 b (List.replicate 64 0) (planF b i) wr) (fun v _ => 16 - (intOf v).toNat)
  case atStart => exact ⟨0, by omega, rfl, HI⟩
  case round =>
    clear HI
    obtain ⟨i, hi, rfl, HI⟩ := hrel
    by_cases hlt : i < 16
    · have hpl := planF_len b i (by omega)
      have HW := HI.open_ (i := i) (by omega)
      have hset := fun v hv => planF_set b i (by omega) v hv
      obtain ⟨m, hm⟩ : ∃ m, 4 * i = m := ⟨_, rfl⟩
      obtain ⟨m1, hm1⟩ : ∃ m1, 4 * i + 1 = m1 := ⟨_, rfl⟩
      obtain ⟨m2, hm2⟩ : ∃ m2, 4 * i + 2 = m2 := ⟨_, rfl⟩
      obtain ⟨m3, hm3⟩ : ∃ m3, 4 * i + 3 = m3 := ⟨_, rfl⟩
      have c0 := HW.cell1 (j := m) (by omega)
      have c1 := HW.cell1 (j := m1) (by omega)
      have c2 := HW.cell1 (j := m2) (by omega)
      have c3 := HW.cell1 (j := m3) (by omega)
      have hg : ∀ j, j < 64 → 0 ≤ b.getD j 0 ∧ b.getD j 0 < 256 := by
        intro j hj
        have h : j < b.length := by omega
        simp [h]; exact hb _ (List.getElem_mem h)
      have r0 := hg m (by omega)
      have r1 := hg m1 (by omega)
      have r2 := hg m2 (by omega)
      have r3 := hg m3 (by omega)
      have hv : word4 b i = Wd.get4 (b.getD m 0) (b.getD m1 0) (b.getD m2 0) (b.getD m3 0) := by unfold word4; rw [hm1, hm2, hm3, hm]
      have hsv := hset (word4 b i) (by rw [if_pos hlt])
      have HK : ∀ w', In3W w g1 g2 g3 81 92 92 .u8 .u32 .u32 b (List.replicate 64 0) (planF b i) i w' → w'.cell? ⟨g1, m, none⟩ = some (.int .u8 (b.getD m 0)) ∧ w'.cell? ⟨g1, m1, none⟩ = some (.int .u8 (b.getD m1 0)) ∧ w'.cell? ⟨g1, m2, none⟩ = some (.int .u8 (b.getD m2 0)) ∧ w'.cell? ⟨g1, m3, none⟩ = some (.int .u8 (b.getD m3 0)) ∧ In3W w g1 g2 g3 81 92 92 .u8 .u32 .u32 b (List.replicate 64 0) (planF b i) i w' :=
        fun w' h => ⟨h.cell1 (by omega), h.cell1 (by omega), h.cell1 (by omega), h.cell1 (by omega), h⟩
      have HA : ∀ w', In3W w g1 g2 g3 81 92 92 .u8 .u32 .u32 b (List.replicate 64 0) (planF b i) i w' → (∃ u, w'.cell? ⟨g3, i, none⟩ = some (.int .u32 u)) ∧ w'.frozen? ⟨g3, i, none⟩ = false := fun w' h => h.at_ (by omega)
      obtain ⟨a0, ha0⟩ : ∃ a, b.getD m 0 = a := ⟨_, rfl⟩
      obtain ⟨a1, ha1⟩ : ∃ a, b.getD m1 0 = a := ⟨_, rfl⟩
      obtain ⟨a2, ha2⟩ : ∃ a, b.getD m2 0 = a := ⟨_, rfl⟩
      obtain ⟨a3, ha3⟩ : ∃ a, b.getD m3 0 = a := ⟨_, rfl⟩
      rw [ha0, ha1, ha2, ha3] at HK hv
      rw [ha0] at c0 r0
      rw [ha1] at c1 r1
      rw [ha2] at c2 r2
      rw [ha3] at c3 r3
      rw [hv] at hsv
      have HK' := Lib.hid HK
      have HA' := Lib.hid HA
      have HSV := Lib.hid hsv
      have e0 : IntKind.i64.wrap (4 * (i : Int)) = (m : Int) := by rw [IntWalk.i64_in _ (by omega)]; omega
      have e1 : IntKind.i64.wrap ((m : Int) + 1) = (m1 : Int) := by rw [IntWalk.i64_in _ (by omega)]; omega
      have e2 : IntKind.i64.wrap ((m : Int) + 2) = (m2 : Int) := by rw [IntWalk.i64_in _ (by omega)]; omega
      have e3 : IntKind.i64.wrap ((m : Int) + 3) = (m3 : Int) := by rw [IntWalk.i64_in _ (by omega)]; omega
      have q0 : (0 : Int) ≤ (m : Int) ∧ (m : Int) < 64 := by omega
      have q1 : (0 : Int) ≤ (m1 : Int) ∧ (m1 : Int) < 64 := by omega
      have q2 : (0 : Int) ≤ (m2 : Int) ∧ (m2 : Int) < 64 := by omega
      have q3 : (0 : Int) ≤ (m3 : Int) ∧ (m3 : Int) < 64 := by omega
      have q4 : (0 : Int) ≤ (i : Int) ∧ (i : Int) < 64 := by omega
      obtain ⟨⟨u0, hu0⟩, hf0⟩ := HA _ HW
      clear hset HK HA hg ha0 ha1 ha2 ha3 hm hm1 hm2 hm3 hv hsv hpl HI
      have HWd : In3W w g1 g2 g3 81 92 92 .u8 .u32 .u32 b (List.replicate 64 0) (planF b i) i wr.drew := by obtain ⟨u, hu⟩ := HW; exact ⟨u, hu.drew⟩
      go_wp2
      go_region_held3 (fun w' => w'.cell? ⟨g1, m, none⟩ = some (.int .u8 a0) ∧ w'.cell? ⟨g1, m1, none⟩ = some (.int .u8 a1) ∧ w'.cell? ⟨g1, m2, none⟩ = some (.int .u8 a2) ∧ w'.cell? ⟨g1, m3, none⟩ = some (.int .u8 a3) ∧ In3W w g1 g2 g3 81 92 92 .u8 .u32 .u32 b (List.replicate 64 0) (planF b i) i w')
        (first | assumption | exact HK'.out _ HWd | (go_split_ands; exact HK'.out _ HW5) | (go_split_ands; exact HK'.out _ (HW5.again _)))
        (first
          | (go_at_call 74; (with_reducible refine (get32_c a0 a1 a2 a3 r0.1 r0.2 r1.1 r1.2 r2.1 r2.2 r3.1 r3.2 _).mono ?_); rintro e w5 ⟨rfl, hb5, _⟩; have HW5 := HWd.below hb5; obtain ⟨⟨u5, hu5⟩, hf5⟩ := HA'.out _ HW5))
      all_goals
        go_wp2
        go_roundw
        case rel => exact ⟨i + 1, by omega, by go_num, by rw [← HSV.out]; exact HW5.set_ _⟩
        case measure => simp [intOf]; omega
    · rw [show ((i : Nat) : Int) = 16 by omega]
      obtain rfl : i = 16 := by omega
      clear hi hlt
      go_wp2
      go_loopw [6] (fun v wr => ∃ i : Nat, 16 ≤ i ∧ i ≤ 64 ∧ v = .int .i64 i ∧ In3 w g1 g2 g3 81 92 92 .u8 .u32 .u32 b (List.replicate 64 0) (planF b i) wr) (fun v _ => 64 - (intOf v).toNat)
      case atStart => exact ⟨16, by omega, by omega, rfl, HI⟩
      case round =>
        clear HI
        obtain ⟨i, hi16, hi, rfl, HI⟩ := hrel
        by_cases hlt : i < 64
        · have hpl := planF_len b i (by omega)
          have HW := HI.open_ (i := i) (by omega)
          have hin := planTo_in b hb i
          have hg : ∀ j, j < i → (planF b i).getD j 0 = (planTo b i).getD j 0 ∧ 0 ≤ (planTo b i).getD j 0 ∧ (planTo b i).getD j 0 < 4294967296 := by
            intro j hj
            have h : j < (planTo b i).length := by rw [planTo_len]; exact hj
            refine ⟨planF_at b i j hj, ?_⟩
            simp [h]; exact hin _ (List.getElem_mem h)
          obtain ⟨m2, hm2⟩ : ∃ m, i - 2 = m := ⟨_, rfl⟩
          obtain ⟨m7, hm7⟩ : ∃ m, i - 7 = m := ⟨_, rfl⟩
          obtain ⟨m15, hm15⟩ : ∃ m, i - 15 = m := ⟨_, rfl⟩
          obtain ⟨m16, hm16⟩ : ∃ m, i - 16 = m := ⟨_, rfl⟩
          have hsv := planF_set b i hlt (nextW (planTo b i) i) (by rw [if_neg (by omega)])
          have hv : nextW (planTo b i) i = (mix2 ((planTo b i).getD m2 0) + (planTo b i).getD m7 0 + mix1 ((planTo b i).getD m15 0) + (planTo b i).getD m16 0) % 4294967296 := by unfold nextW; rw [hm2, hm7, hm15, hm16]
          have HK : ∀ w', In3W w g1 g2 g3 81 92 92 .u8 .u32 .u32 b (List.replicate 64 0) (planF b i) i w' → w'.cell? ⟨g3, m2, none⟩ = some (.int .u32 ((planF b i).getD m2 0)) ∧ w'.cell? ⟨g3, m7, none⟩ = some (.int .u32 ((planF b i).getD m7 0)) ∧ w'.cell? ⟨g3, m15, none⟩ = some (.int .u32 ((planF b i).getD m15 0)) ∧ w'.cell? ⟨g3, m16, none⟩ = some (.int .u32 ((planF b i).getD m16 0)) ∧ In3W w g1 g2 g3 81 92 92 .u8 .u32 .u32 b (List.replicate 64 0) (planF b i) i w' :=
            fun w' h => ⟨h.cell3 (by omega) (by omega), h.cell3 (by omega) (by omega), h.cell3 (by omega) (by omega), h.cell3 (by omega) (by omega), h⟩
          obtain ⟨⟨u0, hu0⟩, hf0⟩ := HW.at_ (by omega)
          rw [(hg m2 (by omega)).1, (hg m7 (by omega)).1, (hg m15 (by omega)).1, (hg m16 (by omega)).1] at HK
          have r2 := (hg m2 (by omega)).2
          have r7 := (hg m7 (by omega)).2
          have r15 := (hg m15 (by omega)).2
          have r16 := (hg m16 (by omega)).2
          obtain ⟨x2, hx2⟩ : ∃ a, (planTo b i).getD m2 0 = a := ⟨_, rfl⟩
          obtain ⟨x7, hx7⟩ : ∃ a, (planTo b i).getD m7 0 = a := ⟨_, rfl⟩
          obtain ⟨x15, hx15⟩ : ∃ a, (planTo b i).getD m15 0 = a := ⟨_, rfl⟩
          obtain ⟨x16, hx16⟩ : ∃ a, (planTo b i).getD m16 0 = a := ⟨_, rfl⟩
          rw [hx2, hx7, hx15, hx16] at HK hv
          rw [hx2] at r2
          rw [hx7] at r7
          rw [hx15] at r15
          rw [hx16] at r16
          obtain ⟨c0, c1, c2, c3, _⟩ := HK _ HW
          obtain ⟨y2, hy2⟩ : ∃ a, mix2 x2 = a := ⟨_, rfl⟩
          obtain ⟨y15, hy15⟩ : ∃ a, mix1 x15 = a := ⟨_, rfl⟩
          have k2 := mix2_in x2
          have k15 := mix1_in x15
          rw [hy2, hy15] at hv
          rw [hy2] at k2
          rw [hy15] at k15
          obtain ⟨t1, ht1⟩ : ∃ t, (y2 + x7) % 4294967296 = t := ⟨_, rfl⟩
          obtain ⟨t2, ht2⟩ : ∃ t, (t1 + y15) % 4294967296 = t := ⟨_, rfl⟩
          obtain ⟨t3, ht3⟩ : ∃ t, (t2 + x16) % 4294967296 = t := ⟨_, rfl⟩
          have hv3 : nextW (planTo b i) i = t3 := by rw [hv]; omega
          rw [hv3] at hsv
          have f1 : IntKind.u32.wrap (y2 + x7) = t1 := by rw [IntKind.wrap_u32]; exact ht1
          have f2 : IntKind.u32.wrap (t1 + y15) = t2 := by rw [IntKind.wrap_u32]; exact ht2
          have f3 : IntKind.u32.wrap (t2 + x16) = t3 := by rw [IntKind.wrap_u32]; exact ht3
          have HK' := Lib.hid HK
          have HSV := Lib.hid hsv
          have e2 : IntKind.i64.wrap ((i : Int) - 2) = (m2 : Int) := by rw [IntWalk.i64_in _ (by omega)]; omega
          have e7 : IntKind.i64.wrap ((i : Int) - 7) = (m7 : Int) := by rw [IntWalk.i64_in _ (by omega)]; omega
          have e15 : IntKind.i64.wrap ((i : Int) - 15) = (m15 : Int) := by rw [IntWalk.i64_in _ (by omega)]; omega
          have e16 : IntKind.i64.wrap ((i : Int) - 16) = (m16 : Int) := by rw [IntWalk.i64_in _ (by omega)]; omega
          have q0 : (0 : Int) ≤ (m2 : Int) ∧ (m2 : Int) < 64 := by omega
          have q1 : (0 : Int) ≤ (m7 : Int) ∧ (m7 : Int) < 64 := by omega
          have q2 : (0 : Int) ≤ (m15 : Int) ∧ (m15 : Int) < 64 := by omega
          have q3 : (0 : Int) ≤ (m16 : Int) ∧ (m16 : Int) < 64 := by omega
          have q4 : (0 : Int) ≤ (i : Int) ∧ (i : Int) < 64 := by omega
          have H2 := Lib.hid hy2
          have H15 := Lib.hid hy15
          clear HK hg hin hx2 hx7 hx15 hx16 hm2 hm7 hm15 hm16 hv hv3 hsv hpl HI ht1 ht2 ht3 hy2 hy15
          have HWd : In3W w g1 g2 g3 81 92 92 .u8 .u32 .u32 b (List.replicate 64 0) (planF b i) i wr.drew := by obtain ⟨u, hu⟩ := HW; exact ⟨u, hu.drew⟩
          go_wp2
          go_region_held3 (fun w' => w'.cell? ⟨g3, m2, none⟩ = some (.int .u32 x2) ∧ w'.cell? ⟨g3, m7, none⟩ = some (.int .u32 x7) ∧ w'.cell? ⟨g3, m15, none⟩ = some (.int .u32 x15) ∧ w'.cell? ⟨g3, m16, none⟩ = some (.int .u32 x16) ∧ In3W w g1 g2 g3 81 92 92 .u8 .u32 .u32 b (List.replicate 64 0) (planF b i) i w')
            (first | assumption | exact HK'.out _ HWd | (go_split_ands; exact HK'.out _ (HWd.again _)))
            (first
              | (go_at_call 75; (with_reducible refine (psecond_c x2 r2.1 r2.2 _).mono ?_); rw [H2.out]; rintro e w5 ⟨rfl, rfl⟩)
              | (go_at_call 76; (with_reducible refine (pfirst_c x15 r15.1 r15.2 _).mono ?_); rw [H15.out]; rintro e w5 ⟨rfl, rfl⟩))
          all_goals
            go_wp2
            go_roundw
            case rel => exact ⟨i + 1, by omega, by omega, by go_num, by rw [← HSV.out]; exact (HW.set_ _).drew⟩
            case measure => simp [intOf]; omega
        · rw [show ((i : Nat) : Int) = 64 by omega]
          obtain rfl : i = 64 := by omega
          rw [planF_full] at HI
          obtain ⟨h1, h2, h3, h4, h5, h6, h7⟩ := HI
          have hpl : (planL b).length = 64 := planTo_len b 64
          have HPL := Lib.hid hpl
          have H3 := Lib.hid h3
          have H2 := Lib.hid h2
          have hg2 : w.heap.size ≤ g2 := HG2.out
          clear hpl h1 h2 h3
          go_wp2_with (first
            | (with_reducible refine at_any ?_; refine at_dst 59 rfl ?_; refine wpList_load_ints rfl 92 (.tmp 3) rfl g3 rfl 92 .u32 (planL b) H3.out _ Tryd.underlying92 rfl (by rw [HPL.out]; exact size_plan) ?_)
            | (with_reducible refine at_any ?_; refine at_store 2 rfl ?_; refine wpList_store_ints rfl 92 (.tmp 2) (.tmp 59) rfl g2 rfl 92 .u32 (List.replicate 64 0) (planL b) H2.out rfl (by rw [HPL.out]; simp) (by rw [HPL.out]; exact size_plan) ?_; intro w9 hk9 hs9 hb9 ho9)
            | (refine bodyPost_cell 2 92 rfl g2 rfl 92 .u32 (planL b) hk9.out _ Tryd.underlying92 rfl (by rw [HPL.out]; exact size_plan) rfl ?_))
          rw [← hg1]
          exact h4.trans (hb9 _ hg2)
end Go.Proofs.YtmeefnhmkffdlaaDoor
/-
  The table of the program's constants: what it holds, and that it stays so while the calls of package comp run.
  Conditions: the table reads, when the call begins, as the program's text lays it (the card ties that).
-/
set_option maxRecDepth 100000
namespace Go.Proofs.YtmeefnhmkffdlaaDoor
open Go.ChangeShapes Go.WideShapes Go.ChangeAt Go.RowKit
set_option linter.unusedVariables false
/-- The table holds the constants. -/
def Kst (w : World) : Prop := 0 < w.heap.size ∧ ∀ j, j < 64 → w.cell? ⟨0, j, none⟩ = some (.int .u32 (constL.getD j 0))
theorem Kst.below {w w' : World} (h : Kst w) (hb : Below w.heap.size w w') : Kst w' :=
  ⟨Nat.lt_of_lt_of_le h.1 hb.size, fun j hj => by rw [hb.cell (p := ⟨0, j, none⟩) h.1]; exact h.2 j hj⟩
theorem Kst.alloc {w : World} (h : Kst w) (o : Obj) : Kst (w.alloc o) := h.below ((Below.refl _ _).alloc (Nat.le_refl _) o)
theorem Kst.drew {w : World} (h : Kst w) : Kst w.drew := h
theorem Kst.of_heap {w w' : World} (h : Kst w) (e : w'.heap = w.heap) : Kst w' :=
  ⟨by rw [e]; exact h.1, fun j hj => by rw [World.cell?_of_block (w := w) (w' := w') (a := ⟨0, j, none⟩) (by rw [e])]; exact h.2 j hj⟩
abbrev laidK : List (String × DataW Unit) := [("drawlot/comp.constants", Rows.laid_drawlot_comp_constants)]
theorem gConsts : Tryd.prog.globalNamed "drawlot/comp.constants" = some 0 := by kernel_rfl
theorem tConsts : (Tryd.prog.globals[0]?).map (·.type) = some 91 := by kernel_rfl
theorem laidD : (Rows.laid_drawlot_comp_constants : DataW Unit) = .agg (constL.map fun z => .lit (.int .u32 z)) := by kernel_rfl
/-- An array of integers in memory, read: its numbers are those of the datum. -/
theorem trod_arr_ints {H : Type} {enc : TypeId × Value → H} {P : Program} {w : World} {base n fuel : Nat} {spare : TypeId → Bool} {held : Bool} {t e : TypeId} {q : IntKind} {cs : Array Value} {ys : List Int} {p : List MemPlace} (ht : P.underlying t = some (.array n e)) (he : P.underlying e = some (.int q)) (hc : P.cellsOf e = 1) (hC : P.cellsOf t = n)
    (hf : DataW.trod enc P w base spare held fuel t cs.toList = some (.agg (ys.map fun z => .lit (.int q z)), p)) : ∀ i, i < n → cs[i]? = some (.int q (ys.getD i 0)) := by
  obtain ⟨xs, m, _, hx, hl, hxl, hat⟩ := DataW.trod_array ht hf
  rw [hC] at hl
  rw [hc] at hat
  have hl' : cs.size = n := by simpa using hl
  have hd := congrArg Prod.fst hx
  simp only [DataW.agg.injEq] at hd
  intro i hi
  have h1 := hat i hi
  have e1 : List.take 1 (List.drop (i * 1) cs.toList) = [cs[i]'(by omega)] := by
    simp only [Nat.mul_one]
    rw [List.drop_eq_getElem_cons (by simpa using (show i < cs.size by omega))]
    simp
  rw [e1] at h1
  have hxi : xs[i]? = some (xs[i]'(by omega)) := List.getElem?_eq_getElem (by omega)
  rw [hxi] at h1
  obtain ⟨a, ea, ex, wa⟩ := DataW.trod_int he h1
  have h2 := congrArg (fun l => l[i]?) hd
  simp only [List.getElem?_map, hxi, Option.map_some, ex] at h2
  have h3 : ys[i]? = some a := by
    cases hy : ys[i]? with
    | none => rw [hy] at h2; cases h2
    | some y => rw [hy] at h2; simp only [Option.map_some, Option.some.injEq, DataW.lit.injEq, Lit.int.injEq, true_and] at h2; rw [h2]
  rw [Array.getElem?_eq_getElem (by omega), List.getD_eq_getElem?_getD, h3]
  simpa using ea
/-- What the condition gives the walks. -/
theorem kst_of_laid {W : World} (h : laidMetH Tryd.prog laidK W) : Kst W := by
  rw [MakeChecks.laidMetH_plain _ _ _ (by kernel_rfl)] at h
  obtain ⟨ps, ⟨g0, t0, cs0, f0, p0, q0, hg0, ht0, hv0, hd0, _⟩, _, _⟩ := h
  obtain rfl := Option.some.inj (gConsts.symm.trans hg0)
  obtain rfl := Option.some.inj (tConsts.symm.trans ht0)
  rw [laidD] at hd0
  have hz := trod_arr_ints Tryd.underlying91 Tryd.underlying45 (by kernel_rfl) (by kernel_rfl) hd0
  have hc : ∀ j, j < 64 → W.cell? ⟨0, j, none⟩ = some (.int .u32 (constL.getD j 0)) := fun j hj => (World.var?_cell hg0 hv0 j).trans (hz j hj)
  refine ⟨?_, hc⟩
  have h0 := hc 0 (by decide)
  by_cases hlt : 0 < W.heap.size
  · exact hlt
  · exfalso
    simp only [World.cell?, Array.getElem?_eq_none (Nat.le_of_not_lt hlt)] at h0
    cases h0
/-- The heap that the program's own start leaves meets the condition. -/
theorem door_met (os : Os) (args : Array Value) : laidMetH Tryd.prog laidK ((World.doorLaid Tryd.prog 400 os).forCall (fun _ _ => 0) ⟨#[], args, []⟩).memory :=
  laidMetH_of_parts3 (fuel := 8) (laidMet_of_run' 8 (by kernel_rfl) (by kernel_rfl)) (by kernel_rfl) (by kernel_rfl)
end Go.Proofs.YtmeefnhmkffdlaaDoor
/-
  What the program's package comp returns, and that it leaves memory as it was.
  Conditions: the arguments lie in their types' ranges; of Constant and Take: the table of constants holds what the program's text lays.
-/
set_option maxRecDepth 100000
set_option linter.unusedSimpArgs false
namespace Go.Proofs.YtmeefnhmkffdlaaDoor
open Go.ChangeShapes Go.WideShapes Go.ChangeAt Go.RowKit
set_option linter.unusedVariables false
theorem cturned_c (x a b c : Int) (h0 : 0 ≤ x) (h1 : x < 4294967296) (a0 : 0 ≤ a) (a1 : a < 32) (b0 : 0 ≤ b) (b1 : b < 32) (c0 : 0 ≤ c) (c1 : c < 32) (w : World) :
    Calls Tryd.prog 81 #[.int .u32 x, .int .i64 a, .int .i64 b, .int .i64 c] w fun e w' => e = .returned (.int .u32 (turn3 x a b c)) ∧ w = w' := by
  unfold turn3
  go_enter Tryd.func81, Tryd.ntmps81
  go_wp2_with (go_at_call 79; (with_reducible refine (rotate_c _ _ (by omega) (by omega) (by omega) (by omega) _).mono ?_); rintro e _ ⟨rfl, rfl⟩)
  go_ret
  exact ⟨rfl, rfl⟩
theorem not_u32 (e : Int) (h0 : 0 ≤ e) (h1 : e < 4294967296) : bits .xor .u32 IntKind.u32.max e = 4294967295 - e := by
  obtain ⟨n, rfl⟩ := Int.eq_ofNat_of_zero_le h0
  have hn : n < 2 ^ 32 := by omega
  have e1 : (4294967295 : Nat) ^^^ n = 4294967295 - n := by
    have h := congrArg BitVec.toNat (BitVec.allOnes_xor (x := BitVec.ofNat 32 n))
    rw [BitVec.toNat_xor, BitVec.toNat_allOnes, BitVec.toNat_not, BitVec.toNat_ofNat, Nat.mod_eq_of_lt hn] at h
    exact h
  have e2 : IntKind.u32.max = ((4294967295 : Nat) : Int) := by decide
  rw [e2, u32_xor_nat _ _ (by omega) (by omega), e1]
  omega
theorem cchoice_c (e f g : Int) (e0 : 0 ≤ e) (e1 : e < 4294967296) (f0 : 0 ≤ f) (f1 : f < 4294967296) (g0 : 0 ≤ g) (g1 : g < 4294967296) (w : World) :
    Calls Tryd.prog 82 #[.int .u32 e, .int .u32 f, .int .u32 g] w fun r w' => r = .returned (.int .u32 (chW e f g)) ∧ w = w' := by
  unfold chW
  have hn := not_u32 e e0 e1
  rw [← hn]
  clear hn
  go_enter Tryd.func82, Tryd.ntmps82
  go_wp2
  go_ret
  exact ⟨rfl, rfl⟩
theorem cmajority_c (a b c : Int) (a0 : 0 ≤ a) (a1 : a < 4294967296) (b0 : 0 ≤ b) (b1 : b < 4294967296) (c0 : 0 ≤ c) (c1 : c < 4294967296) (w : World) :
    Calls Tryd.prog 83 #[.int .u32 a, .int .u32 b, .int .u32 c] w fun r w' => r = .returned (.int .u32 (majW a b c)) ∧ w = w' := by
  unfold majW
  go_enter Tryd.func83, Tryd.ntmps83
  go_wp2
  go_ret
  exact ⟨rfl, rfl⟩
def lowW (e f g : Int) : Int := (turn3 e 6 11 25 + chW e f g) % 4294967296
def uppW (a b c : Int) : Int := (turn3 a 2 13 22 + majW a b c) % 4294967296
theorem clower_c (e f g : Int) (e0 : 0 ≤ e) (e1 : e < 4294967296) (f0 : 0 ≤ f) (f1 : f < 4294967296) (g0 : 0 ≤ g) (g1 : g < 4294967296) (w : World) :
    Calls Tryd.prog 77 #[.int .u32 e, .int .u32 f, .int .u32 g] w fun r w' => r = .returned (.int .u32 (lowW e f g)) ∧ w = w' := by
  obtain ⟨v, hv⟩ : ∃ v, lowW e f g = v := ⟨_, rfl⟩
  rw [hv]
  unfold lowW at hv
  have c1 := fun W => cturned_c e 6 11 25 e0 e1 (by omega) (by omega) (by omega) (by omega) (by omega) (by omega) W
  have c2 := fun W => cchoice_c e f g e0 e1 f0 f1 g0 g1 W
  obtain ⟨y1, hy1⟩ : ∃ y, turn3 e 6 11 25 = y := ⟨_, rfl⟩
  obtain ⟨y2, hy2⟩ : ∃ y, chW e f g = y := ⟨_, rfl⟩
  rw [hy1] at c1 hv
  rw [hy2] at c2 hv
  have f9 : IntKind.u32.wrap (y1 + y2) = v := by rw [IntKind.wrap_u32]; exact hv
  have C1 := Lib.hid c1
  have C2 := Lib.hid c2
  clear hy1 hy2 hv c1 c2
  go_enter Tryd.func77, Tryd.ntmps77
  go_wp2_with (first
    | (go_at_call 81; (with_reducible refine (C1.out _).mono ?_); rintro r _ ⟨rfl, rfl⟩)
    | (go_at_call 82; (with_reducible refine (C2.out _).mono ?_); rintro r _ ⟨rfl, rfl⟩))
  go_ret
  exact ⟨rfl, rfl⟩
theorem cupper_c (e f g : Int) (e0 : 0 ≤ e) (e1 : e < 4294967296) (f0 : 0 ≤ f) (f1 : f < 4294967296) (g0 : 0 ≤ g) (g1 : g < 4294967296) (w : World) :
    Calls Tryd.prog 78 #[.int .u32 e, .int .u32 f, .int .u32 g] w fun r w' => r = .returned (.int .u32 (uppW e f g)) ∧ w = w' := by
  obtain ⟨v, hv⟩ : ∃ v, uppW e f g = v := ⟨_, rfl⟩
  rw [hv]
  unfold uppW at hv
  have c1 := fun W => cturned_c e 2 13 22 e0 e1 (by omega) (by omega) (by omega) (by omega) (by omega) (by omega) W
  have c2 := fun W => cmajority_c e f g e0 e1 f0 f1 g0 g1 W
  obtain ⟨y1, hy1⟩ : ∃ y, turn3 e 2 13 22 = y := ⟨_, rfl⟩
  obtain ⟨y2, hy2⟩ : ∃ y, majW e f g = y := ⟨_, rfl⟩
  rw [hy1] at c1 hv
  rw [hy2] at c2 hv
  have f9 : IntKind.u32.wrap (y1 + y2) = v := by rw [IntKind.wrap_u32]; exact hv
  have C1 := Lib.hid c1
  have C2 := Lib.hid c2
  clear hy1 hy2 hv c1 c2
  go_enter Tryd.func78, Tryd.ntmps78
  go_wp2_with (first
    | (go_at_call 81; (with_reducible refine (C1.out _).mono ?_); rintro r _ ⟨rfl, rfl⟩)
    | (go_at_call 83; (with_reducible refine (C2.out _).mono ?_); rintro r _ ⟨rfl, rfl⟩))
  go_ret
  exact ⟨rfl, rfl⟩
theorem cstart_c (w : World) : Calls Tryd.prog 52 #[] w fun e w' => e = .returned (.agg (intsA .u32 startL)) ∧ Below w.heap.size w w' := by
  have HL := Lib.hid (show Z8.length = startL.length from rfl)
  have HZ := Lib.hid (show (Tryd.prog.info? 70).map (·.size) = some startL.length from size_state)
  go_enter Tryd.func52, Tryd.ntmps52
  go_wp2_with (first
    | (with_reducible refine at_any ?_; refine at_dst 0 rfl ?_; refine wpList_alloc_ints rfl 70 rfl .u32 Z8 zero_state ?_; intro w2 hk2 hs2 hb2)
    | (with_reducible refine at_any ?_; refine at_store 0 rfl ?_; refine wpList_store_ints rfl 70 (.tmp 0) (.tmp 1) rfl w.heap.size rfl 70 .u32 Z8 startL hk2.out (by kernel_rfl) HL.out HZ.out ?_; intro w9 hk9 hs9 hb9 ho9)
    | (refine bodyPost_cell 0 70 rfl w.heap.size rfl 70 .u32 startL hk9.out _ Tryd.underlying70 rfl HZ.out rfl ?_))
  exact hb2.trans (hb9 _ (Nat.le_refl _))
theorem cconst_c (i : Int) (i0 : -9223372036854775808 ≤ i) (i1 : i ≤ 9223372036854775807) (w : World) (hk : Kst w) :
    Calls Tryd.prog 72 #[.int .i64 i] w fun e w' => e = .returned (.int .u32 (constN i)) ∧ w = w' := by
  unfold constN
  by_cases h : 0 ≤ i ∧ i ≤ 63
  · rw [if_pos h]
    obtain ⟨h0, h1⟩ := h
    have hc := hk.2 i.toNat (by omega)
    obtain ⟨C, hC⟩ : ∃ C, constL.getD i.toNat 0 = C := ⟨_, rfl⟩
    rw [hC] at hc
    rw [hC]
    have f1 : IntKind.u64.wrap i = i := by rw [IntKind.wrap_u64]; omega
    have f2 : i < 64 := by omega
    clear hC hk
    go_enter Tryd.func72, Tryd.ntmps72
    go_wp2
    go_ret
    exact ⟨rfl, rfl⟩
  · rw [if_neg h]
    obtain ⟨u, hu⟩ : ∃ u, IntKind.u64.wrap i = u := ⟨_, rfl⟩
    have f2 : 64 ≤ u := by rw [IntKind.wrap_u64] at hu; omega
    clear h hk
    go_enter Tryd.func72, Tryd.ntmps72
    go_wp2
    go_ret
    exact ⟨rfl, rfl⟩
set_option maxHeartbeats 1000000 in
theorem cround_c (s : List Int) (W K : Int) (hl : s.length = 8) (hs : WIn s) (W0 : 0 ≤ W) (W1 : W < 4294967296) (K0 : 0 ≤ K) (K1 : K < 4294967296) (w : World) :
    Calls Tryd.prog 71 #[.agg (intsA .u32 s), .int .u32 W, .int .u32 K] w fun e w' => e = .returned (.agg (intsA .u32 (roundL s W K))) ∧ Below w.heap.size w w' := by
  have hr0 := hs.at_ 0
  have hr1 := hs.at_ 1
  have hr2 := hs.at_ 2
  have hr3 := hs.at_ 3
  have hr4 := hs.at_ 4
  have hr5 := hs.at_ 5
  have hr6 := hs.at_ 6
  have hr7 := hs.at_ 7
  obtain ⟨a, b, c, d, e, f, p, q, rfl⟩ : ∃ a b c d e f p q, s = [a, b, c, d, e, f, p, q] := ⟨_, _, _, _, _, _, _, _, list8 s hl⟩
  simp only [List.getD_cons_zero, List.getD_cons_succ] at hr0 hr1 hr2 hr3 hr4 hr5 hr6 hr7
  have c1 := fun W => clower_c e f p hr4.1 hr4.2 hr5.1 hr5.2 hr6.1 hr6.2 W
  have c2 := fun W => cupper_c a b c hr0.1 hr0.2 hr1.1 hr1.2 hr2.1 hr2.2 W
  obtain ⟨y1, hy1⟩ : ∃ y, lowW e f p = y := ⟨_, rfl⟩
  obtain ⟨u1, hy2⟩ : ∃ y, uppW a b c = y := ⟨_, rfl⟩
  rw [hy1] at c1
  rw [hy2] at c2
  unfold lowW at hy1
  unfold uppW at hy2
  obtain ⟨t1, ht1⟩ : ∃ t, (q + y1) % 4294967296 = t := ⟨_, rfl⟩
  obtain ⟨t2, ht2⟩ : ∃ t, (t1 + K) % 4294967296 = t := ⟨_, rfl⟩
  obtain ⟨t4, ht4⟩ : ∃ t, (t2 + W) % 4294967296 = t := ⟨_, rfl⟩
  have hres : roundL [a, b, c, d, e, f, p, q] W K = [(t4 + u1) % 4294967296, a, b, c, (d + t4) % 4294967296, e, f, p] := by
    have e1 : (q + turn3 e 6 11 25 + chW e f p + K + W) % 4294967296 = t4 := by omega
    simp only [roundL, List.getD_cons_zero, List.getD_cons_succ]
    rw [e1, hy2]
  rw [hres]
  obtain ⟨v0, hv0⟩ : ∃ t, (t4 + u1) % 4294967296 = t := ⟨_, rfl⟩
  obtain ⟨v4, hv4⟩ : ∃ t, (d + t4) % 4294967296 = t := ⟨_, rfl⟩
  rw [hv0, hv4]
  have f1 : IntKind.u32.wrap (q + y1) = t1 := by rw [IntKind.wrap_u32]; exact ht1
  have f2 : IntKind.u32.wrap (t1 + K) = t2 := by rw [IntKind.wrap_u32]; exact ht2
  have f4 : IntKind.u32.wrap (t2 + W) = t4 := by rw [IntKind.wrap_u32]; exact ht4
  have f6 : IntKind.u32.wrap (t4 + u1) = v0 := by rw [IntKind.wrap_u32]; exact hv0
  have f7 : IntKind.u32.wrap (d + t4) = v4 := by rw [IntKind.wrap_u32]; exact hv4
  have C1 := Lib.hid c1
  have C2 := Lib.hid c2
  clear hy1 hy2 ht1 ht2 ht4 hv0 hv4 hres hs hl c1 c2
  go_enter Tryd.func71, Tryd.ntmps71
  go_wp2_with (first
    | (with_reducible refine at_any ?_; refine at_dst 3 rfl ?_; refine wpList_box_ints rfl 70 (.tmp 0) rfl .u32 _ rfl ?_; intro w1 hk1 hs1 hb1)
    | (with_reducible refine at_any ?_; refine at_dst 6 rfl ?_; refine wpList_alloc_ints rfl 70 rfl .u32 Z8 zero_state ?_; intro w2 hk2 hs2 hb2))
  have HS : St2 w w.heap.size w1.heap.size [a, b, c, d, e, f, p, q] Z8 w2 := by
    have q1 := hs1.out
    exact ⟨hk1.out.below hb2 (by omega), hk2.out, hb1.trans (hb2.mono (by omega)), by omega, by omega⟩
  obtain ⟨g, hg⟩ : ∃ g, w.heap.size = g := ⟨_, rfl⟩
  obtain ⟨r, hr⟩ : ∃ g, w1.heap.size = g := ⟨_, rfl⟩
  have HW := Lib.hid hg
  rw [hg, hr] at HS
  rw [hg, hr]
  clear hk1 hs1 hb1 hk2 hs2 hb2 hg hr
  have HSd := HS.drew
  go_region_held3 (fun w' => w'.cell? ⟨g, 0, none⟩ = some (.int .u32 a) ∧ w'.cell? ⟨g, 1, none⟩ = some (.int .u32 b) ∧ w'.cell? ⟨g, 2, none⟩ = some (.int .u32 c) ∧ w'.cell? ⟨g, 3, none⟩ = some (.int .u32 d) ∧ w'.cell? ⟨g, 4, none⟩ = some (.int .u32 e) ∧ w'.cell? ⟨g, 5, none⟩ = some (.int .u32 f) ∧ w'.cell? ⟨g, 6, none⟩ = some (.int .u32 p) ∧ w'.cell? ⟨g, 7, none⟩ = some (.int .u32 q) ∧ St2 w g r [a, b, c, d, e, f, p, q] Z8 w')
    (first | assumption | exact HSd.cells)
    (fail)
  have HS6 := Lib.hid HSd.snd
  go_wp2_with (first
    | (go_at_call 77; (with_reducible refine (C1.out _).mono ?_); rintro e _ ⟨rfl, rfl⟩)
    | (go_at_call 78; (with_reducible refine (C2.out _).mono ?_); rintro e _ ⟨rfl, rfl⟩)
    | (with_reducible refine at_any ?_; refine at_store 6 rfl ?_; refine wpList_store_ints rfl 70 (.tmp 6) (.tmp 59) rfl r rfl 70 .u32 Z8 [v0, a, b, c, v4, e, f, p] HS6.out (by kernel_rfl) (Z8_len8 _ _ _ _ _ _ _ _) (size_state8 _ _ _ _ _ _ _ _) ?_; intro w9 hk9 hs9 hb9 ho9)
    | (refine bodyPost_cell 6 70 rfl r rfl 70 .u32 [v0, a, b, c, v4, e, f, p] hk9.out _ Tryd.underlying70 rfl (size_state8 _ _ _ _ _ _ _ _) rfl ?_))
  exact HSd.bel.trans (hb9 _ HSd.out)
end Go.Proofs.YtmeefnhmkffdlaaDoor
/-
  What the program's comp.Take returns, and that it leaves memory as it was.
  Conditions: the arguments lie in their types' ranges; the table of constants holds what the program's text lays.
-/
set_option maxRecDepth 100000
set_option linter.unusedSimpArgs false
namespace Go.Proofs.YtmeefnhmkffdlaaDoor
open Go.ChangeShapes Go.WideShapes Go.ChangeAt Go.RowKit
set_option linter.unusedVariables false
theorem In3.store {w w' w'' : World} {g1 g2 g3 : Nat} {t1 t2 t3 : TypeId} {k1 k2 k3 : IntKind} {l1 l2 l3 y : List Int} (h : In3 w g1 g2 g3 t1 t2 t3 k1 k2 k3 l1 l2 l3 w') (hk : BlkI w'' g3 t3 k3 y) (hb : ∀ B, B ≤ g3 → Below B w' w'') (ho : ∀ j, j ≠ g3 → w''.heap[j]? = w'.heap[j]?) : In3 w g1 g2 g3 t1 t2 t3 k1 k2 k3 l1 l2 y w'' := by
  obtain ⟨h1, h2, h3, h4, h5, h6, h7⟩ := h
  exact ⟨h1.other ho h6, h2.other ho h7, hk, h4.trans (hb _ h5), h5, h6, h7⟩
theorem sums_comm (x s : List Int) (hx : x.length = 8) (hs : s.length = 8) : sums x s 8 = sums s x 8 := by
  obtain ⟨a, b, c, d, e, f, p, q, rfl⟩ : ∃ a b c d e f p q, s = [a, b, c, d, e, f, p, q] := ⟨_, _, _, _, _, _, _, _, list8 s hs⟩
  obtain ⟨a', b', c', d', e', f', p', q', rfl⟩ : ∃ a b c d e f p q, x = [a, b, c, d, e, f, p, q] := ⟨_, _, _, _, _, _, _, _, list8 x hx⟩
  simp [sums, Int.add_comm]
theorem index_plan (zs : List Int) (hl : zs.length = 64) (i : Int) (h0 : 0 ≤ i) (h1 : i ≤ 63) (w : World) : (Instr.index 92 (.agg (intsA .u32 zs)) (.int .i64 i)).run Tryd.prog w = .ok (.int .u32 (zs.getD i.toNat 0)) w := by
  obtain ⟨i0, hi, _, hs, _⟩ := info_parts info_u32c
  exact run_index_arr Tryd.underlying92 Tryd.underlying45 hi hs _ _ _ _ h0 (by omega) (intsA_at .u32 zs i.toNat (by omega)) w
/-- What Take keeps: the state that came in, the one to go out, the one at hand. -/
def Tz (w : World) (g2 g4 g5 : Nat) (s z : List Int) (w' : World) : Prop := In3 w g2 g4 g5 70 70 70 .u32 .u32 .u32 s Z8 z w' ∧ Kst w' ∧ w.heap.size ≤ g2
def TzW (w : World) (g2 g4 g5 : Nat) (s : List Int) (w' : World) : Prop := ∃ z, Tz w g2 g4 g5 s z w'
section
variable {w w' w'' : World} {g2 g4 g5 : Nat} {s z : List Int}
theorem Tz.kst (h : Tz w g2 g4 g5 s z w') : Kst w' := h.2.1
theorem TzW.kst (h : TzW w g2 g4 g5 s w') : Kst w' := by obtain ⟨z, h⟩ := h; exact h.kst
theorem Tz.drew (h : Tz w g2 g4 g5 s z w') : Tz w g2 g4 g5 s z w'.drew := ⟨h.1.drew, h.2.1.drew, h.2.2⟩
theorem Tz.below (h : Tz w g2 g4 g5 s z w') (hb : Below w'.heap.size w' w'') : Tz w g2 g4 g5 s z w'' := ⟨h.1.below hb, h.2.1.below hb, h.2.2⟩
theorem Tz.store (h : Tz w g2 g4 g5 s z w') (hw : Kst w) {y : List Int} (hk : BlkI w'' g5 70 .u32 y) (hb : ∀ B, B ≤ g5 → Below B w' w'') (ho : ∀ j, j ≠ g5 → w''.heap[j]? = w'.heap[j]?) : Tz w g2 g4 g5 s y w'' := by
  have h1 := h.1.store hk hb ho
  exact ⟨h1, hw.below h1.bel, h.2.2⟩
end
set_option maxHeartbeats 2000000 in
theorem ctake_c (s b : List Int) (hl : s.length = 8) (hs : WIn s) (hbl : b.length = 64) (hb : ∀ z ∈ b, 0 ≤ z ∧ z < 256) (w : World) (hkst : Kst w) :
    Calls Tryd.prog 62 #[.agg (intsA .u32 s), .agg (intsA .u8 b)] w fun e w' => e = .returned (.agg (intsA .u32 (takeL s b))) ∧ Below w.heap.size w w' := by
  obtain ⟨X0, hx⟩ : ∃ x, rounds s b 64 = x := ⟨_, rfl⟩
  obtain ⟨R, hR⟩ : ∃ R, sums s X0 8 = R := ⟨_, rfl⟩
  have hxl := rounds_len s b hl 64
  rw [hx] at hxl
  rw [show takeL s b = R by rw [takeL, hx, sums_comm X0 s hxl hl, hR]]
  have HX := Lib.hid hx
  have HR := Lib.hid hR
  have HXL := Lib.hid hxl
  clear hx hR hxl
  have SZ := Lib.hid (sized s hl)
  have ZL := Lib.hid (show Z8.length = s.length by rw [hl]; rfl)
  have BS := Lib.hid (show (Tryd.prog.info? 81).map (·.size) = some b.length by rw [hbl]; kernel_rfl)
  have KW := Lib.hid hkst
  clear hkst
  have hix := fun W (i : Nat) (hi : i < 64) => index_plan (planL b) (planL_len b) (i : Int) (by omega) (by omega) W
  have co := fun W => pof_c b hbl hb W
  obtain ⟨PA, hPA⟩ : ∃ S, intsA .u32 (planL b) = S := ⟨_, rfl⟩
  rw [hPA] at hix co
  have CO := Lib.hid co
  have HIX := Lib.hid hix
  clear hix co
  go_enter Tryd.func62, Tryd.ntmps62
  go_wp2_with (first
    | (with_reducible refine at_any ?_; refine at_dst 2 rfl ?_; refine wpList_box_ints rfl 70 (.tmp 0) rfl .u32 s rfl ?_; intro w1 hk1 hs1 hb1)
    | (with_reducible refine at_any ?_; refine at_dst 3 rfl ?_; refine wpList_box_ints rfl 81 (.tmp 1) rfl .u8 b rfl ?_; intro w2 hk2 hs2 hb2; have hk1b := Lib.hid (hk1.out.below hb2 hk1.out.lt))
    | (with_reducible refine at_any ?_; refine at_dst 4 rfl ?_; refine wpList_alloc_ints rfl 70 rfl .u32 Z8 zero_state ?_; intro w3 hk3 hs3 hb3; have hk1c := Lib.hid (hk1b.out.below hb3 hk1b.out.lt); have hk2c := Lib.hid (hk2.out.below hb3 hk2.out.lt); have bl3 := Lib.hid (hb1.trans ((hb2.mono hb1.size).trans (hb3.mono (by have := hb1.size; have := hb2.size; omega)))))
    | (with_reducible refine at_any ?_; refine at_dst 9 rfl ?_; refine wpList_load_ints rfl 70 (.tmp 2) rfl w.heap.size rfl 70 .u32 s hk1c.out _ Tryd.underlying70 rfl SZ.out ?_)
    | (with_reducible refine at_any ?_; refine at_dst 5 rfl ?_; refine wpList_alloc_ints rfl 70 rfl .u32 Z8 zero_state ?_; intro w4 hk4 hs4 hb4; have hk1d := Lib.hid (hk1c.out.below hb4 hk1c.out.lt); have hk2d := Lib.hid (hk2c.out.below hb4 hk2c.out.lt); have hk3d := Lib.hid (hk3.out.below hb4 hk3.out.lt); have bl4 := Lib.hid (bl3.out.trans (hb4.mono bl3.out.size)))
    | (with_reducible refine at_any ?_; refine at_store 5 rfl ?_; refine wpList_store_ints rfl 70 (.tmp 5) (.tmp 9) rfl w3.heap.size rfl 70 .u32 Z8 s hk4.out rfl ZL.out SZ.out ?_; intro w5 hk5 hs5 hb5 ho5; have hk1e := Lib.hid (hk1d.out.below (hb5 _ (Nat.le_refl _)) hk1c.out.lt); have hk2e := Lib.hid (hk2d.out.below (hb5 _ (Nat.le_refl _)) hk2c.out.lt); have hk3e := Lib.hid (hk3d.out.below (hb5 _ (Nat.le_refl _)) hk3.out.lt); have bl5 := Lib.hid (bl4.out.trans (hb5 _ bl3.out.size)))
    | (with_reducible refine at_any ?_; refine at_dst 10 rfl ?_; refine wpList_load_ints rfl 81 (.tmp 3) rfl w1.heap.size rfl 81 .u8 b hk2e.out _ Tryd.underlying81 rfl BS.out ?_)
    | (go_at_call 70; (with_reducible refine (CO.out _).mono ?_); rintro e w6 ⟨rfl, hb6⟩))
  have HT : Tz w w.heap.size w2.heap.size w3.heap.size s (rounds s b 0) w6 := by
    have q1 := hk1c.out.lt
    have q3 := hk3.out.lt
    have q2 := hk3.out.lt
    have qa := hb1.size
    have qb := hb2.size
    have qc := hb3.size
    have h3 : In3 w w.heap.size w2.heap.size w3.heap.size 70 70 70 .u32 .u32 .u32 s Z8 s w6 := ⟨hk1e.out.below hb6 hk1e.out.lt, hk3e.out.below hb6 hk3e.out.lt, hk5.out.below hb6 hk5.out.lt, bl5.out.trans (hb6.mono bl5.out.size), bl3.out.size, by omega, by omega⟩
    exact ⟨h3, KW.out.below h3.bel, Nat.le_refl _⟩
  obtain ⟨g2, hg2⟩ : ∃ g, w.heap.size = g := ⟨_, rfl⟩
  obtain ⟨g4, hg4⟩ : ∃ g, w2.heap.size = g := ⟨_, rfl⟩
  obtain ⟨g5, hg5⟩ : ∃ g, w3.heap.size = g := ⟨_, rfl⟩
  have HG4 := Lib.hid (show w.heap.size ≤ g4 ∧ g2 ≠ g4 ∧ g2 ≠ g5 by have := hs1.out; have := hs2.out; have := hs3.out; omega)
  have HW := Lib.hid hg2
  rw [hg2, hg4, hg5] at HT
  rw [hg2, hg4, hg5]
  clear hk1 hs1 hb1 hk2 hs2 hb2 hk1b hk3 hs3 hb3 hk1c hk2c bl3 hk4 hs4 hb4 hk1d hk2d hk3d bl4 hk5 hs5 hb5 ho5 hk1e hk2e hk3e bl5 hb6 hg2 hg4 hg5 BS ZL CO
  go_loopw [12] (fun v wr => ∃ i : Nat, i ≤ 64 ∧ v = .int .i64 i ∧ Tz w g2 g4 g5 s (rounds s b i) wr) (fun v _ => 64 - (intOf v).toNat)
  case atStart => exact ⟨0, by omega, rfl, HT⟩
  case round =>
    clear HT
    obtain ⟨i, hi, rfl, HT⟩ := hrel
    by_cases hlt : i < 64
    · have hxl := rounds_len s b hl i
      have hxi := rounds_in s b hs i
      have hix := fun W => HIX.out W i hlt
      have ry := pw_in b hb i hlt
      rw [show (planL b).getD ((i : Int)).toNat 0 = pw b i by rfl] at hix
      obtain ⟨x, hx⟩ : ∃ x, rounds s b i = x := ⟨_, rfl⟩
      have hnx : rounds s b (i + 1) = roundL x (pw b i) (constN i) := by rw [rounds, hx]
      rw [hx] at hxl hxi HT
      obtain ⟨y, hy⟩ : ∃ y, pw b i = y := ⟨_, rfl⟩
      obtain ⟨k, hk⟩ : ∃ k, constN (i : Int) = k := ⟨_, rfl⟩
      have rk := constN_in (i : Int)
      rw [hy, hk] at hnx
      rw [hy] at hix ry
      rw [hk] at rk
      have d1 := fun W (h : Kst W) => cconst_c (i : Int) (by omega) (by omega) W h
      rw [hk] at d1
      have D1 := Lib.hid d1
      have D2 := Lib.hid (fun W => cround_c x y k hxl hxi ry.1 ry.2 rk.1 rk.2 W)
      have HXS := Lib.hid (sized x hxl)
      have HRS := Lib.hid (sized (roundL x y k) rfl)
      have HLL := Lib.hid (show x.length = (roundL x y k).length by rw [hxl]; rfl)
      have q0 : (0 : Int) ≤ (i : Int) ∧ (i : Int) < 64 := by omega
      have HNX := Lib.hid hnx
      have HTd := HT.drew
      clear hnx hx hy hk d1 hxl hxi rk ry
      go_wp2
      refine wp_region_held_drew (S := TzW w g2 g4 g5 s) (by kernel_rfl) (⟨_, HTd⟩) (fun hH => ?_)
      refine held_val 1 rfl (by kernel_rfl) (by kernel_rfl) (by kernel_rfl) (fun _ _ _ _ h => h) (by rfl) (.int .u32 y) (fun W h => by go_simp) hH ?_
      try simp only [Act.put, List.setIfInBounds_toArray, List.set_cons_zero, List.set_cons_succ]
      refine held_val 2 rfl (by kernel_rfl) (by kernel_rfl) (by kernel_rfl) (fun _ _ _ _ h => h) (by rfl) (.int .i64 (i : Int)) (fun W h => by go_simp) hH ?_
      try simp only [Act.put, List.setIfInBounds_toArray, List.set_cons_zero, List.set_cons_succ]
      refine wpAnyH_ready (rs := [0, 3]) (by kernel_rfl) (by decide) ?_
      refine AllReadyH.cons rfl (fun K hK => ?_) (AllReadyH.cons rfl (fun K hK => ?_) AllReadyH.nil)
      · refine step_load_ints (by rfl) 70 (.tmp 5) rfl g5 (by kernel_rfl) 70 .u32 x HTd.1.trd _ Tryd.underlying70 rfl HXS.out ?_
        refine hK.out _ _ hH (fun _ => ?_)
        clear hK K
        try simp only [Act.put, List.setIfInBounds_toArray, List.set_cons_zero, List.set_cons_succ]
        refine wpAnyH_ready (rs := [3]) (by kernel_rfl) (by decide) ?_
        refine AllReadyH.cons rfl (fun K hK => ?_) AllReadyH.nil
        go_simp
        refine (D1.out _ HTd.kst).mono ?_
        rintro e _ ⟨rfl, rfl⟩
        refine hK.out _ _ hH (fun _ => ?_)
        clear hK K
        try simp only [Act.put, List.setIfInBounds_toArray, List.set_cons_zero, List.set_cons_succ]
        refine wpAnyH_ready (rs := [4]) (by kernel_rfl) (by decide) ?_
        refine AllReadyH.cons rfl (fun K hK => ?_) AllReadyH.nil
        go_simp
        refine (D2.out _).mono ?_
        rintro e w9 ⟨rfl, hbw9⟩
        have h9 := HTd.below hbw9
        refine hK.out _ _ ⟨_, h9⟩ (fun _ => ?_)
        clear hK K
        try simp only [Act.put, List.setIfInBounds_toArray, List.set_cons_zero, List.set_cons_succ]
        refine held_store 5 rfl (by kernel_rfl) (by rfl) 70 (.tmp 5) (.tmp 20) rfl g5 (by kernel_rfl) 70 .u32 x (roundL x y k) (h9.1.trd) (by kernel_rfl) (HLL.out) (HRS.out) ?_
        intro w10 hkw10 hbw10 how10
        refine ⟨⟨_, h9.store KW.out hkw10.out hbw10 how10⟩, ?_⟩
        try simp only [Act.put, List.setIfInBounds_toArray, List.set_cons_zero, List.set_cons_succ]
        refine wpAnyH_done (by kernel_rfl) ?_ _
        have HN := Lib.hid (h9.store KW.out hkw10.out hbw10 how10)
        rw [← HNX.out] at HN
        go_wp2
        go_roundw
        case rel => exact ⟨i + 1, by omega, by go_num, HN.out⟩
        case measure => simp [intOf]; omega
      · go_simp
        refine (D1.out _ HTd.kst).mono ?_
        rintro e _ ⟨rfl, rfl⟩
        refine hK.out _ _ hH (fun _ => ?_)
        clear hK K
        try simp only [Act.put, List.setIfInBounds_toArray, List.set_cons_zero, List.set_cons_succ]
        refine wpAnyH_ready (rs := [0]) (by kernel_rfl) (by decide) ?_
        refine AllReadyH.cons rfl (fun K hK => ?_) AllReadyH.nil
        refine step_load_ints (by rfl) 70 (.tmp 5) rfl g5 (by kernel_rfl) 70 .u32 x HTd.1.trd _ Tryd.underlying70 rfl HXS.out ?_
        refine hK.out _ _ hH (fun _ => ?_)
        clear hK K
        try simp only [Act.put, List.setIfInBounds_toArray, List.set_cons_zero, List.set_cons_succ]
        refine wpAnyH_ready (rs := [4]) (by kernel_rfl) (by decide) ?_
        refine AllReadyH.cons rfl (fun K hK => ?_) AllReadyH.nil
        go_simp
        refine (D2.out _).mono ?_
        rintro e w9 ⟨rfl, hbw9⟩
        have h9 := HTd.below hbw9
        refine hK.out _ _ ⟨_, h9⟩ (fun _ => ?_)
        clear hK K
        try simp only [Act.put, List.setIfInBounds_toArray, List.set_cons_zero, List.set_cons_succ]
        refine held_store 5 rfl (by kernel_rfl) (by rfl) 70 (.tmp 5) (.tmp 20) rfl g5 (by kernel_rfl) 70 .u32 x (roundL x y k) (h9.1.trd) (by kernel_rfl) (HLL.out) (HRS.out) ?_
        intro w10 hkw10 hbw10 how10
        refine ⟨⟨_, h9.store KW.out hkw10.out hbw10 how10⟩, ?_⟩
        try simp only [Act.put, List.setIfInBounds_toArray, List.set_cons_zero, List.set_cons_succ]
        refine wpAnyH_done (by kernel_rfl) ?_ _
        have HN := Lib.hid (h9.store KW.out hkw10.out hbw10 how10)
        rw [← HNX.out] at HN
        go_wp2
        go_roundw
        case rel => exact ⟨i + 1, by omega, by go_num, HN.out⟩
        case measure => simp [intOf]; omega
    · rw [show ((i : Nat) : Int) = 64 by omega]
      obtain rfl : i = 64 := by omega
      have hxl := HXL.out
      rw [HX.out] at HT
      have HI : In3 w g5 g4 g2 70 70 70 .u32 .u32 .u32 X0 Z8 s wr := ⟨HT.1.trd, HT.1.snd, HT.1.fst, HT.1.bel, HT.2.2, Ne.symm HG4.out.2.2, Ne.symm HG4.out.2.1⟩
      clear HT hi hlt
      go_wp2
      go_loopw [22] (fun v wr => ∃ i : Nat, i ≤ 8 ∧ v = .int .i64 i ∧ In3 w g5 g4 g2 70 70 70 .u32 .u32 .u32 X0 Z8 (sums s X0 i) wr) (fun v _ => 8 - (intOf v).toNat)
      case atStart => exact ⟨0, by omega, rfl, HI⟩
      case round =>
        clear HI
        obtain ⟨i, hi, rfl, HI⟩ := hrel
        by_cases hlt : i < 8
        · have hsl := sums_len s X0 i
          have c6 := HI.trd.cell (j := i) (by omega)
          rw [sums_at s X0 i i (Nat.le_refl _)] at c6
          have f6 := HI.trd.frozen i
          have c2 := HI.fst.cell (j := i) (by omega)
          have HN := Lib.hid (HI.set_ i ((s.getD i 0 + X0.getD i 0) % 4294967296)).drew
          rw [← sums] at HN
          obtain ⟨y, hy⟩ : ∃ y, s.getD i 0 = y := ⟨_, rfl⟩
          obtain ⟨z, hz⟩ : ∃ z, X0.getD i 0 = z := ⟨_, rfl⟩
          obtain ⟨v, hv⟩ : ∃ v, (y + z) % 4294967296 = v := ⟨_, rfl⟩
          rw [hy] at c6
          rw [hz] at c2
          rw [hy, hz, hv] at HN
          have e1 : IntKind.u32.wrap (y + z) = v := by rw [IntKind.wrap_u32]; exact hv
          have q0 : (0 : Int) ≤ (i : Int) ∧ (i : Int) < 8 := by omega
          clear HI hy hz hv hsl
          go_wp2
          go_region
          all_goals
            go_wp2
            go_roundw
            case rel => exact ⟨i + 1, by omega, by go_num, HN.out⟩
            case measure => simp [intOf]; omega
        · rw [show ((i : Nat) : Int) = 8 by omega]
          obtain rfl : i = 8 := by omega
          have hsl := sums_len s X0 8
          rw [hl] at hsl
          have RZ := Lib.hid (sized (sums s X0 8) hsl)
          have RL := Lib.hid (show Z8.length = (sums s X0 8).length by rw [hsl]; rfl)
          have H6 := Lib.hid HI.trd
          have H4 := Lib.hid HI.snd
          have HB := Lib.hid HI.bel
          rw [HR.out] at RZ RL H6
          clear HI hi hlt hsl
          go_wp2_with (first
            | (with_reducible refine at_any ?_; refine at_dst 34 rfl ?_; refine wpList_load_ints rfl 70 (.tmp 2) rfl g2 rfl 70 .u32 R H6.out _ Tryd.underlying70 rfl RZ.out ?_)
            | (with_reducible refine at_any ?_; refine at_store 4 rfl ?_; refine wpList_store_ints rfl 70 (.tmp 4) (.tmp 34) rfl g4 rfl 70 .u32 Z8 R H4.out rfl RL.out RZ.out ?_; intro w9 hk9 hs9 hb9 ho9)
            | (refine bodyPost_cell 4 70 rfl g4 rfl 70 .u32 R hk9.out _ Tryd.underlying70 rfl RZ.out rfl ?_))
          first | exact HB.out.trans (hb9 _ HG4.out.1) | (rw [← HW.out]; exact HB.out.trans (hb9 _ HG4.out.1))
end Go.Proofs.YtmeefnhmkffdlaaDoor
/-
  What the program's writer that writes does with a block (take), and what else of memory it leaves.
  Conditions: those that each theorem names.
-/
set_option maxRecDepth 100000
set_option linter.unusedSimpArgs false
namespace Go.Proofs.YtmeefnhmkffdlaaDoor
open Go.ChangeShapes Go.WideShapes Go.ChangeAt Go.RowKit
set_option linter.unusedVariables false
/-- Nothing is handed back; the writer at g has this state, rest and bytes; nothing else has changed. -/
def RetG (w : World) (g : Nat) (V : Array Value) (e : Ending) (w' : World) : Prop := e = .returned (.tuple #[]) ∧ Blk w' g 88 V ∧ Only g w w'
set_option maxHeartbeats 1000000 in
theorem qtake_c (g : Nat) (A : Option Addr) (r c : Nat) (s b : List Int) (n : Int) (hl : s.length = 8) (hs : WIn s) (hbl : b.length = 64) (hb : ∀ z ∈ b, 0 ≤ z ∧ z < 256) (w : World) (hg : Blk w g 88 (wrV s A r c n)) (hkst : Kst w) :
    Calls Tryd.prog 56 #[.pointer (some ⟨g, 0, none⟩), .agg (intsA .u8 b)] w (RetG w g (wrV (takeL s b) A r c n)) := by
  have hyl := takeL_len s b hl
  have HC := Lib.hid (fun W => ctake_c s b hl hs hbl hb W)
  obtain ⟨y, hy⟩ : ∃ y, takeL s b = y := ⟨_, rfl⟩
  rw [hy] at hyl HC ⊢
  have HPU := Lib.hid (wrV_put s y hl hyl A r c n)
  have SS := Lib.hid (sized s hl)
  have SY := Lib.hid (show (Tryd.prog.info? 70).map (·.size) = some (intsA .u32 y).size by rw [intsA_size, hyl]; exact size_state)
  have SB := Lib.hid (show (Tryd.prog.info? 81).map (·.size) = some (b.map (Value.int .u8)).length by rw [List.length_map, hbl]; exact size_blk)
  have LY := Lib.hid (show (intsA .u32 y).size ≤ (wrV s A r c n).size by rw [intsA_size, hyl, wrV_size s hl]; omega)
  have OY := Lib.hid (all_oneCell_toArray (ints_one .u32 y))
  have HST := Lib.hid (fun W (h : Blk W g 88 (wrV s A r c n)) => wrV_range h)
  obtain ⟨V, hV⟩ : ∃ V, wrV s A r c n = V := ⟨_, rfl⟩
  rw [hV] at hg HPU LY HST
  have HG := Lib.hid hg
  have HK := Lib.hid hkst
  clear hV hy hl hs hbl hb hg hkst
  go_enter Tryd.func56, Tryd.ntmps56
  go_wp2_with (with_reducible refine at_any ?_; refine at_dst 3 rfl ?_; refine wpList_box_ints rfl 81 (.tmp 1) rfl .u8 b rfl ?_; intro w1 hk1 hs1 hb1)
  have HG1 := HG.out.below hb1 HG.out.lt
  have HO1 : Only g w w1 := Only.of_below hb1
  have HK1 := HK.out.below hb1
  have HB1 := hk1.out
  have hne : w.heap.size ≠ g := by have := HG.out.lt; omega
  obtain ⟨q, hq⟩ : ∃ q, w.heap.size = q := ⟨_, rfl⟩
  rw [hq] at HB1 hne
  rw [hq]
  clear hk1 hs1 hb1 hq
  refine wp_region_held_drew (S := LiesB q b) (by kernel_rfl) (HB1.drew) (fun hH => ?_)
  refine held_v 0 (some 4) rfl rfl (by kernel_rfl) (by kernel_rfl) (by kernel_rfl) (fun _ _ _ _ h => h) (by kernel_rfl) (.pointer (some ⟨g, 0, none⟩)) (fun W h => by go_simp) hH ?_
  try simp only [Act.put, List.setIfInBounds_toArray, List.set_cons_zero, List.set_cons_succ]
  refine held_v 1 (some 5) rfl rfl (by kernel_rfl) (by kernel_rfl) (by kernel_rfl) (fun _ _ _ _ h => h) (by kernel_rfl) (.pointer (some ⟨g, 0, none⟩)) (fun W h => by go_simp) hH ?_
  try simp only [Act.put, List.setIfInBounds_toArray, List.set_cons_zero, List.set_cons_succ]
  refine held_v 2 (some 6) rfl rfl (by kernel_rfl) (by kernel_rfl) (by kernel_rfl) (fun _ _ _ _ h => h) (by kernel_rfl) (.pointer (some ⟨g, 0, none⟩)) (fun W h => by go_simp) hH ?_
  try simp only [Act.put, List.setIfInBounds_toArray, List.set_cons_zero, List.set_cons_succ]
  refine held_v 3 (some 7) rfl rfl (by kernel_rfl) (by kernel_rfl) (by kernel_rfl) (fun _ _ _ _ h => h) (by kernel_rfl) (.pointer (some ⟨g, 0, none⟩)) (fun W h => by go_simp) hH ?_
  try simp only [Act.put, List.setIfInBounds_toArray, List.set_cons_zero, List.set_cons_succ]
  refine held_v 4 (some 8) rfl rfl (by kernel_rfl) (by kernel_rfl) (by kernel_rfl) (fun _ _ _ _ h => h) (by kernel_rfl) (.pointer (some ⟨g, 0, none⟩)) (fun W h => by go_simp) hH ?_
  try simp only [Act.put, List.setIfInBounds_toArray, List.set_cons_zero, List.set_cons_succ]
  refine held_load_at 6 (some 10) rfl rfl (by kernel_rfl) (by kernel_rfl) (by kernel_rfl) (fun _ _ _ _ h => h) (by kernel_rfl) 81 (.tmp 3) rfl q 0 (by kernel_rfl) (b.map (Value.int .u8)) (fun W h => blk_range h) _ Tryd.underlying81 rfl SB.out hH ?_
  try simp only [Act.put, List.setIfInBounds_toArray, List.set_cons_zero, List.set_cons_succ]
  refine wpAnyH_ready (rs := [5]) (by kernel_rfl) (by decide) ?_
  refine AllReadyH.cons rfl (fun K hK => ?_) AllReadyH.nil
  refine step_load_at (some 9) rfl (by kernel_rfl) 70 (.tmp 8) rfl g 0 (by kernel_rfl) (s.map (Value.int .u32)) (HST.out _ HG1.drew) _ Tryd.underlying70 rfl (by rw [List.length_map]; exact SS.out) ?_
  refine hK.out _ _ hH (fun _ => ?_)
  clear hK K
  try simp only [Act.put, List.setIfInBounds_toArray, List.set_cons_zero, List.set_cons_succ]
  refine wpAnyH_ready (rs := [7]) (by kernel_rfl) (by decide) ?_
  refine AllReadyH.cons rfl (fun K hK => ?_) AllReadyH.nil
  refine step_call (some 11) rfl (by kernel_rfl) _ _ (by kernel_rfl) _ (HC.out w1.drew HK1.drew) ?_
  rintro e w4 ⟨rfl, hb4⟩
  have HG4 := HG1.drew.below hb4 HG1.lt
  have hH4 : LiesB q b w4 := BlkI.below hH hb4 (BlkI.lt hH)
  have HO4 : Only g w w4 := HO1.trans (Only.of_below (w := w1.drew) hb4).of_drew
  refine ⟨_, rfl, ?_⟩
  refine hK.out _ _ hH4 (fun hH4 => ?_)
  clear hK K
  try simp only [Act.put, List.setIfInBounds_toArray, List.set_cons_zero, List.set_cons_succ]
  refine held_v 8 (some 12) rfl rfl (by kernel_rfl) (by kernel_rfl) (by kernel_rfl) (fun _ _ _ _ h => h) (by kernel_rfl) (.pointer (some ⟨g, 0, none⟩)) (fun W h => by go_simp) hH4 ?_
  try simp only [Act.put, List.setIfInBounds_toArray, List.set_cons_zero, List.set_cons_succ]
  refine held_v 9 (some 13) rfl rfl (by kernel_rfl) (by kernel_rfl) (by kernel_rfl) (fun _ _ _ _ h => h) (by kernel_rfl) (.pointer (some ⟨g, 0, none⟩)) (fun W h => by go_simp) hH4 ?_
  try simp only [Act.put, List.setIfInBounds_toArray, List.set_cons_zero, List.set_cons_succ]
  refine held_v 10 (some 14) rfl rfl (by kernel_rfl) (by kernel_rfl) (by kernel_rfl) (fun _ _ _ _ h => h) (by kernel_rfl) (.pointer (some ⟨g, 0, none⟩)) (fun W h => by go_simp) hH4 ?_
  try simp only [Act.put, List.setIfInBounds_toArray, List.set_cons_zero, List.set_cons_succ]
  refine wpAnyH_ready (rs := [11]) (by kernel_rfl) (by decide) ?_
  refine AllReadyH.cons rfl (fun K hK => ?_) AllReadyH.nil
  refine step_store_at none rfl (by kernel_rfl) 70 (.tmp 14) (.tmp 11) rfl g (by kernel_rfl) 88 V (intsA .u32 y) HG4 (by kernel_rfl) LY.out SY.out OY.out ?_
  intro w5 hk5 ho5
  have hH5 : LiesB q b w5 := Blk.only hH4 ho5 hne
  refine hK.out _ _ hH5 (fun _ => ?_)
  clear hK K
  try simp only [Act.put, List.setIfInBounds_toArray, List.set_cons_zero, List.set_cons_succ]
  refine wpAnyH_done (by kernel_rfl) ?_ _
  go_wp2
  go_end0
  exact ⟨rfl, by rw [← HPU.out]; exact hk5.out, HO4.trans ho5⟩
end Go.Proofs.YtmeefnhmkffdlaaDoor
/-
  A source that is read, in memory: its cells, made, set one by one, read; what is kept of the block that was hashed last.
  Conditions: those that each theorem names.
-/
set_option maxRecDepth 100000
set_option linter.unusedVariables false
set_option linter.unusedSimpArgs false
namespace Go.Proofs.YtmeefnhmkffdlaaDoor
open Go.ChangeShapes Go.WideShapes Go.ChangeAt Go.RowKit
/-- A source that is read: the source, the block that was hashed last, and whether one was. -/
def rdV (s : Src) (A : Option Addr) (c : Nat) (b : List Int) (h : Bool) : Array Value := ([Value.int .i64 s.kind, .slice A s.tape.length c, .int .u64 s.bits] ++ (s.seed.map (Value.int .u8) ++ ([Value.int .u64 s.dom, .int .u64 s.at_] ++ (b.map (Value.int .u8) ++ [Value.bool h])))).toArray
theorem rdV_size (s : Src) (hl : s.seed.length = 32) (A : Option Addr) (c : Nat) (b : List Int) (hb : b.length = 32) (h : Bool) : (rdV s A c b h).size = 70 := by simp [rdV, hl, hb]
theorem rdV_ones (s : Src) (A : Option Addr) (c : Nat) (b : List Int) (h : Bool) : (rdV s A c b h).all (·.oneCell') = true := all_oneCell_toArray (by
  intro u hu
  simp only [List.mem_append, List.mem_cons, List.not_mem_nil, or_false, List.mem_map] at hu
  rcases hu with (h | h | h) | ⟨_, _, h⟩ | (h | h) | ⟨_, _, h⟩ | h <;> subst h <;> rfl)
theorem rdV_kind (s : Src) (A : Option Addr) (c : Nat) (b : List Int) (h : Bool) : (rdV s A c b h)[0]? = some (.int .i64 s.kind) := rfl
theorem rdV_tape (s : Src) (A : Option Addr) (c : Nat) (b : List Int) (h : Bool) : (rdV s A c b h)[1]? = some (.slice A s.tape.length c) := rfl
theorem rdV_dom (s : Src) (hl : s.seed.length = 32) (A : Option Addr) (c : Nat) (b : List Int) (h : Bool) : (rdV s A c b h)[35]? = some (.int .u64 s.dom) := by
  unfold rdV
  rw [List.getElem?_toArray, List.getElem?_append_right (by simp), List.getElem?_append_right (by simp [hl])]
  simp [hl]
theorem rdV_at (s : Src) (hl : s.seed.length = 32) (A : Option Addr) (c : Nat) (b : List Int) (h : Bool) : (rdV s A c b h)[36]? = some (.int .u64 s.at_) := by
  unfold rdV
  rw [List.getElem?_toArray, List.getElem?_append_right (by simp), List.getElem?_append_right (by simp [hl])]
  simp [hl]
theorem rdV_blk (s : Src) (hl : s.seed.length = 32) (A : Option Addr) (c : Nat) (b : List Int) (h : Bool) (j : Nat) (hj : j < b.length) : (rdV s A c b h)[37 + j]? = some (.int .u8 (b.getD j 0)) := by
  unfold rdV
  rw [List.getElem?_toArray, List.getElem?_append_right (by simp; omega), List.getElem?_append_right (by simp [hl]; omega), List.getElem?_append_right (by simp [hl]; omega)]
  simp only [List.length_cons, List.length_nil, List.length_map, hl]
  rw [List.getElem?_append_left (by simp; omega), List.getElem?_map, show 37 + j - (0 + 1 + 1 + 1) - 32 - (0 + 1 + 1) = j by omega, List.getElem?_eq_getElem hj, List.getD_eq_getElem?_getD, List.getElem?_eq_getElem hj]
  rfl
theorem rdV_hashed (s : Src) (hl : s.seed.length = 32) (A : Option Addr) (c : Nat) (b : List Int) (hb : b.length = 32) (h : Bool) : (rdV s A c b h)[69]? = some (.bool h) := by
  unfold rdV
  rw [List.getElem?_toArray, List.getElem?_append_right (by simp), List.getElem?_append_right (by simp [hl]), List.getElem?_append_right (by simp [hl]), List.getElem?_append_right (by simp [hl, hb])]
  simp [hl, hb]
theorem rdV_set36 (s : Src) (hl : s.seed.length = 32) (A : Option Addr) (c : Nat) (b : List Int) (h : Bool) (n : Int) : (rdV s A c b h).setIfInBounds 36 (.int .u64 n) = rdV (s.to n) A c b h := by
  unfold rdV Src.to
  rw [List.setIfInBounds_toArray]
  congr 1
  rw [List.set_append_right _ _ (by simp), List.set_append_right _ _ (by simp [hl])]
  simp [hl]
theorem rdV_set69 (s : Src) (hl : s.seed.length = 32) (A : Option Addr) (c : Nat) (b : List Int) (hb : b.length = 32) (h h' : Bool) : (rdV s A c b h).setIfInBounds 69 (.bool h') = rdV s A c b h' := by
  unfold rdV
  rw [List.setIfInBounds_toArray]
  congr 1
  rw [List.set_append_right _ _ (by simp), List.set_append_right _ _ (by simp [hl]), List.set_append_right _ _ (by simp [hl]), List.set_append_right _ _ (by simp [hl, hb])]
  simp [hl, hb]
theorem putAll_mid : ∀ (vs old pre post : List Value), vs.length = old.length → putAll (pre ++ (old ++ post)).toArray pre.length vs = (pre ++ (vs ++ post)).toArray
  | [], [], _, _, _ => rfl
  | [], _ :: _, _, _, h => by simp at h
  | _ :: _, [], _, _, h => by simp at h
  | v :: vs, o :: old, pre, post, h => by
    have ih := putAll_mid vs old (pre ++ [v]) post (by simpa using h)
    rw [putAll, List.setIfInBounds_toArray, List.set_append_right _ _ (Nat.le_refl _), Nat.sub_self]
    rw [show (o :: old ++ post).set 0 v = [v] ++ (old ++ post) from rfl, ← List.append_assoc]
    rw [List.length_append, List.length_singleton] at ih
    rw [ih]
    simp
theorem rdV_put (s : Src) (hl : s.seed.length = 32) (A : Option Addr) (c : Nat) (b y : List Int) (hb : b.length = 32) (hy : y.length = 32) (h : Bool) : putAll (rdV s A c b h) 37 (intsA .u8 y).toList = rdV s A c y h := by
  have hm := putAll_mid (y.map (Value.int .u8)) (b.map (Value.int .u8)) ([Value.int .i64 s.kind, .slice A s.tape.length c, .int .u64 s.bits] ++ (s.seed.map (Value.int .u8) ++ [Value.int .u64 s.dom, .int .u64 s.at_])) [Value.bool h] (by simp [hb, hy])
  rw [show ([Value.int .i64 s.kind, .slice A s.tape.length c, .int .u64 s.bits] ++ (s.seed.map (Value.int .u8) ++ [Value.int .u64 s.dom, .int .u64 s.at_])).length = 37 by simp [hl]] at hm
  unfold rdV intsA
  rw [List.append_assoc, List.append_assoc] at hm
  rw [List.append_assoc, List.append_assoc] at hm
  exact hm
theorem rdV_seed {w : World} {g : Nat} {t : TypeId} {s : Src} {A : Option Addr} {c : Nat} {b : List Int} {h : Bool} (hk : Blk w g t (rdV s A c b h)) : w.rangeAt g 3 (s.seed.map (Value.int .u8)) := by
  intro j v hv
  have hj : j < (s.seed.map (Value.int .u8)).length := by
    rcases Nat.lt_or_ge j (s.seed.map (Value.int .u8)).length with h1 | h1
    · exact h1
    · rw [List.getElem?_eq_none h1] at hv; cases hv
  rw [hk.cell]
  unfold rdV
  rw [List.getElem?_toArray, List.getElem?_append_right (by simp), show 3 + j - [Value.int .i64 s.kind, .slice A s.tape.length c, .int .u64 s.bits].length = j by simp, List.getElem?_append_left hj]
  exact hv
theorem rdV_src {w : World} {g : Nat} {t : TypeId} {s : Src} {A : Option Addr} {c : Nat} {b : List Int} {h : Bool} (hk : Blk w g t (rdV s A c b h)) : w.rangeAt g 0 (srcV s A c).toList := by
  intro j v hv
  rw [Nat.zero_add, hk.cell]
  have e : rdV s A c b h = ((srcV s A c).toList ++ (b.map (Value.int .u8) ++ [Value.bool h])).toArray := by simp [rdV, srcV]
  have hj : j < (srcV s A c).toList.length := by
    rcases Nat.lt_or_ge j (srcV s A c).toList.length with h1 | h1
    · exact h1
    · rw [List.getElem?_eq_none h1] at hv; cases hv
  rw [e, List.getElem?_toArray, List.getElem?_append_left hj]
  exact hv
theorem size_rdg : (Tryd.prog.info? 50).map (·.size) = some 70 := by kernel_rfl
theorem zero_rdg : ∀ W, (zeroValue 50).run Tryd.prog W = .ok (.agg (rdV Src.zero none 0 (List.replicate 32 0) false)) W := (zero_of_info (n := 70) (by kernel_rfl)).1
theorem sizedR (s : Src) (hl : s.seed.length = 32) (A : Option Addr) (c : Nat) (b : List Int) (hb : b.length = 32) (h : Bool) : (Tryd.prog.info? 50).map (·.size) = some (rdV s A c b h).size := by rw [rdV_size s hl A c b hb]; exact size_rdg
theorem run_build_rd (v0 v1 v2 v3 v4 v5 v6 v7 v8 v9 v10 v11 v12 v13 v14 v15 v16 v17 v18 v19 v20 v21 v22 v23 v24 v25 v26 v27 v28 v29 v30 v31 v32 v33 v34 v35 v36 : Value) (w : World) : (Instr.build 50 #[(0, .agg #[v0, v1, v2, v3, v4, v5, v6, v7, v8, v9, v10, v11, v12, v13, v14, v15, v16, v17, v18, v19, v20, v21, v22, v23, v24, v25, v26, v27, v28, v29, v30, v31, v32, v33, v34, v35, v36])]).run Tryd.prog w = .ok (.agg #[v0, v1, v2, v3, v4, v5, v6, v7, v8, v9, v10, v11, v12, v13, v14, v15, v16, v17, v18, v19, v20, v21, v22, v23, v24, v25, v26, v27, v28, v29, v30, v31, v32, v33, v34, v35, v36, .int .u8 0, .int .u8 0, .int .u8 0, .int .u8 0, .int .u8 0, .int .u8 0, .int .u8 0, .int .u8 0, .int .u8 0, .int .u8 0, .int .u8 0, .int .u8 0, .int .u8 0, .int .u8 0, .int .u8 0, .int .u8 0, .int .u8 0, .int .u8 0, .int .u8 0, .int .u8 0, .int .u8 0, .int .u8 0, .int .u8 0, .int .u8 0, .int .u8 0, .int .u8 0, .int .u8 0, .int .u8 0, .int .u8 0, .int .u8 0, .int .u8 0, .int .u8 0, .bool false]) w :=
  run_build w _ _ _ (by kernel_rfl)
theorem build_rd {a : Act} {o : Oper} {x : Operand} (w : World) (s : Src) (hl : s.seed.length = 32) (A : Option Addr) (c : Nat) (ho : o.op = .build 50 #[(0, x)]) (hx : a.eval x = .agg (srcV s A c)) :
    (execOp a.eval o).run Tryd.prog w = .ok (.value (.agg (rdV s A c (List.replicate 32 0) false))) w := by
  have hL := list32 s.seed hl
  unfold execOp
  simp only [ho, List.map_toArray, List.map_cons, List.map_nil, hx]
  change ((Instr.build 50 #[(0, .agg (srcV s A c))]) >>= fun v => pure (Next.value v)).run Tryd.prog w = _
  have h : (Instr.build 50 #[(0, .agg (srcV s A c))]).run Tryd.prog w = .ok (.agg (rdV s A c (List.replicate 32 0) false)) w := by
    unfold srcV rdV
    rw [hL]
    exact run_build_rd _ _ _ _ _ _ _ _ _ _ _ _ _ _ _ _ _ _ _ _ _ _ _ _ _ _ _ _ _ _ _ _ _ _ _ _ _ w
  simp only [Sem.run_bind, h, Result.andThen_ok, Sem.run_pure]
section
variable {P : Program} {w w' : World} {ops : Array Oper} {rest : List Oper} {o : Oper} {a : Act} {Q : Exit → Act → World → Prop}
/-- A part of a block, from a cell on, is stored, where it comes up. -/
theorem step_store_off {K : Act → World → Prop} {E : Prop} (d : Option Tmp) (hd : o.dst = d) (hw : Region.wanted o (yielded ops a.tmps) = true) (ty : TypeId) (x y : Operand) (ho : o.op = .store ty x y) (g off : Nat) (hx : a.eval x = .pointer (some ⟨g, off, none⟩)) (t : TypeId) (cs ys : Array Value) (hb : Blk w g t cs)
    (hy : a.eval y = .agg ys) (hl : off + ys.size ≤ cs.size) (hz : (P.info? ty).map (·.size) = some ys.size) (h1 : ys.all (·.oneCell') = true)
    (h : ∀ w', Hid (Blk w' g t (putAll cs off ys.toList)) → Only g w w' → K (a.put d undef) w') :
    if Region.wanted o (yielded ops a.tmps) = true then Oper.wp P o a w K Q else E := by
  subst hd
  rw [if_pos hw]
  exact wp_store_mid ty x y ho g off ys hx hy (hb.there off ys.size hl) hz h1 (h _ (Blk.setCells _ _ hb) (Only.setCells g _ _ _))
end
section
variable {P : Program} {ops : Array Oper} {Q : Exit → Act → World → Prop} {md : Region.Mode} {S : World → Prop} {fuel : Nat} {listed : Array Bool} {a : Act} {w : World}
/-- A row is loaded, wherever it lies: taken first. -/
theorem held_load_arr {oi : Oper} (i : Nat) (d : Option Tmp) (hi : ops[i]? = some oi) (hd : oi.dst = d) (hs : Region.noSelect ops = true) (hf : Region.free md ops listed i = true) (hr : (Region.ready md ops listed).contains i = true)
    (hQ2 : ∀ c a v w, Q (.panic c) (a.put oi.dst v) w → Q (.panic c) a w) (hw : Region.wanted oi (yielded ops a.tmps) = true)
    (ty : TypeId) (x : Operand) (ho : oi.op = .load ty x) (g off : Nat) (hx : a.eval x = .pointer (some ⟨g, off, none⟩)) (cs : Array Value) (hS : ∀ w, S w → w.rangeAt g off cs.toList)
    (ds : TypeDesc) (hu : P.underlying ty = some ds) (hdr : ds.isRow = true) (hz : (P.info? ty).map (·.size) = some cs.size) (hSw : S w)
    (h : wpAnyH P md ops Q S fuel (listed.setIfInBounds i true) (a.put d (.agg cs)) w) : wpAnyH P md ops Q S (fuel + 1) listed a w :=
  held_load_at i d hi hd hs hf hr hQ2 hw ty x ho g off hx cs.toList hS ds hu hdr (by rw [Array.length_toList]; exact hz) hSw h
end
/-! ### the block that was hashed last -/
/-- Ahead of a byte: if a block was hashed, and the next bit isn't the first one of a block, it is the block of that bit. -/
def BkA (s : Src) (b : List Int) (h : Bool) : Prop := b.length = 32 ∧ (∀ z ∈ b, 0 ≤ z ∧ z < 256) ∧ (s.kind = 2 → h = true → s.at_ % 256 ≠ 0 → b = blkL s.seed s.dom (s.at_ / 256))
/-- Behind a byte: it is the block of that bit. -/
def BkB (s : Src) (b : List Int) : Prop := b.length = 32 ∧ (∀ z ∈ b, 0 ≤ z ∧ z < 256) ∧ (s.kind = 2 → b = blkL s.seed s.dom (s.at_ / 256))
theorem BkA.zero (s : Src) : BkA s (List.replicate 32 0) false := ⟨by simp, fun z hz => by rw [List.eq_of_mem_replicate hz]; omega, fun _ h => by cases h⟩
theorem BkB.next {s : Src} {b : List Int} {h : Bool} (hb : BkB s b) : BkA (s.to (s.at_ + 1)) b h := by
  refine ⟨hb.1, hb.2.1, fun hk _ hn => ?_⟩
  have h1 := hb.2.2 hk
  change (s.at_ + 1) % 256 ≠ 0 at hn
  rw [h1]
  show blkL s.seed s.dom (s.at_ / 256) = blkL s.seed s.dom ((s.at_ + 1) / 256)
  rw [show (s.at_ + 1) / 256 = s.at_ / 256 by omega]
/-- The byte that has the next bit. -/
def octS (s : Src) : Int := if s.kind = 2 then (blkL s.seed s.dom (s.at_ / 256)).getD (s.at_ % 256 / 8).toNat 0 else s.tape.getD (s.at_ / 8).toNat 0
theorem bitS_oct (s : Src) : bitS s s.at_ = octS s / 2 ^ (7 - s.at_ % 8).toNat % 2 := by
  unfold bitS octS bitN bytN
  split <;> rfl
/-- What octet hands back, and leaves. -/
def RetOct (w : World) (g : Nat) (s : Src) (A : Option Addr) (c : Nat) (e : Ending) (w' : World) : Prop := ∃ b h, e = .returned (.int .u8 (octS s)) ∧ Blk w' g 50 (rdV s A c b h) ∧ BkB s b ∧ Only g w w'
def RetNum (w : World) (g : Nat) (n : Int) (s : Src) (A : Option Addr) (c : Nat) (e : Ending) (w' : World) : Prop := ∃ b h, e = .returned (.int .u64 n) ∧ Blk w' g 50 (rdV s A c b h) ∧ BkA s b h ∧ Only g w w'
/-- A source that is read lies at g, whatever block was hashed last. -/
def RdS (g : Nat) (s : Src) (A : Option Addr) (c : Nat) (w : World) : Prop := ∃ b h, Blk w g 50 (rdV s A c b h) ∧ b.length = 32
section
variable {g : Nat} {s : Src} {A : Option Addr} {c : Nat} {w w' : World}
theorem RdS.kind (h : RdS g s A c w) : w.cell? ⟨g, 0, none⟩ = some (.int .i64 s.kind) := by obtain ⟨b, hh, hk, _⟩ := h; rw [hk.cell]; exact rdV_kind _ _ _ _ _
theorem RdS.tape (h : RdS g s A c w) : w.cell? ⟨g, 1, none⟩ = some (.slice A s.tape.length c) := by obtain ⟨b, hh, hk, _⟩ := h; rw [hk.cell]; exact rdV_tape _ _ _ _ _
theorem RdS.dom (h : RdS g s A c w) (hl : s.seed.length = 32) : w.cell? ⟨g, 35, none⟩ = some (.int .u64 s.dom) := by obtain ⟨b, hh, hk, _⟩ := h; rw [hk.cell]; exact rdV_dom _ hl _ _ _ _
theorem RdS.at_ (h : RdS g s A c w) (hl : s.seed.length = 32) : w.cell? ⟨g, 36, none⟩ = some (.int .u64 s.at_) := by obtain ⟨b, hh, hk, _⟩ := h; rw [hk.cell]; exact rdV_at _ hl _ _ _ _
theorem RdS.seed (h : RdS g s A c w) : w.rangeAt g 3 (s.seed.map (Value.int .u8)) := by obtain ⟨b, hh, hk, _⟩ := h; exact rdV_seed hk
theorem RdS.below (h : RdS g s A c w) (hb : Below w.heap.size w w') : RdS g s A c w' := by obtain ⟨b, hh, hk, hl⟩ := h; exact ⟨b, hh, hk.below hb hk.lt, hl⟩
theorem RdS.drew (h : RdS g s A c w) : RdS g s A c w.drew := h.below (Below.refl _ _).drew
end
end Go.Proofs.YtmeefnhmkffdlaaDoor
/-
  What the program's sha.joined returns, and that it leaves memory as it was.
  Conditions: the arguments lie in their types' ranges.
-/
set_option maxRecDepth 100000
set_option linter.unusedSimpArgs false
namespace Go.Proofs.YtmeefnhmkffdlaaDoor
open Go.ChangeShapes Go.WideShapes Go.ChangeAt Go.RowKit
set_option linter.unusedVariables false
theorem size_u8h : (Tryd.prog.info? 5).map (·.size) = some 1 := by kernel_rfl
theorem hashF_splice (l : List Int) (i : Nat) (h : i < 8) : splice (hashF l i 0) (4 * i) (put4L (l.getD i 0)) = hashF l (i + 1) 0 := by
  rw [← hashF_next]
  have e1 := backTo_len l i
  unfold splice hashF
  rw [List.take_append_of_le_length (by omega), List.take_of_length_le (by omega), List.drop_append, List.drop_eq_nil_of_le (by omega), List.nil_append, e1]
  simp [put4L]
  omega
theorem index_st8 (zs : List Int) (hl : zs.length = 8) (j : Nat) (hj : j < 8) (w : World) : (Instr.index 70 (.agg (intsA .u32 zs)) (.int .i64 j)).run Tryd.prog w = .ok (.int .u32 (zs.getD j 0)) w := by
  obtain ⟨i0, hi, _, hs, _⟩ := info_parts info_u32c
  refine run_index_arr Tryd.underlying70 Tryd.underlying45 hi hs _ _ _ _ (by omega) (by omega) ?_ w
  rw [Int.toNat_natCast]
  exact intsA_at _ _ _ (by omega)

set_option maxHeartbeats 1000000 in
theorem qjoined_c (l : List Int) (hl : l.length = 8) (hb : ∀ z ∈ l, 0 ≤ z ∧ z < 4294967296) (w : World) :
    Calls Tryd.prog 57 #[.agg (intsA .u32 l)] w fun e w' => e = .returned (.agg (intsA .u8 (hashL l))) ∧ Below w.heap.size w w' := by
  have HSW := Lib.hid (show (Tryd.prog.info? 70).map (·.size) = some l.length by rw [hl]; exact size_state)
  go_enter Tryd.func57, Tryd.ntmps57
  go_wp2_with (first
    | (with_reducible refine at_any ?_; refine at_dst 1 rfl ?_; refine wpList_box_ints rfl 70 (.tmp 0) rfl .u32 l rfl ?_; intro w1 hk1 hs1 hb1)
    | (with_reducible refine at_any ?_; refine at_dst 2 rfl ?_; refine wpList_alloc_ints rfl 25 rfl .u8 (List.replicate 32 0) zero_hash ?_; intro w2 hk2 hs2 hb2)
    | (with_reducible refine at_any ?_; refine at_dst 3 rfl ?_; refine wpList_alloc_ints rfl 25 rfl .u8 (List.replicate 32 0) zero_hash ?_; intro w3 hk3 hs3 hb3)
    | (with_reducible refine at_any ?_; refine at_dst 7 rfl ?_; refine wpList_load_ints rfl 70 (.tmp 1) rfl w.heap.size rfl 70 .u32 l ((hk1.out.below hb2 (by have := hs1.out; omega)).below hb3 (by have := hs1.out; have := hs2.out; omega)) _ Tryd.underlying70 rfl HSW.out ?_))
  have HI : In3 w w.heap.size w1.heap.size w2.heap.size 70 25 25 .u32 .u8 .u8 l (List.replicate 32 0) (hashF l 0 0) w3 := by
    rw [hashF_zero]
    have q1 := hs1.out
    have q2 := hs2.out
    have q3 := hs3.out
    exact ⟨(hk1.out.below hb2 (by omega)).below hb3 (by omega), hk2.out.below hb3 (by omega), hk3.out, hb1.trans ((hb2.mono (by omega)).trans (hb3.mono (by omega))), by omega, by omega, by omega⟩
  have HG : w.heap.size < w2.heap.size ∧ w1.heap.size < w2.heap.size := by have q1 := hs1.out; have q2 := hs2.out; omega
  obtain ⟨g1, hg1⟩ : ∃ g, w.heap.size = g := ⟨_, rfl⟩
  obtain ⟨g2, hg2⟩ : ∃ g, w1.heap.size = g := ⟨_, rfl⟩
  obtain ⟨g3, hg3⟩ : ∃ g, w2.heap.size = g := ⟨_, rfl⟩
  have HG2 := Lib.hid (show w.heap.size ≤ g2 by have := hb1.size; omega)
  rw [hg1, hg2, hg3] at HI HG
  rw [hg1, hg2, hg3]
  have HGH := Lib.hid HG
  clear hk1 hs1 hb1 hk2 hs2 hb2 hk3 hs3 hb3 HG
  go_loopw [8] (fun v wr => ∃ i : Nat, i ≤ 8 ∧ v = .int .i64 i ∧ In3 w g1 g2 g3 70 25 25 .u32 .u8 .u8 l (List.replicate 32 0) (hashF l i 0) wr) (fun v _ => 8 - (intOf v).toNat)
  case atStart => exact ⟨0, by omega, rfl, HI⟩
  case round =>
    clear HI
    obtain ⟨i, hi, rfl, HI⟩ := hrel
    by_cases hlt : i < 8
    · have hix := fun W => index_st8 l hl i hlt W
      have rx : 0 ≤ l.getD i 0 ∧ l.getD i 0 < 4294967296 := by
        have h : i < l.length := by omega
        simp [h]; exact hb _ (List.getElem_mem h)
      have hsp := hashF_splice l i hlt
      have hfl := hashF_len l i 0 (by omega) (by omega)
      obtain ⟨x, hx⟩ : ∃ x, l.getD i 0 = x := ⟨_, rfl⟩
      rw [hx] at hix rx hsp
      obtain ⟨p0, p1, p2, p3, hps⟩ : ∃ p0 p1 p2 p3, put4L x = [p0, p1, p2, p3] := ⟨_, _, _, _, rfl⟩
      have hput := fun W => put32_c x rx.1 rx.2 W
      have hp4 : put4 x = ((put4L x).map (Value.int .u8)).toArray := rfl
      rw [hp4, hps] at hput
      rw [hps] at hsp
      have HP := Lib.hid hput
      have HSP := Lib.hid hsp
      have HFL := Lib.hid hfl
      have HI' := Lib.hid HI
      obtain ⟨m, hm⟩ : ∃ m, 4 * i = m := ⟨_, rfl⟩
      have e0 : IntKind.i64.wrap (4 * (i : Int)) = (m : Int) := by rw [IntWalk.i64_in _ (by omega)]; omega
      have q0 : (0 : Int) ≤ (m : Int) := by omega
      have q1 : (m : Int) ≤ 32 := by omega
      have q2 : ¬ 32 = m := by omega
      have q3 : m + 4 ≤ 32 := by omega
      have i0 : (0 : Int) ≤ (i : Int) := by omega
      have i1 : (i : Int) < 8 := by omega
      rw [hm] at HSP
      clear hput hp4 hps hsp hfl hx HI hm
      go_wp2_with (go_at_call 63; (with_reducible refine (HP.out _).mono ?_); rintro e w4 ⟨rfl, hb4, _⟩)
      have HB5 := Lib.hid (BlkI.new w4 84 .u8 [p0, p1, p2, p3])
      have HI5 := Lib.hid ((HI'.out.below hb4).below ((Below.refl _ _).alloc (Nat.le_refl _) (Obj.cells (intsA .u8 [p0, p1, p2, p3]) 84)))
      obtain ⟨W5, hW5⟩ : ∃ W5, w4.alloc (Obj.cells #[.int .u8 p0, .int .u8 p1, .int .u8 p2, .int .u8 p3] 84) = W5 := ⟨_, rfl⟩
      have hW5' : w4.alloc (Obj.cells (intsA .u8 [p0, p1, p2, p3]) 84) = W5 := hW5
      rw [hW5'] at HB5 HI5
      rw [hW5]
      obtain ⟨g5, hg5⟩ : ∃ g, w4.heap.size = g := ⟨_, rfl⟩
      rw [hg5] at HB5 ⊢
      clear hW5 hW5' hg5 hb4 HI' rx HP hix
      go_region_law (refine step_dst 18 rfl ?_; refine step_copy_ints rfl (.tmp 16) (.tmp 17) 22 22 rfl 5 Tryd.underlying22 size_u8h (some ⟨g3, m, none⟩) (some ⟨g5, 0, none⟩) (32 - m) (32 - m) 4 4 (by kernel_rfl) (by kernel_rfl) g3 m .u8 _ 25 HI5.out.trd.drew 4 (by omega) _ [p0, p1, p2, p3] HB5.out.rd.drew (fun _ => rfl) (by rw [HFL.out]; omega) g3 W5.drew (Below.refl _ _) (Nat.le_refl _) ?_; intro w6 HK6 hb6)
      all_goals
        go_wp2
        go_roundw
        case rel =>
          have hk := HK6.out
          rw [HSP.out] at hk
          obtain ⟨h1, h2, h3, h4, h5, h6, h7⟩ := HI5.out
          exact ⟨i + 1, by omega, by go_num, h1.drew.below hb6 HGH.out.1, h2.drew.below hb6 HGH.out.2, hk, h4.trans (below_of_drew (hb6.mono h5)), h5, h6, h7⟩
        case measure => simp [intOf]; omega
    · rw [show ((i : Nat) : Int) = 8 by omega]
      obtain rfl : i = 8 := by omega
      rw [hashF_full] at HI
      obtain ⟨h1, h2, h3, h4, h5, h6, h7⟩ := HI
      have hpl : (hashL l).length = 32 := backTo_len l 8
      have HPL := Lib.hid hpl
      have H3 := Lib.hid h3
      have H2 := Lib.hid h2
      have hg2 : w.heap.size ≤ g2 := HG2.out
      clear hpl h1 h2 h3
      go_wp2_with (first
        | (with_reducible refine at_any ?_; refine at_dst 20 rfl ?_; refine wpList_load_ints rfl 25 (.tmp 3) rfl g3 rfl 25 .u8 (hashL l) H3.out _ Tryd.underlying25 rfl (by rw [HPL.out]; exact size_hash) ?_)
        | (with_reducible refine at_any ?_; refine at_store 2 rfl ?_; refine wpList_store_ints rfl 25 (.tmp 2) (.tmp 20) rfl g2 rfl 25 .u8 (List.replicate 32 0) (hashL l) H2.out rfl (by rw [HPL.out]; simp) (by rw [HPL.out]; exact size_hash) ?_; intro w9 hk9 hs9 hb9 ho9)
        | (refine bodyPost_cell 2 25 rfl g2 rfl 25 .u8 (hashL l) hk9.out _ Tryd.underlying25 rfl (by rw [HPL.out]; exact size_hash) rfl ?_))
      rw [← hg1]
      exact h4.trans (hb9 _ hg2)
end Go.Proofs.YtmeefnhmkffdlaaDoor
/-
  What the program's sha.begin returns, and that it leaves memory as it was.
  Conditions: the arguments lie in their types' ranges; the rest is short.
-/
set_option maxRecDepth 100000
set_option linter.unusedSimpArgs false
namespace Go.Proofs.YtmeefnhmkffdlaaDoor
open Go.ChangeShapes Go.WideShapes Go.ChangeAt Go.RowKit
set_option linter.unusedVariables false
theorem run_build_wg (s0 s1 s2 s3 s4 s5 s6 s7 : Int) (A : Option Addr) (r c : Nat) (n : Int) (w : World) :
    (Instr.build 88 #[(0, .agg #[.int .u32 s0, .int .u32 s1, .int .u32 s2, .int .u32 s3, .int .u32 s4, .int .u32 s5, .int .u32 s6, .int .u32 s7, .slice A r c, .int .u64 n])]).run Tryd.prog w = .ok (.agg #[.int .u32 s0, .int .u32 s1, .int .u32 s2, .int .u32 s3, .int .u32 s4, .int .u32 s5, .int .u32 s6, .int .u32 s7, .slice A r c, .int .u64 n]) w := by
  go_simp
theorem build_wg {a : Act} {o : Oper} {x : Operand} (w : World) (s : List Int) (hl : s.length = 8) (A : Option Addr) (r c : Nat) (n : Int) (ho : o.op = .build 88 #[(0, x)]) (hx : a.eval x = .agg (wrV s A r c n)) :
    (execOp a.eval o).run Tryd.prog w = .ok (.value (.agg (wrV s A r c n))) w := by
  obtain ⟨s0, s1, s2, s3, s4, s5, s6, s7, rfl⟩ : ∃ a b d e f p q u, s = [a, b, d, e, f, p, q, u] := ⟨_, _, _, _, _, _, _, _, list8 s hl⟩
  have h := run_build_wg s0 s1 s2 s3 s4 s5 s6 s7 A r c n w
  unfold execOp
  simp only [ho, List.map_toArray, List.map_cons, List.map_nil, hx]
  change ((Instr.build 88 #[(0, .agg #[.int .u32 s0, .int .u32 s1, .int .u32 s2, .int .u32 s3, .int .u32 s4, .int .u32 s5, .int .u32 s6, .int .u32 s7, .slice A r c, .int .u64 n])]) >>= fun v => pure (Next.value v)).run Tryd.prog w = _
  simp only [Sem.run_bind, h, Result.andThen_ok, Sem.run_pure]
  rfl
theorem size_sl : (Tryd.prog.info? 22).map (·.size) = some 1 := by kernel_rfl
/-- A pointer to a writer that writes is handed back. -/
def RetP (w : World) (s r : List Int) (n : Int) (e : Ending) (w' : World) : Prop := ∃ g A c, e = .returned (.pointer (some ⟨g, 0, none⟩)) ∧ Wrt w g A c s r n w'
set_option maxHeartbeats 1000000 in
theorem qbegin_c (s rest : List Int) (hl : s.length = 8) (A : Option Addr) (r c : Nat) (n : Int) (hr : r ≤ 64) (hrc : r ≤ c) (w : World) (hrd : Rd .u8 w w.heap.size A r rest) :
    Calls Tryd.prog 45 #[.agg (wrV s A r c n)] w (RetP w s rest n) := by
  obtain ⟨i0, hi, hz0, hz1, hzb⟩ := info_parts info_u8'
  have hmk : ∀ W, (Instr.makeSlice 22 (.int .i64 (r : Int)) (.int .i64 64)).run Tryd.prog W = .ok (.slice (some ⟨W.heap.size, 0, none⟩) r 64) (W.alloc (.cells (intsA .u8 (List.replicate 64 0)) 5)) := fun W => run_make_cap (P := Tryd.prog) 22 5 i0 .u8 Tryd.underlying22 hi hz0 hz1 hzb r 64 hr (by omega) W
  obtain ⟨L, hL⟩ : ∃ L : List Int, List.replicate 64 0 = L := ⟨_, rfl⟩
  have HLL := Lib.hid (show L.length = 64 by rw [← hL]; simp)
  rw [hL] at hmk
  have HC8 := Lib.hid (wrV_rest s hl A r c n)
  have HV8 := Lib.hid (fun A' => wrV_set8 s hl A A' r c r 64 n)
  have SV := Lib.hid (wrV_size s hl A r c n)
  have SW := Lib.hid (fun A' => sizedW s hl A' r 64 n)
  have HBG := Lib.hid (fun (a : Act) (o : Oper) (x : Operand) W A' => build_wg (a := a) (o := o) (x := x) W s hl A' r 64 n)
  have HRD := Lib.hid hrd
  have HLR := Lib.hid hrd.len
  obtain ⟨V, hV⟩ : ∃ V, wrV s A r c n = V := ⟨_, rfl⟩
  rw [hV] at HC8 HV8 SV ⊢
  clear hL hV hrd hi hz0 hz1 hzb
  go_enter Tryd.func45, Tryd.ntmps45
  go_wp2_with (first
    | (with_reducible refine at_any ?_; refine at_dst 1 rfl ?_; refine wpList_box_any rfl 77 (.tmp 0) rfl V rfl ?_; intro w1 hk1 hs1 hb1; have c8 := hk1.out.cell 8; rw [HC8.out] at c8; have d8 := (hk1.out.alloc (.cells (intsA .u8 L) 5)).cell 8; rw [HC8.out] at d8)
    | (with_reducible refine at_any ?_; refine at_dst 11 rfl ?_; refine wpList_copy_ints rfl (.tmp 8) (.tmp 10) 22 22 rfl 5 Tryd.underlying22 size_u8h _ _ _ _ _ _ rfl rfl w1.heap.size 0 .u8 L 5 (BlkI.new _ _ _ _) r (by omega) w.heap.size rest ((HRD.out.below hb1).alloc hb1.size _) (fun _ => rfl) (by rw [HLL.out]; omega) w1.heap.size w1 ((Below.refl _ _).alloc (Nat.le_refl _) _) (Nat.le_refl _) ?_; intro w7 HK7 hb7; have hk7 := Lib.hid (hk1.out.below hb7 hk1.out.lt); have bl7 := Lib.hid (hb1.trans (hb7.mono hb1.size)))
    | (with_reducible refine at_any ?_; refine at_store 13 rfl ?_; refine wpList_store_cell rfl 22 (.tmp 13) (.tmp 12) rfl w.heap.size 8 rfl 77 V hk7.out (.slice (some ⟨w1.heap.size, 0, none⟩) r 64) rfl (by rw [SV.out]; omega) size_sl rfl rfl ?_; intro w8 hk8 ho8; rw [HV8.out] at hk8)
    | (with_reducible refine at_any ?_; refine at_dst 14 rfl ?_; refine wpList_load_blk rfl 77 (.tmp 1) rfl w.heap.size rfl 77 (wrV s (some ⟨w1.heap.size, 0, none⟩) r 64 n) hk8.out _ Tryd.underlying77 rfl (SW.out _) ?_)
    | (with_reducible refine at_any ?_; refine at_dst 15 rfl ?_; refine wpList_val rfl (.agg (wrV s (some ⟨w1.heap.size, 0, none⟩) r 64 n)) (HBG.out _ _ _ _ _ rfl rfl) ?_)
    | (with_reducible refine at_any ?_; refine at_dst 16 rfl ?_; refine wpList_box_any rfl 88 (.tmp 15) rfl (wrV s (some ⟨w1.heap.size, 0, none⟩) r 64 n) rfl ?_; intro w9 hk9 hs9 hb9))
  go_ret
  have h1 : w.heap.size < w1.heap.size := by have := hs1.out; omega
  have hk8b : BlkI w8 w1.heap.size 5 .u8 (splice L 0 rest) := Blk.only HK7.out ho8 (by omega)
  have hk9b := hk8b.below hb9 hk8b.lt
  have bl8 : Below w.heap.size w w8 := bl7.out.trans (ho8.below (Nat.le_refl _) bl7.out.size)
  have hsl : (splice L 0 rest).length = 64 := by rw [length_splice _ _ _ (by rw [HLL.out, HLR.out]; omega), HLL.out]
  have hst : (splice L 0 rest).take rest.length = rest := by unfold splice; simp
  have hO : OwnI w9 w.heap.size 5 .u8 (.slice (some ⟨w1.heap.size, 0, none⟩) rest.length 64) rest := OwnI.of_blk hk9b (by omega) (by rw [HLR.out]; exact hr) (by simp [maxLen]) hsl hst
  refine ⟨w8.heap.size, some ⟨w1.heap.size, 0, none⟩, 64, rfl, ?_, hO, bl8.trans (hb9.mono bl8.size), bl8.size⟩
  rw [HLR.out]
  exact hk9.out
end Go.Proofs.YtmeefnhmkffdlaaDoor
/-
  How the answers of package pad are said: what is handed back, as it reads.
  Conditions: those that each theorem names.
-/
set_option maxRecDepth 100000
namespace Go.Proofs.YtmeefnhmkffdlaaDoor
open Go.ChangeShapes Go.WideShapes Go.ChangeAt Go.RowKit
set_option linter.unusedVariables false
def RetTailR (w : World) (zs : List Int) (e : Ending) (w' : World) : Prop := ∃ A c, e = .returned (.tuple #[.slice A zs.length c, .bool true]) ∧ Rd .u8 w' w'.heap.size A zs.length zs ∧ zs.length ≤ c ∧ Below w.heap.size w w'
def RetNo (w : World) (e : Ending) (w' : World) : Prop := ∃ A c, e = .returned (.tuple #[.slice A 0 c, .bool false]) ∧ Below w.heap.size w w'
def RetR (w : World) (zs : List Int) (e : Ending) (w' : World) : Prop := ∃ A c, e = .returned (.slice A zs.length c) ∧ Rd .u8 w' w'.heap.size A zs.length zs ∧ zs.length ≤ c ∧ Below w.heap.size w w'
def RetCutR (w : World) (zs : List Int) (q L : Nat) (bs : List (List Int)) (e : Ending) (w' : World) : Prop :=
  ∃ A1 c1 A2 c2, e = .returned (.tuple #[.slice A1 bs.length c1, .slice A2 (L - 64 * q) c2]) ∧ RdA .u8 64 w' w'.heap.size A1 bs.length bs ∧ Rd .u8 w' w'.heap.size A2 (L - 64 * q) (zs.drop (64 * q)) ∧ L - 64 * q ≤ c2 ∧ Below w.heap.size w w'
end Go.Proofs.YtmeefnhmkffdlaaDoor
/-
  What the program's package pad returns, and that it leaves memory as it was.
  Conditions: the arguments lie in their types' ranges; a message's length is small.
-/
set_option maxRecDepth 100000
namespace Go.Proofs.YtmeefnhmkffdlaaDoor
open Go.ChangeShapes Go.WideShapes Go.ChangeAt Go.RowKit
set_option linter.unusedVariables false

theorem tail_cells (rest ps : List Int) (r z M : Nat) (hr : rest.length = r) (hp : ps.length = 8) (hM : r + 1 + z + 8 = M) :
    splice ((splice (List.replicate M 0) 0 rest).set r 128) (M - 8) ps = rest ++ 128 :: List.replicate z 0 ++ ps := by
  subst hr
  have e1 : splice (List.replicate M (0 : Int)) 0 rest = rest ++ 0 :: List.replicate (z + 8) 0 := by
    rw [← List.replicate_succ]
    simp [splice]; omega
  rw [e1, List.set_append_right _ _ (Nat.le_refl _), Nat.sub_self, List.set_cons_zero]
  have e2 : List.replicate (z + 8) (0 : Int) = List.replicate z 0 ++ List.replicate 8 0 := by rw [List.replicate_append_replicate]
  rw [e2, ← List.cons_append, ← List.append_assoc]
  unfold splice
  rw [List.take_append_of_le_length (by simp; omega), List.take_of_length_le (by simp; omega), List.drop_eq_nil_of_le (by simp; omega), List.append_nil]

def blocksN (n : Int) : Int := if 2305843009213693952 ≤ n then 0 else (n + 72) / 64
theorem size_u8 : (Tryd.prog.info? 5).map (·.size) = some 1 := by kernel_rfl

theorem pblocks_c (n : Int) (n0 : 0 ≤ n) (n1 : n < 18446744073709551616) (w : World) :
    Calls Tryd.prog 61 #[.int .u64 n] w fun e w' => e = .returned (.int .u64 (blocksN n)) ∧ w = w' := by
  unfold blocksN
  by_cases h : 2305843009213693952 ≤ n
  · rw [if_pos h]
    go_enter Tryd.func61, Tryd.ntmps61
    go_wp2
    go_ret
    exact ⟨rfl, rfl⟩
  · rw [if_neg h]
    have H := Lib.hid (show (n + 72) / 64 = (n + 8) / 64 + 1 by omega)
    go_enter Tryd.func61, Tryd.ntmps61
    go_wp2
    go_ret
    exact ⟨ret_int H.out.symm, rfl⟩

theorem ptail_no (A : Option Addr) (c r : Nat) (n : Int) (w : World) (hm : r ≤ 1000000) (n0 : 0 ≤ n) (n1 : n < 18446744073709551616) (hn : 2305843009213693952 ≤ n ∨ (r : Int) ≠ n % 64) :
    Calls Tryd.prog 54 #[.slice A r c, .int .u64 n] w (RetNo w) := by
  by_cases h : 2305843009213693952 ≤ n
  · have t : decide (2305843009213693952 ≤ n) = true := by simpa using h
    go_enter Tryd.func54, Tryd.ntmps54
    go_wp2
    go_ret2
    exact ⟨_, _, rfl, Below.refl _ _⟩
  · have h3 : (r : Int) ≠ n % 64 := by rcases hn with h1 | h1; exact absurd h1 h; exact h1
    have t1 : ((r : Int) != n % 64) = true := by rw [bne_iff_ne]; exact h3
    clear hn h3
    go_enter Tryd.func54, Tryd.ntmps54
    go_wp2
    go_ret2
    exact ⟨_, _, rfl, Below.refl _ _⟩

set_option maxHeartbeats 1000000 in
theorem ptail_a (A : Option Addr) (c r : Nat) (rest : List Int) (n : Int) (w : World) (hr : Rd .u8 w w.heap.size A r rest) (hc : r ≤ c) (n0 : 0 ≤ n) (n1 : n < 2305843009213693952) (hn : (r : Int) = n % 64) (hrz : r ≤ 55) :
    Calls Tryd.prog 54 #[.slice A r c, .int .u64 n] w (RetTailR w (tailL rest n)) := by
  obtain ⟨ps, hps⟩ : ∃ ps, put8L (8 * n) = ps := ⟨_, rfl⟩
  obtain ⟨p0, p1, p2, p3, p4, p5, p6, p7, rfl⟩ : ∃ p0 p1 p2 p3 p4 p5 p6 p7, ps = [p0, p1, p2, p3, p4, p5, p6, p7] := ⟨_, _, _, _, _, _, _, _, hps.symm⟩
  have hput := fun W => put64_c (n * 8) (by omega) (by omega) W
  rw [put8_list, show put8L (n * 8) = put8L (8 * n) by rw [Int.mul_comm], hps] at hput
  have htl : tailL rest n = rest ++ 128 :: List.replicate (zer r) 0 ++ [p0, p1, p2, p3, p4, p5, p6, p7] := by unfold tailL; rw [hr.len, hps]
  rw [htl]
  have HP := Lib.hid hput
  have hps8 : [p0, p1, p2, p3, p4, p5, p6, p7].length = 8 := rfl
  clear hput hps htl
  obtain ⟨ps, hps⟩ : ∃ ps, [p0, p1, p2, p3, p4, p5, p6, p7] = ps := ⟨_, rfl⟩
  rw [hps] at hps8 ⊢
  have HPS := Lib.hid hps
  have HP8 := Lib.hid hps8
  clear hps hps8
  obtain ⟨i0, hi, hz0, hz1, hzb⟩ := info_parts info_u8'
  have r1 : r < 64 := by omega
  have t1 : ((r : Int) != n % 64) = false := by rw [hn]; simp
  have hl := Lib.hid hr.len
  have hq : blocksN (n % 64) = if r ≤ 55 then 1 else 2 := by
    unfold blocksN
    rw [if_neg (by omega)]
    split <;> omega
  rw [if_pos hrz] at hq
  obtain ⟨zs, hzs⟩ : ∃ zs : List Int, List.replicate 64 0 = zs := ⟨_, rfl⟩
  have hmk : ∀ W, (Instr.makeSlice 22 (.int .u64 64) (.int .u64 64)).run Tryd.prog W = .ok (.slice (some ⟨W.heap.size, 0, none⟩) 64 64) (W.alloc (.cells (intsA .u8 (List.replicate 64 0)) 5)) := fun W => run_make_ints (P := Tryd.prog) 22 5 i0 .u8 Tryd.underlying22 hi hz0 hz1 .u64 .u64 64 (by rw [hzb]; decide) (by decide) W
  have hcells := tail_cells rest ps r (zer r) 64 hr.len HP8.out (by unfold zer; rw [if_pos hrz]; omega)
  have hlen : (rest ++ 128 :: List.replicate (zer r) 0 ++ ps).length = 64 := by
    rw [← hcells, length_splice, List.length_set, length_splice] <;> simp [hr.len, HP8.out, splice] <;> omega
  rw [hzs] at hmk hcells
  have hzl : zs.length = 64 := by rw [← hzs]; simp
  have HSL := Lib.hid (show (splice zs 0 rest).length = 64 by rw [length_splice _ _ _ (by rw [hzl, hr.len]; omega), hzl])
  have HZL := Lib.hid hzl
  have HQ := Lib.hid hq
  have HC := Lib.hid hcells
  have HLN := Lib.hid hlen
  have HR := Lib.hid hr
  clear hn hq hzl hzs hcells hlen hr
  obtain ⟨T, hT⟩ : ∃ T, rest ++ 128 :: List.replicate (zer r) 0 ++ ps = T := ⟨_, rfl⟩
  rw [hT] at HC HLN ⊢
  clear hT
  go_enter Tryd.func54, Tryd.ntmps54
  go_wp2_with (first
    | (go_at_call 61; (with_reducible refine (pblocks_c _ (by omega) (by omega) _).mono ?_); rw [HQ.out]; rintro e _ ⟨rfl, rfl⟩)
    | (with_reducible refine at_any ?_; refine at_dst 25 rfl ?_; refine wpList_copy_ints rfl (.tmp 23) (.tmp 24) 22 22 rfl 5 Tryd.underlying22 size_u8 _ _ _ _ _ _ rfl rfl w.heap.size 0 .u8 zs 5 (BlkI.new _ _ _ _) r (by omega) w.heap.size rest (HR.out.alloc (Nat.le_refl _) _) (fun _ => rfl) (by rw [HZL.out]; omega) w.heap.size w ((Below.refl _ _).alloc (Nat.le_refl _) _) (Nat.le_refl _) ?_; intro w1 HK1 hb1; have hlt1 := HK1.out.lt; have hc1 := HK1.out.cell (j := r) (by rw [HSL.out]; omega); have hf1 := HK1.out.frozen r; have HK2 := Lib.hid (HK1.out.set_ r 128); have HB2 := Lib.hid (hb1.setCell (p := ⟨w.heap.size, r, none⟩) (Nat.le_refl _) (.int .u8 128)))
    | (go_at_call 38; (with_reducible refine (HP.out _).mono ?_); rintro e w4 ⟨rfl, hb4, _⟩))
  have HK4 := Lib.hid ((HK2.out.below hb4 HK2.out.lt).alloc (Obj.cells #[.int .u8 p0, .int .u8 p1, .int .u8 p2, .int .u8 p3, .int .u8 p4, .int .u8 p5, .int .u8 p6, .int .u8 p7] 60))
  have HB4 := Lib.hid ((HB2.out.trans (hb4.mono HB2.out.size)).alloc (HB2.out.trans (hb4.mono HB2.out.size)).size (Obj.cells #[.int .u8 p0, .int .u8 p1, .int .u8 p2, .int .u8 p3, .int .u8 p4, .int .u8 p5, .int .u8 p6, .int .u8 p7] 60))
  have HP4 : Hid (BlkI (w4.alloc (Obj.cells #[.int .u8 p0, .int .u8 p1, .int .u8 p2, .int .u8 p3, .int .u8 p4, .int .u8 p5, .int .u8 p6, .int .u8 p7] 60)) w4.heap.size 60 .u8 ps) := by rw [← HPS.out]; exact BlkI.new w4 _ .u8 [p0, p1, p2, p3, p4, p5, p6, p7]
  obtain ⟨W5, hW5⟩ : ∃ W5, w4.alloc (Obj.cells #[.int .u8 p0, .int .u8 p1, .int .u8 p2, .int .u8 p3, .int .u8 p4, .int .u8 p5, .int .u8 p6, .int .u8 p7] 60) = W5 := ⟨_, rfl⟩
  rw [hW5] at HK4 HB4 HP4 ⊢
  obtain ⟨g5, hg5⟩ : ∃ g5, w4.heap.size = g5 := ⟨_, rfl⟩
  rw [hg5] at HP4 ⊢
  have HR5 : Hid (Rd .u8 W5 W5.heap.size (some ⟨g5, 0, none⟩) 8 ps) := by have := HP4.out.rd; rwa [HP8.out] at this
  clear hW5 hg5 hb4 hb1 HB2 HK2 HK1 hc1 hf1 hlt1 HP hmk
  have w56 : IntKind.i64.wrap 56 = 56 := by decide
  go_region_law (refine step_dst 39 rfl ?_; refine step_copy_ints rfl (.tmp 37) (.tmp 38) 22 22 rfl 5 Tryd.underlying22 size_u8 (some ⟨w.heap.size, 56, none⟩) (some ⟨g5, 0, none⟩) 8 8 8 8 (by kernel_rfl) (by kernel_rfl) w.heap.size 56 .u8 _ 5 HK4.out.drew 8 (by omega) _ ps HR5.out.drew (fun _ => rfl) (by rw [List.length_set, HSL.out]; omega) w.heap.size w HB4.out.drew (Nat.le_refl _) ?_; intro w6 HK6 hb6)
  all_goals
    go_wp2
    go_ret2
    have hk := HK6.out
    rw [HC.out] at hk
    have hrd := hk.rd
    rw [HLN.out] at hrd
    exact ⟨some ⟨w.heap.size, 0, none⟩, 64, by rw [HLN.out]; rfl, by rw [HLN.out]; exact hrd, by rw [HLN.out]; omega, hb6⟩

set_option maxHeartbeats 1000000 in
theorem ptail_b (A : Option Addr) (c r : Nat) (rest : List Int) (n : Int) (w : World) (hr : Rd .u8 w w.heap.size A r rest) (hc : r ≤ c) (n0 : 0 ≤ n) (n1 : n < 2305843009213693952) (hn : (r : Int) = n % 64) (hrz : ¬ r ≤ 55) :
    Calls Tryd.prog 54 #[.slice A r c, .int .u64 n] w (RetTailR w (tailL rest n)) := by
  obtain ⟨ps, hps⟩ : ∃ ps, put8L (8 * n) = ps := ⟨_, rfl⟩
  obtain ⟨p0, p1, p2, p3, p4, p5, p6, p7, rfl⟩ : ∃ p0 p1 p2 p3 p4 p5 p6 p7, ps = [p0, p1, p2, p3, p4, p5, p6, p7] := ⟨_, _, _, _, _, _, _, _, hps.symm⟩
  have hput := fun W => put64_c (n * 8) (by omega) (by omega) W
  rw [put8_list, show put8L (n * 8) = put8L (8 * n) by rw [Int.mul_comm], hps] at hput
  have htl : tailL rest n = rest ++ 128 :: List.replicate (zer r) 0 ++ [p0, p1, p2, p3, p4, p5, p6, p7] := by unfold tailL; rw [hr.len, hps]
  rw [htl]
  have HP := Lib.hid hput
  have hps8 : [p0, p1, p2, p3, p4, p5, p6, p7].length = 8 := rfl
  clear hput hps htl
  obtain ⟨ps, hps⟩ : ∃ ps, [p0, p1, p2, p3, p4, p5, p6, p7] = ps := ⟨_, rfl⟩
  rw [hps] at hps8 ⊢
  have HPS := Lib.hid hps
  have HP8 := Lib.hid hps8
  clear hps hps8
  obtain ⟨i0, hi, hz0, hz1, hzb⟩ := info_parts info_u8'
  have r1 : r < 64 := by omega
  have t1 : ((r : Int) != n % 64) = false := by rw [hn]; simp
  have hl := Lib.hid hr.len
  have hq : blocksN (n % 64) = if r ≤ 55 then 1 else 2 := by
    unfold blocksN
    rw [if_neg (by omega)]
    split <;> omega
  rw [if_neg hrz] at hq
  obtain ⟨zs, hzs⟩ : ∃ zs : List Int, List.replicate 128 0 = zs := ⟨_, rfl⟩
  have hmk : ∀ W, (Instr.makeSlice 22 (.int .u64 128) (.int .u64 128)).run Tryd.prog W = .ok (.slice (some ⟨W.heap.size, 0, none⟩) 128 128) (W.alloc (.cells (intsA .u8 (List.replicate 128 0)) 5)) := fun W => run_make_ints (P := Tryd.prog) 22 5 i0 .u8 Tryd.underlying22 hi hz0 hz1 .u64 .u64 128 (by rw [hzb]; decide) (by decide) W
  have hcells := tail_cells rest ps r (zer r) 128 hr.len HP8.out (by unfold zer; rw [if_neg hrz]; omega)
  have hlen : (rest ++ 128 :: List.replicate (zer r) 0 ++ ps).length = 128 := by
    rw [← hcells, length_splice, List.length_set, length_splice] <;> simp [hr.len, HP8.out, splice] <;> omega
  rw [hzs] at hmk hcells
  have hzl : zs.length = 128 := by rw [← hzs]; simp
  have HSL := Lib.hid (show (splice zs 0 rest).length = 128 by rw [length_splice _ _ _ (by rw [hzl, hr.len]; omega), hzl])
  have HZL := Lib.hid hzl
  have HQ := Lib.hid hq
  have HC := Lib.hid hcells
  have HLN := Lib.hid hlen
  have HR := Lib.hid hr
  clear hn hq hzl hzs hcells hlen hr
  obtain ⟨T, hT⟩ : ∃ T, rest ++ 128 :: List.replicate (zer r) 0 ++ ps = T := ⟨_, rfl⟩
  rw [hT] at HC HLN ⊢
  clear hT
  go_enter Tryd.func54, Tryd.ntmps54
  go_wp2_with (first
    | (go_at_call 61; (with_reducible refine (pblocks_c _ (by omega) (by omega) _).mono ?_); rw [HQ.out]; rintro e _ ⟨rfl, rfl⟩)
    | (with_reducible refine at_any ?_; refine at_dst 25 rfl ?_; refine wpList_copy_ints rfl (.tmp 23) (.tmp 24) 22 22 rfl 5 Tryd.underlying22 size_u8 _ _ _ _ _ _ rfl rfl w.heap.size 0 .u8 zs 5 (BlkI.new _ _ _ _) r (by omega) w.heap.size rest (HR.out.alloc (Nat.le_refl _) _) (fun _ => rfl) (by rw [HZL.out]; omega) w.heap.size w ((Below.refl _ _).alloc (Nat.le_refl _) _) (Nat.le_refl _) ?_; intro w1 HK1 hb1; have hlt1 := HK1.out.lt; have hc1 := HK1.out.cell (j := r) (by rw [HSL.out]; omega); have hf1 := HK1.out.frozen r; have HK2 := Lib.hid (HK1.out.set_ r 128); have HB2 := Lib.hid (hb1.setCell (p := ⟨w.heap.size, r, none⟩) (Nat.le_refl _) (.int .u8 128)))
    | (go_at_call 38; (with_reducible refine (HP.out _).mono ?_); rintro e w4 ⟨rfl, hb4, _⟩))
  have HK4 := Lib.hid ((HK2.out.below hb4 HK2.out.lt).alloc (Obj.cells #[.int .u8 p0, .int .u8 p1, .int .u8 p2, .int .u8 p3, .int .u8 p4, .int .u8 p5, .int .u8 p6, .int .u8 p7] 60))
  have HB4 := Lib.hid ((HB2.out.trans (hb4.mono HB2.out.size)).alloc (HB2.out.trans (hb4.mono HB2.out.size)).size (Obj.cells #[.int .u8 p0, .int .u8 p1, .int .u8 p2, .int .u8 p3, .int .u8 p4, .int .u8 p5, .int .u8 p6, .int .u8 p7] 60))
  have HP4 : Hid (BlkI (w4.alloc (Obj.cells #[.int .u8 p0, .int .u8 p1, .int .u8 p2, .int .u8 p3, .int .u8 p4, .int .u8 p5, .int .u8 p6, .int .u8 p7] 60)) w4.heap.size 60 .u8 ps) := by rw [← HPS.out]; exact BlkI.new w4 _ .u8 [p0, p1, p2, p3, p4, p5, p6, p7]
  obtain ⟨W5, hW5⟩ : ∃ W5, w4.alloc (Obj.cells #[.int .u8 p0, .int .u8 p1, .int .u8 p2, .int .u8 p3, .int .u8 p4, .int .u8 p5, .int .u8 p6, .int .u8 p7] 60) = W5 := ⟨_, rfl⟩
  rw [hW5] at HK4 HB4 HP4 ⊢
  obtain ⟨g5, hg5⟩ : ∃ g5, w4.heap.size = g5 := ⟨_, rfl⟩
  rw [hg5] at HP4 ⊢
  have HR5 : Hid (Rd .u8 W5 W5.heap.size (some ⟨g5, 0, none⟩) 8 ps) := by have := HP4.out.rd; rwa [HP8.out] at this
  clear hW5 hg5 hb4 hb1 HB2 HK2 HK1 hc1 hf1 hlt1 HP hmk
  have w120 : IntKind.i64.wrap 120 = 120 := by decide
  go_region_law (refine step_dst 39 rfl ?_; refine step_copy_ints rfl (.tmp 37) (.tmp 38) 22 22 rfl 5 Tryd.underlying22 size_u8 (some ⟨w.heap.size, 120, none⟩) (some ⟨g5, 0, none⟩) 8 8 8 8 (by kernel_rfl) (by kernel_rfl) w.heap.size 120 .u8 _ 5 HK4.out.drew 8 (by omega) _ ps HR5.out.drew (fun _ => rfl) (by rw [List.length_set, HSL.out]; omega) w.heap.size w HB4.out.drew (Nat.le_refl _) ?_; intro w6 HK6 hb6)
  all_goals
    go_wp2
    go_ret2
    have hk := HK6.out
    rw [HC.out] at hk
    have hrd := hk.rd
    rw [HLN.out] at hrd
    exact ⟨some ⟨w.heap.size, 0, none⟩, 128, by rw [HLN.out]; rfl, by rw [HLN.out]; exact hrd, by rw [HLN.out]; omega, hb6⟩

theorem ptail_c (A : Option Addr) (c r : Nat) (rest : List Int) (n : Int) (w : World) (hr : Rd .u8 w w.heap.size A r rest) (hc : r ≤ c) (n0 : 0 ≤ n) (n1 : n < 2305843009213693952) (hn : (r : Int) = n % 64) :
    Calls Tryd.prog 54 #[.slice A r c, .int .u64 n] w (RetTailR w (tailL rest n)) := by
  by_cases hrz : r ≤ 55
  · exact ptail_a A c r rest n w hr hc n0 n1 hn hrz
  · exact ptail_b A c r rest n w hr hc n0 n1 hn hrz
end Go.Proofs.YtmeefnhmkffdlaaDoor

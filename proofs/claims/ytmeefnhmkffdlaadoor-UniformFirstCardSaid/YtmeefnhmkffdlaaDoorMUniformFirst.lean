/-
  What is drawn is below the bound, by whole attempts; with fewer attempts nothing is; of up to 500 bytes.
  Conditions: the program's table of constants reads, when the call begins, as its text lays it (the card ties that).
-/
import Derived.Test.YtmeefnhmkffdlaaDoorGe
import Derived.ShutString
import Derived.Test.YtmeefnhmkffdlaaDoorTie
import Derived.Test.YtmeefnhmkffdlaaDoorCards
import Derived.SevenTiedAt
import Derived.ChangeOld
namespace Go.Proofs.YtmeefnhmkffdlaaDoor.uniformFirst
open Go.ChangeShapes Go.WideShapes Go.ChangeAt Go.RowKit
set_option linter.unusedVariables false
set_option linter.unusedSimpArgs false
set_option maxRecDepth 100000

theorem own : ownKnob Tryd.prog.godebug = none := by kernel_rfl
theorem laidOut : laidOutB Tryd.prog = true := by kernel_rfl

theorem size_of (s : Src) (l : s.tape.length ≤ 500) (ok : s.tape.length ≤ 140737488355328 → s.Ok) : s.Ok := ok (Nat.le_trans l (by decide))
theorem draw_u {s : Src} {n a : Int} {A : Option Addr} {x e : Int} {X : Src} (hx : drawV s n a = x) (hX : drawT s n a = X) (he : drawE s n a = e) {w w' : World} {en : Ending} (h : RetDraw w s A (drawR s n a) en w') :
    ∃ A' c', en = .returned (.tuple #[.int .u64 x, .agg (srcV X A' c'), .int .i64 e]) ∧ Rd .u8 w' w'.heap.size A' s.tape.length s.tape ∧ s.tape.length ≤ c' ∧ c' ≤ maxLen ∧ Sep w A A' ∧ Below w.heap.size w w' := by
  subst hx hX he
  exact h
set_option maxHeartbeats 8000000 in
theorem great_walk (s : Src) (A : Option Addr) (c : Nat) (n a : Int) (sl : s.seed.length = 32) (w : World) (hg : (500 : Int) < (s.tape.length : Int)) (hkst : Kst w) :
    Calls Tryd.prog 5 #[.agg (srcV s A c), .int .u64 n, .int .u8 a] w fun e w' => e = .returned (.bool true) ∧ Below w.heap.size w w' := by
  have HKS := Lib.hid hkst
  have HCS := Lib.hid (fun (W : World) (g : Nat) (h : Blk W g 27 (srcV s A c)) => (h.cell 1).trans (srcV_tape s A c))
  obtain ⟨L, hL⟩ : ∃ x, s.tape.length = x := ⟨_, rfl⟩
  rw [hL] at HCS hg
  clear hL sl hkst
  go_enter Tryd.func5, Tryd.ntmps5
  go_wp2_with (first
    | (with_reducible refine at_any ?_; refine at_dst 3 rfl ?_; refine wpList_box_any rfl 27 (.tmp 0) rfl (srcV s A c) rfl ?_; intro w1 hk1 hs1 hb1; have F1 := Lib.hid (Fx.newB (Fx.bel0 w) hk1.out hb1); clear hk1 hs1 hb1)
    | (go_at_call 7; (with_reducible refine (alive8_c _ (HKS.out.below (Fx.e1 F1.out))).mono ?_); rintro e wa ⟨rfl, hba⟩; have G0 := Lib.hid (F1.out.below hba); have cs0 := HCS.out _ _ (Fx.b0 G0.out); clear F1 hba))
  go_ret
  exact ⟨rfl, Fx.e1 G0.out⟩
set_option maxHeartbeats 8000000 in
theorem main_walk (s : Src) (A : Option Addr) (c : Nat) (n a : Int) (oks : s.Ok) (w : World) (hrs : Rd .u8 w w.heap.size A s.tape.length s.tape) (lc : s.tape.length ≤ c) (mc : c ≤ maxLen) (n0 : 0 ≤ n) (n1 : n < 18446744073709551616) (a0 : 0 ≤ a) (a1 : a < 256) (hg : s.tape.length ≤ 500) (hkst : Kst w) :
    Calls Tryd.prog 5 #[.agg (srcV s A c), .int .u64 n, .int .u8 a] w fun e w' => e = .returned (.bool true) ∧ Below w.heap.size w w' := by
  have HKS := Lib.hid hkst
  have HRS := Lib.hid hrs
  have HLs := Lib.hid oks.sl
  have HC3 := Lib.hid (fun (W : World) (g : Nat) (h : Blk W g 27 (srcV s A c)) => (h.cell 36).trans (srcV_at s oks.sl A c))
  have HCS := Lib.hid (fun (W : World) (g : Nat) (h : Blk W g 27 (srcV s A c)) => (h.cell 1).trans (srcV_tape s A c))
  obtain ⟨r, hr⟩ : ∃ r, a % 64 = r := ⟨_, rfl⟩
  have r0 : 0 ≤ r := by omega
  have r1 : r < 64 := by omega
  have okX := drawT_ok s n (1 + r) oks
  have hfirst := draw_first s n (1 + r) (by omega) (by omega)
  have hkn := needN_le n n0 n1
  have hnq := fun W => q8need_c n n0 n1 W
  have HDR := Lib.hid (fun j (j0 : -9223372036854775808 ≤ j) (j1 : j < 9223372036854775808) W h k' => q8draw_c s oks n n0 n1 j j0 j1 A c lc mc W h k')
  obtain ⟨k, hk⟩ : ∃ k, needN n = k := ⟨_, rfl⟩
  rw [hk] at hfirst hkn hnq
  obtain ⟨x, hx⟩ : ∃ x, drawV s n (1 + r) = x := ⟨_, rfl⟩
  obtain ⟨X, hX⟩ : ∃ x, drawT s n (1 + r) = x := ⟨_, rfl⟩
  obtain ⟨E, hE⟩ : ∃ x, drawE s n (1 + r) = x := ⟨_, rfl⟩
  have HQ := Lib.hid (fun W h k' => (HDR.out (1 + r) (by omega) (by omega) W h k').mono fun _ _ h => draw_u hx hX hE h)
  rw [hX] at okX
  rw [hx, hX, hE] at hfirst
  have HLX := Lib.hid okX.sl
  have HC9 := Lib.hid (fun (W : World) (g : Nat) (A' : Option Addr) (c' : Nat) (h : Blk W g 27 (srcV X A' c')) => (h.cell 36).trans (srcV_at X okX.sl A' c'))
  have hX1 := okX.a1
  have a30 := oks.a0
  have hl : (s.tape.length : Int) ≤ 500 := by omega
  have HZ0 := Lib.hid zero_src
  have HZL := Lib.hid (show Src.zero.seed.length = 32 from rfl)
  clear lc mc hrs hkst hX hx hE hk hg n1
  rcases hfirst with ⟨he, hx0⟩ | ⟨he, j, hj, hxn, hat, hless⟩
  · have tE : (E == 0) = false := by rw [beq_eq_false_iff_ne]; exact he
    have tE2 : (E != 0) = true := by rw [bne, tE]; rfl
    subst hx0
    obtain ⟨a0', ha0'⟩ : ∃ y, s.at_ = y := ⟨_, rfl⟩
    obtain ⟨t9, ht9⟩ : ∃ y, X.at_ = y := ⟨_, rfl⟩
    rw [ha0'] at HC3
    rw [ht9] at HC9
    clear he ha0' ht9 okX oks hnq hX1 a30 HDR hkn
    go_enter Tryd.func5, Tryd.ntmps5
    go_wp2_with (first
              | (with_reducible refine at_any ?_; refine at_dst 3 rfl ?_; refine wpList_box_any rfl 27 (.tmp 0) rfl (srcV s A c) rfl ?_; intro w1 hk1 hs1 hb1; have F1 := Lib.hid (Fx.newB (Fx.bel0 w) hk1.out hb1); clear hk1 hs1 hb1)
              | (go_at_call 7; (with_reducible refine (alive8_c _ (HKS.out.below (Fx.e1 F1.out))).mono ?_); rintro e wa ⟨rfl, hba⟩; have G0 := Lib.hid (F1.out.below hba); have cs0 := HCS.out _ _ (Fx.b0 G0.out); clear F1 hba)
              | (with_reducible refine at_any ?_; refine at_dst 26 rfl ?_; refine wpList_load_blk rfl 27 (.tmp 3) rfl w.heap.size rfl 27 (srcV s A c) (Fx.b0 G0.out) _ Tryd.underlying27 rfl (sizedS s HLs.out _ _) ?_)
              | (go_at_call 8; (with_reducible refine (HQ.out _ ((HRS.out.below (Fx.e1 G0.out)).mono (Below.size (Fx.e1 G0.out))) (HKS.out.below (Fx.e1 G0.out))).mono ?_); rintro e w51 ⟨A52, c53, rfl, hrw51, hlw51, hmw51, _, hbw51⟩; have lc53 := Lib.hid hlw51; have mc53 := Lib.hid hmw51; have G54 := Lib.hid (Fx.addR G0.out hbw51 hrw51); clear G0; clear hrw51 hbw51 hlw51 hmw51)
              | (with_reducible refine at_any ?_; refine at_dst 9 rfl ?_; refine wpList_alloc_any rfl 27 rfl (srcV Src.zero none 0) HZ0.out ?_; intro w55 hkw55 hsw55 hbw55; have U56 := Lib.hid (Fx.under_new G54.out rfl); have G57 := Lib.hid (Fx.newB G54.out hkw55.out hbw55); clear G54; clear hkw55 hsw55 hbw55)
              | (with_reducible refine at_any ?_; refine at_store 9 rfl ?_; refine wpList_store_any rfl 27 (.tmp 9) (.tmp 31) rfl w51.heap.size rfl 27 (srcV Src.zero none 0) (srcV X A52 c53) (Fx.b0 G57.out) rfl (srcV_same _ X HZL.out HLX.out _ _ _ _) (sizedS X HLX.out _ _) (srcV_ones _ _ _) ?_; intro w58 hkw58 hsw58 hbw58 how58; have G59 := Lib.hid (Fx.put1B G57.out U56.out hkw58.out hsw58.out hbw58 how58); clear G57; clear hkw58 hsw58 hbw58 how58; have c9 := HC9.out _ _ _ _ (Fx.b0 G59.out); have c3 := HC3.out _ _ (Fx.b2 G59.out))
              | (go_at_call 11; (with_reducible refine (HN.out _).mono ?_); rintro e _ ⟨rfl, rfl⟩))
    go_ret
    exact ⟨rfl, (Fx.e3 G59.out)⟩
  · subst he
    rw [hat] at HC9 hX1
    have HEX := Lib.hid hat
    obtain ⟨a0, ha0⟩ : ∃ y, s.at_ = y := ⟨_, rfl⟩
    rw [ha0] at HC3 HC9 hX1 a30
    have hkj : ((k * (j + 1) : Nat) : Int) = (k : Int) * ((j : Int) + 1) := by push_cast; rfl
    have hmod : k * (j + 1) % k = 0 := Nat.mul_mod_right k (j + 1)
    have hdiv : 0 < k → k * (j + 1) / k = j + 1 := fun h => Nat.mul_div_cancel_left _ h
    have hle : k * (j + 1) ≤ k * (1 + r).toNat := Nat.mul_le_mul_left k (by omega)
    have hmx : k * (1 + r).toNat ≤ 64 * 64 := Nat.mul_le_mul hkn (by omega)
    have hkm : (k : Int) * (1 + r) = ((k * (1 + r).toNat : Nat) : Int) := by rw [Int.natCast_mul, Int.toNat_of_nonneg (by omega)]
    have hk1 : k * (j + 1) = k * j + k := Nat.mul_succ k j
    have hsub : 0 < k → k * (j + 1) = k → j = 0 := fun h h2 => by
      rcases Nat.eq_zero_or_pos j with h3 | h3
      · exact h3
      · have := Nat.mul_le_mul_left k (show 2 ≤ j + 1 by omega); omega
    obtain ⟨B, hB⟩ : ∃ B, k * j = B := ⟨_, rfl⟩
    obtain ⟨d, hd⟩ : ∃ d, k * (j + 1) = d := ⟨_, rfl⟩
    obtain ⟨M, hM⟩ : ∃ M, k * (1 + r).toNat = M := ⟨_, rfl⟩
    have hB0 : j = 0 → B = 0 := fun h => by rw [← hB, h, Nat.mul_zero]
    rw [hB] at hk1 hless
    rw [hd] at HC9 hX1 hmod hdiv hle hk1 hsub
    rw [hM] at hle hmx hkm
    clear hB hd hM hkj hat
    obtain ⟨t9, ht9⟩ : ∃ t, a0 + (d : Int) = t := ⟨_, rfl⟩
    rw [ht9] at HC9 hX1
    have h9 : a0 ≤ t9 := by omega
    have hD : t9 - a0 = (d : Int) := by omega
    have hxn2 : ¬ n ≤ x := by omega
    have hdM : (d : Int) ≤ (M : Int) := by omega
    have hdm : (d : Int) ≤ 4096 := by omega
    have hMm : (M : Int) ≤ 4096 := by omega
    by_cases hk0 : k = 0
    · subst hk0
      have hd0 : d = 0 := by omega
      subst hd0
      have h99 : t9 = a0 := by omega
      subst h99
      have HN := Lib.hid hnq
      rw [show ((0 : Nat) : Int) = 0 from rfl] at HN
      have hz1 : (0 : Int) * (1 + r) = 0 := Int.zero_mul _
      clear hnq hmod hdiv hle hk1 hsub hB0 ht9 hkm hmx hdm hMm hdM hless HDR HEX okX oks ha0 hkn hD
      go_enter Tryd.func5, Tryd.ntmps5
      go_wp2_with (first
              | (with_reducible refine at_any ?_; refine at_dst 3 rfl ?_; refine wpList_box_any rfl 27 (.tmp 0) rfl (srcV s A c) rfl ?_; intro w1 hk1 hs1 hb1; have F1 := Lib.hid (Fx.newB (Fx.bel0 w) hk1.out hb1); clear hk1 hs1 hb1)
              | (go_at_call 7; (with_reducible refine (alive8_c _ (HKS.out.below (Fx.e1 F1.out))).mono ?_); rintro e wa ⟨rfl, hba⟩; have G0 := Lib.hid (F1.out.below hba); have cs0 := HCS.out _ _ (Fx.b0 G0.out); clear F1 hba)
              | (with_reducible refine at_any ?_; refine at_dst 26 rfl ?_; refine wpList_load_blk rfl 27 (.tmp 3) rfl w.heap.size rfl 27 (srcV s A c) (Fx.b0 G0.out) _ Tryd.underlying27 rfl (sizedS s HLs.out _ _) ?_)
              | (go_at_call 8; (with_reducible refine (HQ.out _ ((HRS.out.below (Fx.e1 G0.out)).mono (Below.size (Fx.e1 G0.out))) (HKS.out.below (Fx.e1 G0.out))).mono ?_); rintro e w51 ⟨A52, c53, rfl, hrw51, hlw51, hmw51, _, hbw51⟩; have lc53 := Lib.hid hlw51; have mc53 := Lib.hid hmw51; have G54 := Lib.hid (Fx.addR G0.out hbw51 hrw51); clear G0; clear hrw51 hbw51 hlw51 hmw51)
              | (with_reducible refine at_any ?_; refine at_dst 9 rfl ?_; refine wpList_alloc_any rfl 27 rfl (srcV Src.zero none 0) HZ0.out ?_; intro w55 hkw55 hsw55 hbw55; have U56 := Lib.hid (Fx.under_new G54.out rfl); have G57 := Lib.hid (Fx.newB G54.out hkw55.out hbw55); clear G54; clear hkw55 hsw55 hbw55)
              | (with_reducible refine at_any ?_; refine at_store 9 rfl ?_; refine wpList_store_any rfl 27 (.tmp 9) (.tmp 31) rfl w51.heap.size rfl 27 (srcV Src.zero none 0) (srcV X A52 c53) (Fx.b0 G57.out) rfl (srcV_same _ X HZL.out HLX.out _ _ _ _) (sizedS X HLX.out _ _) (srcV_ones _ _ _) ?_; intro w58 hkw58 hsw58 hbw58 how58; have G59 := Lib.hid (Fx.put1B G57.out U56.out hkw58.out hsw58.out hbw58 how58); clear G57; clear hkw58 hsw58 hbw58 how58; have c9 := HC9.out _ _ _ _ (Fx.b0 G59.out); have c3 := HC3.out _ _ (Fx.b2 G59.out))
              | (go_at_call 11; (with_reducible refine (HN.out _).mono ?_); rintro e _ ⟨rfl, rfl⟩))
      go_ret
      exact ⟨rfl, (Fx.e3 G59.out)⟩
    · obtain ⟨K, hK⟩ : ∃ K : Int, (k : Int) = K := ⟨_, rfl⟩
      have K0 : 0 < K := by omega
      have K1 : K ≤ 64 := by omega
      rw [hK] at hnq hkm
      have HN := Lib.hid hnq
      have hK3 : (K == 0) = false := by rw [beq_eq_false_iff_ne]; omega
      have hm1 : (d : Int).tmod K = 0 := by rw [← hK, Int.tmod_eq_emod_of_nonneg (by omega)]; exact_mod_cast hmod
      have hm2 : (d : Int) % K = 0 := by rw [← hK]; exact_mod_cast hmod
      have hKn : K ≠ 0 := by omega
      by_cases hj0 : j = 0
      · have hdk : (d : Int) = K := by
          have := hB0 hj0
          omega
        have hDK : t9 - a0 = K := by rw [hD, hdk]
        rw [hdk] at hm1 hm2 hdM
        clear hnq hmod hdiv hle hk1 hsub hB0 ht9 hless HDR HEX okX oks ha0 hK hD hkn hdm hdk hk0 hj hj0
        go_enter Tryd.func5, Tryd.ntmps5
        go_wp2_with (first
              | (with_reducible refine at_any ?_; refine at_dst 3 rfl ?_; refine wpList_box_any rfl 27 (.tmp 0) rfl (srcV s A c) rfl ?_; intro w1 hk1 hs1 hb1; have F1 := Lib.hid (Fx.newB (Fx.bel0 w) hk1.out hb1); clear hk1 hs1 hb1)
              | (go_at_call 7; (with_reducible refine (alive8_c _ (HKS.out.below (Fx.e1 F1.out))).mono ?_); rintro e wa ⟨rfl, hba⟩; have G0 := Lib.hid (F1.out.below hba); have cs0 := HCS.out _ _ (Fx.b0 G0.out); clear F1 hba)
              | (with_reducible refine at_any ?_; refine at_dst 26 rfl ?_; refine wpList_load_blk rfl 27 (.tmp 3) rfl w.heap.size rfl 27 (srcV s A c) (Fx.b0 G0.out) _ Tryd.underlying27 rfl (sizedS s HLs.out _ _) ?_)
              | (go_at_call 8; (with_reducible refine (HQ.out _ ((HRS.out.below (Fx.e1 G0.out)).mono (Below.size (Fx.e1 G0.out))) (HKS.out.below (Fx.e1 G0.out))).mono ?_); rintro e w51 ⟨A52, c53, rfl, hrw51, hlw51, hmw51, _, hbw51⟩; have lc53 := Lib.hid hlw51; have mc53 := Lib.hid hmw51; have G54 := Lib.hid (Fx.addR G0.out hbw51 hrw51); clear G0; clear hrw51 hbw51 hlw51 hmw51)
              | (with_reducible refine at_any ?_; refine at_dst 9 rfl ?_; refine wpList_alloc_any rfl 27 rfl (srcV Src.zero none 0) HZ0.out ?_; intro w55 hkw55 hsw55 hbw55; have U56 := Lib.hid (Fx.under_new G54.out rfl); have G57 := Lib.hid (Fx.newB G54.out hkw55.out hbw55); clear G54; clear hkw55 hsw55 hbw55)
              | (with_reducible refine at_any ?_; refine at_store 9 rfl ?_; refine wpList_store_any rfl 27 (.tmp 9) (.tmp 31) rfl w51.heap.size rfl 27 (srcV Src.zero none 0) (srcV X A52 c53) (Fx.b0 G57.out) rfl (srcV_same _ X HZL.out HLX.out _ _ _ _) (sizedS X HLX.out _ _) (srcV_ones _ _ _) ?_; intro w58 hkw58 hsw58 hbw58 how58; have G59 := Lib.hid (Fx.put1B G57.out U56.out hkw58.out hsw58.out hbw58 how58); clear G57; clear hkw58 hsw58 hbw58 how58; have c9 := HC9.out _ _ _ _ (Fx.b0 G59.out); have c3 := HC3.out _ _ (Fx.b2 G59.out))
              | (go_at_call 11; (with_reducible refine (HN.out _).mono ?_); rintro e _ ⟨rfl, rfl⟩))
        go_ret
        exact ⟨rfl, (Fx.e3 G59.out)⟩
      · have hdk : ((d : Int) == K) = false := by
          rw [beq_eq_false_iff_ne]
          intro h
          exact hj0 (hsub (by omega) (by omega))
        have hu := hless (by omega)
        have HU := Lib.hid (fun W h k' => (HDR.out (j : Int) (by omega) (by omega) W h k').mono fun _ _ h => draw_u (x := 0) (X := s.to (s.at_ + (B : Int))) (e := 9) (by unfold drawV; rw [hu]) (by unfold drawT; rw [hu]) (by unfold drawE; rw [hu]) h)
        have okY : (s.to (s.at_ + (B : Int))).Ok := oks.to_ _ (by have := oks.a0; omega) (by rw [ha0]; omega)
        have HCY := Lib.hid (fun (W : World) (g : Nat) (A' : Option Addr) (c' : Nat) (h : Blk W g 27 (srcV (s.to (s.at_ + (B : Int))) A' c')) => (h.cell 36).trans (srcV_at _ okY.sl A' c'))
        rw [show (s.to (s.at_ + (B : Int))).at_ = s.at_ + (B : Int) from rfl] at HCY
        obtain ⟨Y, hY⟩ : ∃ Y, s.to (s.at_ + (B : Int)) = Y := ⟨_, rfl⟩
        rw [hY] at HU HCY okY
        rw [ha0] at HCY
        have HLY := Lib.hid okY.sl
        obtain ⟨y, hy⟩ : ∃ y, a0 + (B : Int) = y := ⟨_, rfl⟩
        rw [hy] at HCY
        have hqd : (d : Int) / K = ((j + 1 : Nat) : Int) := by
          have := hdiv (by omega)
          rw [← hK, ← this]
          rfl
        have hqt : (d : Int).tdiv K = (d : Int) / K := Int.tdiv_eq_ediv_of_nonneg (by omega)
        have hyk : t9 - K = y := by omega
        have hy0 : 0 ≤ y := by omega
        have hy1 : y < 18446744073709551616 := by omega
        have hj64 : (j : Int) < 64 := by omega
        obtain ⟨q, hq⟩ : ∃ q : Int, ((j + 1 : Nat) : Int) = q := ⟨_, rfl⟩
        rw [hq] at hqd
        have hqj : q = (j : Int) + 1 := by omega
        have HDW := Lib.hid (show IntKind.u64.wrap (d : Int) = (d : Int) by rw [IntKind.wrap_u64]; omega)
        have HTQ := Lib.hid (hqt.trans hqd)
        have HQD := Lib.hid hqd
        have HKZ := Lib.hid hKn
        have HQW := Lib.hid (show IntKind.u64.wrap q = q by rw [IntKind.wrap_u64]; omega)
        have HQI := Lib.hid (show IntKind.i64.wrap q = q by rw [IntKind.wrap_i64]; omega)
        have HJI := Lib.hid (show IntKind.i64.wrap (q - 1) = (j : Int) by rw [IntKind.wrap_i64]; omega)
        have ZV := Lib.hid (fun A c => srcV_same Src.zero Y rfl HLY.out none A 0 c)
        have HYK := Lib.hid hyk
        have HDD := Lib.hid hD
        have HWY := Lib.hid (show IntKind.u64.wrap (t9 - K) = y by rw [IntKind.wrap_u64, hyk]; omega)
        clear hnq hmod hdiv hle hk1 hsub hB0 ht9 hless HDR HEX okX oks okY ha0 hK hkn hdm hk0 hj hj0 hu hY hqd hqt hy hyk hq hqj hj64
        go_enter Tryd.func5, Tryd.ntmps5
        go_wp2_with (first
              | (with_reducible refine at_any ?_; refine at_dst 3 rfl ?_; refine wpList_box_any rfl 27 (.tmp 0) rfl (srcV s A c) rfl ?_; intro w1 hk1 hs1 hb1; have F1 := Lib.hid (Fx.newB (Fx.bel0 w) hk1.out hb1); clear hk1 hs1 hb1)
              | (go_at_call 7; (with_reducible refine (alive8_c _ (HKS.out.below (Fx.e1 F1.out))).mono ?_); rintro e wa ⟨rfl, hba⟩; have G0 := Lib.hid (F1.out.below hba); have cs0 := HCS.out _ _ (Fx.b0 G0.out); clear F1 hba)
              | (with_reducible refine at_any ?_; refine at_dst 26 rfl ?_; refine wpList_load_blk rfl 27 (.tmp 3) rfl w.heap.size rfl 27 (srcV s A c) (Fx.b0 G0.out) _ Tryd.underlying27 rfl (sizedS s HLs.out _ _) ?_)
              | (go_at_call 8; (with_reducible refine (HQ.out _ ((HRS.out.below (Fx.e1 G0.out)).mono (Below.size (Fx.e1 G0.out))) (HKS.out.below (Fx.e1 G0.out))).mono ?_); rintro e w51 ⟨A52, c53, rfl, hrw51, hlw51, hmw51, _, hbw51⟩; have lc53 := Lib.hid hlw51; have mc53 := Lib.hid hmw51; have G54 := Lib.hid (Fx.addR G0.out hbw51 hrw51); clear G0; clear hrw51 hbw51 hlw51 hmw51)
              | (with_reducible refine at_any ?_; refine at_dst 9 rfl ?_; refine wpList_alloc_any rfl 27 rfl (srcV Src.zero none 0) HZ0.out ?_; intro w55 hkw55 hsw55 hbw55; have U56 := Lib.hid (Fx.under_new G54.out rfl); have G57 := Lib.hid (Fx.newB G54.out hkw55.out hbw55); clear G54; clear hkw55 hsw55 hbw55)
              | (with_reducible refine at_any ?_; refine at_store 9 rfl ?_; refine wpList_store_any rfl 27 (.tmp 9) (.tmp 31) rfl w51.heap.size rfl 27 (srcV Src.zero none 0) (srcV X A52 c53) (Fx.b0 G57.out) rfl (srcV_same _ X HZL.out HLX.out _ _ _ _) (sizedS X HLX.out _ _) (srcV_ones _ _ _) ?_; intro w58 hkw58 hsw58 hbw58 how58; have G59 := Lib.hid (Fx.put1B G57.out U56.out hkw58.out hsw58.out hbw58 how58); clear G57; clear hkw58 hsw58 hbw58 how58; have c9 := HC9.out _ _ _ _ (Fx.b0 G59.out); have c3 := HC3.out _ _ (Fx.b2 G59.out))
              | (go_at_call 11; (with_reducible refine (HN.out _).mono ?_); rintro e _ ⟨rfl, rfl⟩))
        have HF := G59.out
        clear G59
        obtain ⟨g9, eg9⟩ : ∃ g, w51.heap.size = g := ⟨_, rfl⟩
        obtain ⟨g3, eg3⟩ : ∃ g, w.heap.size = g := ⟨_, rfl⟩
        rw [eg9, eg3] at HF
        rw [eg9, eg3]
        clear eg9 eg3
        refine wp_region_held_drew (S := (Fx [.blk g9 27 (srcV X A52 c53), .rdb .u8 g9 A52 s.tape.length s.tape, .blk g3 27 (srcV s A c), .bel w])) (by kernel_rfl) (HF.drew) (fun hH => ?_)
        refine wpAnyH_letter #[false, false, false, false, false, false, false, false, false, false, false, false, false, false, false, false, false, false, false, false] (by kernel_rfl) (fun _ _ d _ _ h => by cases d <;> exact h) (fun QL HQ1 HQ2 => ?_)
        refine held_row 0 (some 97) rfl (by kernel_rfl) (by kernel_rfl) (by kernel_rfl) (by kernel_rfl) (fun c a v w h => HQ2.out c a _ v w h) (by kernel_rfl) 27 (.tmp 3) rfl g3 (by kernel_rfl) 27 (srcV s A c) (fun _ h => h.2.2.1) _ Tryd.underlying27 rfl (sizedS s HLs.out _ _) hH ?_
        try simp only [Act.put, List.setIfInBounds_toArray, List.set_cons_zero, List.set_cons_succ]
        refine held_v 1 (some 98) rfl (by kernel_rfl) (by kernel_rfl) (by kernel_rfl) (by kernel_rfl) (fun c a v w h => HQ2.out c a _ v w h) (by kernel_rfl) (.int .u64 n) (fun W h => by kernel_rfl) hH ?_
        try simp only [Act.put, List.setIfInBounds_toArray, List.set_cons_zero, List.set_cons_succ]
        refine held_v 2 (some 99) rfl (by kernel_rfl) (by kernel_rfl) (by kernel_rfl) (by kernel_rfl) (fun c a v w h => HQ2.out c a _ v w h) (by kernel_rfl) (.pointer (some ⟨g9, 36, none⟩)) (fun W h => by kernel_rfl) hH ?_
        try simp only [Act.put, List.setIfInBounds_toArray, List.set_cons_zero, List.set_cons_succ]
        refine held_v 3 (some 100) rfl (by kernel_rfl) (by kernel_rfl) (by kernel_rfl) (by kernel_rfl) (fun c a v w h => HQ2.out c a _ v w h) (by kernel_rfl) (.int .u64 t9) (fun W h => by have p := HC9.out W _ _ _ (Fx.b0 h); go_simp) hH ?_
        try simp only [Act.put, List.setIfInBounds_toArray, List.set_cons_zero, List.set_cons_succ]
        refine held_v 4 (some 101) rfl (by kernel_rfl) (by kernel_rfl) (by kernel_rfl) (by kernel_rfl) (fun c a v w h => HQ2.out c a _ v w h) (by kernel_rfl) (.pointer (some ⟨g3, 36, none⟩)) (fun W h => by kernel_rfl) hH ?_
        try simp only [Act.put, List.setIfInBounds_toArray, List.set_cons_zero, List.set_cons_succ]
        refine held_v 5 (some 102) rfl (by kernel_rfl) (by kernel_rfl) (by kernel_rfl) (by kernel_rfl) (fun c a v w h => HQ2.out c a _ v w h) (by kernel_rfl) (.int .u64 a0) (fun W h => by have p := HC3.out W _ (Fx.b2 h); go_simp) hH ?_
        try simp only [Act.put, List.setIfInBounds_toArray, List.set_cons_zero, List.set_cons_succ]
        refine held_v 6 (some 103) rfl (by kernel_rfl) (by kernel_rfl) (by kernel_rfl) (by kernel_rfl) (fun c a v w h => HQ2.out c a _ v w h) (by kernel_rfl) (.int .u64 (d : Int)) (fun W h => by have p := HDW.out; go_simp) hH ?_
        try simp only [Act.put, List.setIfInBounds_toArray, List.set_cons_zero, List.set_cons_succ]
        refine held_v 7 (some 104) rfl (by kernel_rfl) (by kernel_rfl) (by kernel_rfl) (by kernel_rfl) (fun c a v w h => HQ2.out c a _ v w h) (by kernel_rfl) (.int .u64 K) (fun W h => by kernel_rfl) hH ?_
        try simp only [Act.put, List.setIfInBounds_toArray, List.set_cons_zero, List.set_cons_succ]
        refine held_v 8 (some 105) rfl (by kernel_rfl) (by kernel_rfl) (by kernel_rfl) (by kernel_rfl) (fun c a v w h => HQ2.out c a _ v w h) (by kernel_rfl) (.int .u64 q) (fun W h => by have p1 := HTQ.out; have p2 := HQD.out; have p3 := HKZ.out; have p4 := HQW.out; go_simp) hH ?_
        try simp only [Act.put, List.setIfInBounds_toArray, List.set_cons_zero, List.set_cons_succ]
        refine held_v 9 (some 106) rfl (by kernel_rfl) (by kernel_rfl) (by kernel_rfl) (by kernel_rfl) (fun c a v w h => HQ2.out c a _ v w h) (by kernel_rfl) (.int .i64 q) (fun W h => by have p := HQI.out; go_simp) hH ?_
        try simp only [Act.put, List.setIfInBounds_toArray, List.set_cons_zero, List.set_cons_succ]
        refine held_v 10 (some 107) rfl (by kernel_rfl) (by kernel_rfl) (by kernel_rfl) (by kernel_rfl) (fun c a v w h => HQ2.out c a _ v w h) (by kernel_rfl) (.int .i64 j) (fun W h => by have p := HJI.out; go_simp) hH ?_
        try simp only [Act.put, List.setIfInBounds_toArray, List.set_cons_zero, List.set_cons_succ]
        refine wpAnyH_ready (rs := [11, 16]) (by kernel_rfl) (by decide) ?_
        refine AllReadyH.cons rfl (fun K hK => ?_) (AllReadyH.cons rfl (fun K hK => ?_) AllReadyH.nil)
        · refine step_call (some 108) (by kernel_rfl) (by kernel_rfl) _ _ (by kernel_rfl) _ (HU.out _ ((HRS.out.below (Fx.e3 hH)).mono (Below.size (Fx.e3 hH))) (HKS.out.below (Fx.e3 hH))) ?_
          rintro e w41 ⟨A13, c13, rfl, hr13, hl13, hm13, _, hbw41⟩
          refine ⟨_, rfl, ?_⟩
          refine hK.out _ _ (hH.below hbw41) (fun hw41 => ?_)
          clear hK K
          try simp only [Act.put, List.setIfInBounds_toArray, List.set_cons_zero, List.set_cons_succ]
          refine held_v 12 (some 96) rfl (by kernel_rfl) (by kernel_rfl) (by kernel_rfl) (by kernel_rfl) (fun c a v w h => HQ2.out c a _ v w h) (by kernel_rfl) (.tuple #[.int .u64 0, .agg (srcV Y A13 c13), .int .i64 9]) (fun W h => by kernel_rfl) hw41 ?_
          try simp only [Act.put, List.setIfInBounds_toArray, List.set_cons_zero, List.set_cons_succ]
          refine held_v 13 (some 109) rfl (by kernel_rfl) (by kernel_rfl) (by kernel_rfl) (by kernel_rfl) (fun c a v w h => HQ2.out c a _ v w h) (by kernel_rfl) (.int .u64 0) (fun W h => by kernel_rfl) hw41 ?_
          try simp only [Act.put, List.setIfInBounds_toArray, List.set_cons_zero, List.set_cons_succ]
          refine held_v 14 (some 110) rfl (by kernel_rfl) (by kernel_rfl) (by kernel_rfl) (by kernel_rfl) (fun c a v w h => HQ2.out c a _ v w h) (by kernel_rfl) (.agg (srcV Y A13 c13)) (fun W h => by kernel_rfl) hw41 ?_
          try simp only [Act.put, List.setIfInBounds_toArray, List.set_cons_zero, List.set_cons_succ]
          refine held_v 15 (some 111) rfl (by kernel_rfl) (by kernel_rfl) (by kernel_rfl) (by kernel_rfl) (fun c a v w h => HQ2.out c a _ v w h) (by kernel_rfl) (.int .i64 9) (fun W h => by kernel_rfl) hw41 ?_
          try simp only [Act.put, List.setIfInBounds_toArray, List.set_cons_zero, List.set_cons_succ]
          refine wpAnyH_ready (rs := [16]) (by kernel_rfl) (by decide) ?_
          refine AllReadyH.cons rfl (fun K hK => ?_) AllReadyH.nil
          refine step_alloc (some 13) (by kernel_rfl) (by kernel_rfl) 27 rfl (srcV Src.zero none 0) HZ0.out ?_
          intro w42 hkw42 hsw42 hbw42
          obtain ⟨g13, hg13⟩ : ∃ g, w41.heap.size = g := ⟨_, rfl⟩
          have hle13 : w.heap.size ≤ g13 := by have := Below.size (Fx.e3 hw41); omega
          have hne3 : g3 ≠ g13 := by have := (Fx.b2 hw41).lt; omega
          have hne9 : g9 ≠ g13 := by have := (Fx.b0 hw41).lt; omega
          have hleb : g9 ≤ g13 := by have := (Fx.b0 hw41).lt; omega
          rw [hg13] at hkw42
          rw [hg13]
          have ex43 : Fx [.blk g13 27 (srcV Src.zero none 0)] w42 := ⟨hkw42.out, trivial⟩
          refine hK.out _ _ (hw41.below hbw42) (fun hw42 => ?_)
          clear hK K
          try simp only [Act.put, List.setIfInBounds_toArray, List.set_cons_zero, List.set_cons_succ]
          refine held_v 17 (some 12) rfl (by kernel_rfl) (by kernel_rfl) (by kernel_rfl) (by kernel_rfl) (fun c a v w h => HQ2.out c a _ v w h) (by kernel_rfl) (.int .u64 0) (fun W h => by kernel_rfl) hw42 ?_
          try simp only [Act.put, List.setIfInBounds_toArray, List.set_cons_zero, List.set_cons_succ]
          refine wpAnyH_ready (rs := [18]) (by kernel_rfl) (by decide) ?_
          refine AllReadyH.cons rfl (fun K hK => ?_) AllReadyH.nil
          refine step_store none (by kernel_rfl) (by kernel_rfl) 27 (.tmp 13) (.tmp 110) rfl g13 (by kernel_rfl) 27 (srcV Src.zero none 0) (srcV Y A13 c13) ex43.1 (by kernel_rfl) (ZV.out _ _) (sizedS Y HLY.out _ _) (srcV_ones _ _ _) ?_
          intro w44 hkw44 hsw44 hbw44 how44
          have ex45 : Fx [.blk g13 27 (srcV Y A13 c13)] w44 := ⟨hkw44.out, trivial⟩
          refine hK.out _ _ (hw42.store ex43.1 ⟨hne9, hleb, hne3, hle13, trivial⟩ hsw44.out hbw44 how44) (fun hw44 => ?_)
          clear hK K
          try simp only [Act.put, List.setIfInBounds_toArray, List.set_cons_zero, List.set_cons_succ]
          refine held_v 19 (some 14) rfl (by kernel_rfl) (by kernel_rfl) (by kernel_rfl) (by kernel_rfl) (fun c a v w h => HQ2.out c a _ v w h) (by kernel_rfl) (.int .i64 9) (fun W h => by kernel_rfl) hw44 ?_
          try simp only [Act.put, List.setIfInBounds_toArray, List.set_cons_zero, List.set_cons_succ]
          refine wpAnyH_done (by kernel_rfl) ?_ _
          refine HQ1.out _ _ ?_
          clear HQ1 HQ2
          have cu := HCY.out _ _ _ _ ex45.1
          have c9 := HC9.out _ _ _ _ (Fx.b0 hw44)
          have wy := HWY.out
          have yy : (y == y) = true := beq_self_eq_true y
          go_wp2
          go_ret
          exact ⟨rfl, (Fx.e3 hw44)⟩
        · refine step_alloc (some 13) (by kernel_rfl) (by kernel_rfl) 27 rfl (srcV Src.zero none 0) HZ0.out ?_
          intro w46 hkw46 hsw46 hbw46
          obtain ⟨g13, hg13⟩ : ∃ g, w58.drew.heap.size = g := ⟨_, rfl⟩
          have hle13 : w.heap.size ≤ g13 := by have := Below.size (Fx.e3 hH); omega
          have hne3 : g3 ≠ g13 := by have := (Fx.b2 hH).lt; omega
          have hne9 : g9 ≠ g13 := by have := (Fx.b0 hH).lt; omega
          have hleb : g9 ≤ g13 := by have := (Fx.b0 hH).lt; omega
          rw [hg13] at hkw46
          rw [hg13]
          have ex47 : Fx [.blk g13 27 (srcV Src.zero none 0)] w46 := ⟨hkw46.out, trivial⟩
          refine hK.out _ _ (hH.below hbw46) (fun hw46 => ?_)
          clear hK K
          try simp only [Act.put, List.setIfInBounds_toArray, List.set_cons_zero, List.set_cons_succ]
          refine wpAnyH_ready (rs := [11]) (by kernel_rfl) (by decide) ?_
          refine AllReadyH.cons rfl (fun K hK => ?_) AllReadyH.nil
          refine step_call (some 108) (by kernel_rfl) (by kernel_rfl) _ _ (by kernel_rfl) _ (HU.out _ ((HRS.out.below (Fx.e3 hw46)).mono (Below.size (Fx.e3 hw46))) (HKS.out.below (Fx.e3 hw46))) ?_
          rintro e w48 ⟨A13, c13, rfl, hr13, hl13, hm13, _, hbw48⟩
          have ex49 := ex47.below hbw48
          refine ⟨_, rfl, ?_⟩
          refine hK.out _ _ (hw46.below hbw48) (fun hw48 => ?_)
          clear hK K
          try simp only [Act.put, List.setIfInBounds_toArray, List.set_cons_zero, List.set_cons_succ]
          refine held_v 12 (some 96) rfl (by kernel_rfl) (by kernel_rfl) (by kernel_rfl) (by kernel_rfl) (fun c a v w h => HQ2.out c a _ v w h) (by kernel_rfl) (.tuple #[.int .u64 0, .agg (srcV Y A13 c13), .int .i64 9]) (fun W h => by kernel_rfl) hw48 ?_
          try simp only [Act.put, List.setIfInBounds_toArray, List.set_cons_zero, List.set_cons_succ]
          refine held_v 13 (some 109) rfl (by kernel_rfl) (by kernel_rfl) (by kernel_rfl) (by kernel_rfl) (fun c a v w h => HQ2.out c a _ v w h) (by kernel_rfl) (.int .u64 0) (fun W h => by kernel_rfl) hw48 ?_
          try simp only [Act.put, List.setIfInBounds_toArray, List.set_cons_zero, List.set_cons_succ]
          refine held_v 14 (some 110) rfl (by kernel_rfl) (by kernel_rfl) (by kernel_rfl) (by kernel_rfl) (fun c a v w h => HQ2.out c a _ v w h) (by kernel_rfl) (.agg (srcV Y A13 c13)) (fun W h => by kernel_rfl) hw48 ?_
          try simp only [Act.put, List.setIfInBounds_toArray, List.set_cons_zero, List.set_cons_succ]
          refine held_v 15 (some 111) rfl (by kernel_rfl) (by kernel_rfl) (by kernel_rfl) (by kernel_rfl) (fun c a v w h => HQ2.out c a _ v w h) (by kernel_rfl) (.int .i64 9) (fun W h => by kernel_rfl) hw48 ?_
          try simp only [Act.put, List.setIfInBounds_toArray, List.set_cons_zero, List.set_cons_succ]
          refine held_v 17 (some 12) rfl (by kernel_rfl) (by kernel_rfl) (by kernel_rfl) (by kernel_rfl) (fun c a v w h => HQ2.out c a _ v w h) (by kernel_rfl) (.int .u64 0) (fun W h => by kernel_rfl) hw48 ?_
          try simp only [Act.put, List.setIfInBounds_toArray, List.set_cons_zero, List.set_cons_succ]
          refine wpAnyH_ready (rs := [18]) (by kernel_rfl) (by decide) ?_
          refine AllReadyH.cons rfl (fun K hK => ?_) AllReadyH.nil
          refine step_store none (by kernel_rfl) (by kernel_rfl) 27 (.tmp 13) (.tmp 110) rfl g13 (by kernel_rfl) 27 (srcV Src.zero none 0) (srcV Y A13 c13) ex49.1 (by kernel_rfl) (ZV.out _ _) (sizedS Y HLY.out _ _) (srcV_ones _ _ _) ?_
          intro w50 hkw50 hsw50 hbw50 how50
          have ex51 : Fx [.blk g13 27 (srcV Y A13 c13)] w50 := ⟨hkw50.out, trivial⟩
          refine hK.out _ _ (hw48.store ex49.1 ⟨hne9, hleb, hne3, hle13, trivial⟩ hsw50.out hbw50 how50) (fun hw50 => ?_)
          clear hK K
          try simp only [Act.put, List.setIfInBounds_toArray, List.set_cons_zero, List.set_cons_succ]
          refine held_v 19 (some 14) rfl (by kernel_rfl) (by kernel_rfl) (by kernel_rfl) (by kernel_rfl) (fun c a v w h => HQ2.out c a _ v w h) (by kernel_rfl) (.int .i64 9) (fun W h => by kernel_rfl) hw50 ?_
          try simp only [Act.put, List.setIfInBounds_toArray, List.set_cons_zero, List.set_cons_succ]
          refine wpAnyH_done (by kernel_rfl) ?_ _
          refine HQ1.out _ _ ?_
          clear HQ1 HQ2
          have cu := HCY.out _ _ _ _ ex51.1
          have c9 := HC9.out _ _ _ _ (Fx.b0 hw50)
          have wy := HWY.out
          have yy : (y == y) = true := beq_self_eq_true y
          go_wp2
          go_ret
          exact ⟨rfl, (Fx.e3 hw50)⟩
theorem walk (s0 : Src) (a0 : Option Addr) (c0 : Nat) (a1 a2 : Int) (w : World) (ok0 : s0.tape.length ≤ 140737488355328 → s0.Ok) (rd0 : Rd .u8 w w.heap.size a0 s0.tape.length s0.tape) (lc0 : s0.tape.length ≤ c0) (cm0 : c0 ≤ maxLen) (sl0 : s0.seed.length = 32) (w1 : (Lit.int .u64 a1).wf = true) (w2 : (Lit.int .u8 a2).wf = true) (hkst : Kst w) :
    Calls Tryd.prog 5 #[.agg (srcV s0 a0 c0), .int .u64 a1, .int .u8 a2] w fun e w' => e = .returned (.bool true) ∧ Below w.heap.size w w' := by
  have h1 := bounds_u64 w1
  have h2 := bounds_u8 w2
  by_cases h : s0.tape.length ≤ 500
  · exact main_walk s0 a0 c0 a1 a2 (size_of s0 h ok0) w rd0 lc0 cm0 (by omega) (by omega) (by omega) (by omega) h hkst
  · exact great_walk s0 a0 c0 a1 a2 sl0 w (by omega) hkst


set_option maxRecDepth 100000 in
theorem lifted (os : Os) (started : os.Started) (H : Type) (enc : TypeId × Value → H) :
    ReturnsInHanded {} Tryd.checked os 5 .any (fun w args => (Rows.uniformFirstSpec.pre enc Tryd.prog Tryd.f5 [] false w args ∧ laidMetH Tryd.prog laidK w) ∧ sizedMet enc Tryd.prog Tryd.f5 (OpenSpec.ofChange Rows.uniformFirstSpec) false w args) (Rows.uniformFirstSpec.post enc Tryd.prog Tryd.f5 false true false false) := by
  refine returnsInHanded_of_change_and (C := Tryd.checked) (X := fun w _ => laidMetH Tryd.prog laidK w) (fun _ _ _ hh h => h.of_heap hh) own started (by kernel_rfl) Tryd.func5
    (ChangeSpec.witness_shaped (enc := enc) (C := Tryd.checked) (os := os) (X := fun w _ => laidMetH Tryd.prog laidK w) false (World.doorLaid Tryd.prog 400 os) #[.agg #[.int .i64 0, .slice none 0 0, .int .u64 0, .int .u8 0, .int .u8 0, .int .u8 0, .int .u8 0, .int .u8 0, .int .u8 0, .int .u8 0, .int .u8 0, .int .u8 0, .int .u8 0, .int .u8 0, .int .u8 0, .int .u8 0, .int .u8 0, .int .u8 0, .int .u8 0, .int .u8 0, .int .u8 0, .int .u8 0, .int .u8 0, .int .u8 0, .int .u8 0, .int .u8 0, .int .u8 0, .int .u8 0, .int .u8 0, .int .u8 0, .int .u8 0, .int .u8 0, .int .u8 0, .int .u8 0, .int .u8 0, .int .u64 0, .int .u64 0], .int .u64 0, .int .u8 0] 8 rfl (World.shaped_of_RefB (by kernel_rfl) (by kernel_rfl)) (by kernel_rfl) (by kernel_rfl) (by kernel_rfl) (door_met os _)) ?_
  intro W base args ds gs before hval0 hW _ _ hL _
  have hval : ∀ (j : Nat) t v, Tryd.f5.params[j]? = some t → args[j]? = some v → Value.okWide Tryd.prog W .any base t v := hval0
  have hW' := hW
  obtain ⟨p, q, hA0, hV, rfl, hfz, hnd⟩ := hW
  have hA : DataW.TrodAll enc Tryd.prog W 0 (fun _ => true) true Tryd.f5.params.toList args.toList ds p := hA0
  rw [Tryd.params5] at hA hval
  obtain ⟨v0, vs0, d0, ds0, p0, q0, hargs, rfl, rfl, h0, r0⟩ := trodAll_cons hA
  obtain ⟨v1, vs1, d1, ds1, p1, q1, rfl, rfl, rfl, h1, r1⟩ := trodAll_cons r0
  obtain ⟨v2, vs2, d2, ds2, p2, q2, rfl, rfl, rfl, h2, r2⟩ := trodAll_cons r1
  obtain ⟨rfl, rfl, rfl⟩ := trodAll_nil r2
  obtain rfl : args = #[v0, v1, v2] := by cases args; simp_all
  obtain ⟨rfl, rfl⟩ := trodVars_none hV
  have k0 := h0
  have lt0 : ∀ x ∈ p0, x.block < W.heap.size := by obtain ⟨m, hm⟩ := k0; exact DataW.trod_lt m _ _ _ hm
  obtain ⟨s0, a0, c0, rfl, ok0, rd0, lc0, cm0, sl0⟩ := open_src (hval 0 27 v0 rfl rfl) h0
  obtain ⟨a1, rfl, rfl, rfl, w1⟩ := open_int Tryd.underlying23 (hval 1 23 v1 rfl rfl) h1
  obtain ⟨a2, rfl, rfl, rfl, w2⟩ := open_int Tryd.underlying5 (hval 2 5 v2 rfl rfl) h2
  clear hA0 hval0
  refine (walk s0 a0 c0 a1 a2 W ok0 rd0 lc0 cm0 sl0 w1 w2 (kst_of_laid hL)).mono fun e W' ⟨he, bel⟩ => ?_
  subst he
  exact ⟨_, rfl, _, _, _, [], _, [], hW', trodAll_mk1 (shut_bool Tryd.underlying4 _), (trodAll_cons_mk (Below.trod laidOut (by kernel_rfl) (of_decide_eq_true (by kernel_rfl)) k0 bel lt0) (trodAll_cons_mk (shut_int Tryd.underlying23 w1) (trodAll_cons_mk (shut_int Tryd.underlying5 w2) trodAll_mk0))), rfl, bel.frame _, fun h => by cases h⟩

theorem over : Rows.uniformFirstRow.holds Tryd.pinned (OpenSpec.ofChange Rows.uniformFirstSpec) :=
  OpenClaim.holds_of_wide 5 Tryd.f5 rfl rfl rfl rfl rfl rfl rfl ⟨rfl, rfl, rfl, rfl, rfl⟩ rfl rfl rfl rfl rfl (by kernel_rfl) Tryd.func5 (by kernel_rfl)
    (of_decide_eq_true (by kernel_rfl)) (by unfold Func.isWrapper; first | (rw [if_pos (by decide +kernel)]; kernel_rfl) | (rw [if_neg (by decide +kernel)]; exact ⟨rfl, rfl⟩))
    (fun os started H enc _ => lifted os started H enc)

end Go.Proofs.YtmeefnhmkffdlaaDoor.uniformFirst
namespace Go.Proofs.YtmeefnhmkffdlaaDoor
theorem uniformFirst_holds : Rows.UniformFirstCardSaid :=
  Claim7.holds_tied_plain_at .later [] [.data] true _ false
    uniformFirst.over (fun _ h => by cases h) (by kernel_rfl) (fun _ h => by cases h) uniformFirst_row_tie rfl ⟨rfl, rfl⟩ (by kernel_rfl) rfl
    (fun f fn hf hfn => by
      obtain rfl : f = 5 := Option.some.inj ((show Tryd.prog.funcNamed "drawlot/drawlotlaw08.UniformFirst" = some 5 by kernel_rfl).symm.trans hf) |>.symm
      obtain rfl : fn = Tryd.f5 := (Option.some.inj (Tryd.func5.symm.trans hfn)).symm
      exact ⟨by kernel_rfl, fun j t ht => by
        rw [Tryd.params5] at ht
        have hm : t ∈ [27, 23, 5] := by simpa using Array.mem_of_getElem? ht
        have hall : ([27, 23, 5].all fun u => !Tryd.prog.wantsStandIn u) = true := by kernel_rfl
        exact (show Tryd.prog.wantsStandIn t = false by simpa using List.all_eq_true.1 hall t hm)⟩)
    (by kernel_rfl)
#print axioms uniformFirst_holds
end Go.Proofs.YtmeefnhmkffdlaaDoor

/-
  Bits that are taken in two pieces are those that are taken at once; of up to 62 bits.
  Conditions: the program's table of constants reads, when the call begins, as its text lays it (the card ties that).
-/
import Derived.Test.YtabfgkokilghcaaDoorGd
import Derived.ShutString
import Derived.Test.YtabfgkokilghcaaDoorTie
import Derived.Test.YtabfgkokilghcaaDoorCards
import Derived.SevenTiedAt
import Derived.ChangeOld
namespace Go.Proofs.YtabfgkokilghcaaDoor.tapeTwo
open Go.ChangeShapes Go.WideShapes Go.ChangeAt Go.RowKit
set_option linter.unusedVariables false
set_option linter.unusedSimpArgs false

theorem own : ownKnob Tryd.prog.godebug = none := by kernel_rfl
theorem laidOut : laidOutB Tryd.prog = true := by kernel_rfl

theorem size_of (s : Src) (l : s.tape.length ≤ 500) (ok : s.tape.length ≤ 140737488355328 → s.Ok) : s.Ok := ok (Nat.le_trans l (by decide))
theorem take_u {s : Src} {k : Int} {A : Option Addr} {x e : Int} {X : Src} (hx : takeV s k = x) (hX : takeS s k = X) (he : takeE s k = e) {w w' : World} {en : Ending} (h : RetTake w s k A en w') :
    ∃ A' c', en = .returned (.tuple #[.int .u64 x, .agg (srcV X A' c'), .int .i64 e]) ∧ Rd .u8 w' w'.heap.size A' s.tape.length s.tape ∧ s.tape.length ≤ c' ∧ c' ≤ maxLen ∧ Sep w A A' ∧ Below w.heap.size w w' := by
  subst hx hX he
  exact h
theorem two_no {s : Src} {k n : Nat} (h : takeE s k ≠ 0 ∨ takeE (takeS s k) n ≠ 0) : takeE s ((k : Int) + n) ≠ 0 := by
  intro h0
  obtain ⟨h1, h2, h3, h4⟩ := takeE_ok.1 h0
  have hk : takeE s k = 0 := takeE_ok.2 ⟨h1, by omega, by omega, by omega⟩
  have hs : takeS s k = s.to (s.at_ + k) := by unfold takeS; rw [if_pos hk]
  obtain ⟨r1, r2⟩ := right_to h1 (k : Int) (by omega) (by omega)
  rcases h with h | h
  · exact h hk
  · apply h
    rw [hs]
    exact takeE_ok.2 ⟨r1, by omega, by omega, by omega⟩
theorem two_yes {s : Src} {k n : Nat} (hk1 : k ≤ 31) (hn1 : n ≤ 31) (hk : takeE s k = 0) (hn : takeE (takeS s k) n = 0) : takeE s ((k : Int) + n) = 0 ∧ takeV s ((k : Int) + n) = takeV s k * 2 ^ n + takeV (takeS s k) n ∧ takeS s ((k : Int) + n) = takeS (takeS s k) n := by
  obtain ⟨h1, h2, h3, h4⟩ := takeE_ok.1 hk
  have hs : takeS s k = s.to (s.at_ + k) := by unfold takeS; rw [if_pos hk]
  obtain ⟨r1, r2⟩ := right_to h1 (k : Int) (by omega) (by omega)
  rw [hs] at hn ⊢
  obtain ⟨i1, i2, i3, i4⟩ := takeE_ok.1 hn
  have he : takeE s ((k : Int) + n) = 0 := takeE_ok.2 ⟨h1, by omega, by omega, by omega⟩
  refine ⟨he, ?_, ?_⟩
  · unfold takeV
    rw [if_pos he, if_pos hk, if_pos hn, show ((k : Int) + n).toNat = k + n by omega, Int.toNat_natCast, Int.toNat_natCast, numS_add, numS_to]
    rfl
  · unfold takeS
    rw [if_pos he, if_pos hn]
    show s.to (s.at_ + ((k : Int) + n)) = s.to (s.at_ + k + n)
    rw [Int.add_assoc]
set_option maxHeartbeats 8000000 in
theorem great_walk (s : Src) (A : Option Addr) (c : Nat) (a b : Int) (sl : s.seed.length = 32) (w : World) (mc : s.tape.length ≤ 9223372036854775807) (hg : 500 < s.tape.length) (hkst : Kst w) :
    Calls Tryd.prog 6 #[.agg (srcV s A c), .int .u8 a, .int .u8 b] w fun e w' => e = .returned (.bool true) ∧ Below w.heap.size w w' := by
  have HKS := Lib.hid hkst
  have hgs := fun A c W => great_c s mc A c W
  have HLs := Lib.hid sl
  rw [decide_eq_true hg] at hgs
  have HGS := Lib.hid hgs
  clear hgs hg mc sl hkst
  go_enter Tryd.func6, Tryd.ntmps6
  go_wp2_with (first
    | (with_reducible refine at_any ?_; refine at_dst 3 rfl ?_; refine wpList_box_any rfl 27 (.tmp 0) rfl (srcV s A c) rfl ?_; intro w1 hk1 hs1 hb1; have F1 := Lib.hid (Fx.newB (Fx.bel0 w) hk1.out hb1); clear hk1 hs1 hb1)
    | (go_at_call 7; (with_reducible refine (alive7_c _ (HKS.out.below (Fx.e1 F1.out))).mono ?_); rintro e wa ⟨rfl, hba⟩; have G0 := Lib.hid (F1.out.below hba); clear F1 hba)
    | (with_reducible refine at_any ?_; refine at_dst 22 rfl ?_; refine wpList_load_blk rfl 27 (.tmp 3) rfl w.heap.size rfl 27 (srcV s A c) (Fx.b0 G0.out) _ Tryd.underlying27 rfl (sizedS s HLs.out _ _) ?_)
    | (go_at_call 8; (with_reducible refine (HGS.out A c _).mono ?_); rintro e w51 ⟨rfl, hbw51⟩; have G52 := Lib.hid (Fx.below G0.out hbw51); clear G0; clear hbw51))
  go_ret
  exact ⟨rfl, (Fx.e1 G52.out)⟩
set_option maxHeartbeats 8000000 in
theorem main_walk (s : Src) (A : Option Addr) (c : Nat) (a b : Int) (oks : s.Ok) (w : World) (hrs : Rd .u8 w w.heap.size A s.tape.length s.tape) (lc : s.tape.length ≤ c) (mc : c ≤ maxLen) (a0 : 0 ≤ a) (a1 : a < 256) (b0 : 0 ≤ b) (b1 : b < 256) (hg : ¬ 500 < s.tape.length) (hkst : Kst w) :
    Calls Tryd.prog 6 #[.agg (srcV s A c), .int .u8 a, .int .u8 b] w fun e w' => e = .returned (.bool true) ∧ Below w.heap.size w w' := by
  have HKS := Lib.hid hkst
  have HRS := Lib.hid hrs
  have HLC := Lib.hid lc
  have HMC := Lib.hid mc
  have hgs := fun A c W => great_c s (by omega) A c W
  rw [decide_eq_false hg] at hgs
  have HGS := Lib.hid hgs
  have HLs := Lib.hid oks.sl
  obtain ⟨k, hk⟩ : ∃ k : Nat, a % 32 = (k : Int) := ⟨(a % 32).toNat, by omega⟩
  obtain ⟨n, hn⟩ : ∃ k : Nat, b % 32 = (k : Int) := ⟨(b % 32).toNat, by omega⟩
  have hk1 : k ≤ 31 := by omega
  have hn1 : n ≤ 31 := by omega
  have okX1 := takeS_ok oks (k : Int)
  have okX2 := takeS_ok okX1 (n : Int)
  have okX3 := takeS_ok oks ((k : Int) + n)
  have t1 := takeS_tape s (k : Int)
  have t2 := takeS_tape (takeS s (k : Int)) (n : Int)
  have t3 := takeS_tape s ((k : Int) + n)
  have hno := two_no (s := s) (k := k) (n := n)
  have hyes := two_yes (s := s) (k := k) (n := n) hk1 hn1
  have q1 := fun A c W h1 h2 (h3 : Rd .u8 W W.heap.size A s.tape.length s.tape) (h4 : Kst W) => (qstake_c s oks (k : Int) (by omega) (by omega) A c h1 h2 W h3 h4)
  have q2 := fun A c W h1 h2 h3 (h4 : Kst W) => (qstake_c (takeS s (k : Int)) okX1 (n : Int) (by omega) (by omega) A c h1 h2 W h3 h4)
  have q3 := fun A c W h1 h2 (h3 : Rd .u8 W W.heap.size A s.tape.length s.tape) (h4 : Kst W) => (qstake_c s oks ((k : Int) + n) (by omega) (by omega) A c h1 h2 W h3 h4)
  have xb := numS_in s s.at_ k
  have yb := takeV_in (takeS s (k : Int)) (n : Int)
  have vb := takeV_in s (k : Int)
  obtain ⟨X1, hX1⟩ : ∃ x, takeS s (k : Int) = x := ⟨_, rfl⟩
  rw [hX1] at okX1 okX2 t1 t2 hno hyes q2 yb
  have hr2 : ∀ A c W, s.tape.length ≤ c → c ≤ maxLen → Rd .u8 W W.heap.size A s.tape.length s.tape → Kst W → Calls Tryd.prog 9 #[.agg (srcV X1 A c), .int .i64 n] W (RetTake W X1 n A) := fun A c W h1 h2 h3 h4 => q2 A c W (by rw [t1]; exact h1) h2 (by rw [t1]; exact h3) h4
  obtain ⟨X2, hX2⟩ : ∃ x, takeS X1 (n : Int) = x := ⟨_, rfl⟩
  obtain ⟨X3, hX3⟩ : ∃ x, takeS s ((k : Int) + n) = x := ⟨_, rfl⟩
  obtain ⟨x, hx⟩ : ∃ x, takeV s (k : Int) = x := ⟨_, rfl⟩
  obtain ⟨y, hy⟩ : ∃ x, takeV X1 (n : Int) = x := ⟨_, rfl⟩
  obtain ⟨z, hz⟩ : ∃ x, takeV s ((k : Int) + n) = x := ⟨_, rfl⟩
  obtain ⟨e1, he1⟩ : ∃ x, takeE s (k : Int) = x := ⟨_, rfl⟩
  obtain ⟨e2, he2⟩ : ∃ x, takeE X1 (n : Int) = x := ⟨_, rfl⟩
  obtain ⟨e3, he3⟩ : ∃ x, takeE s ((k : Int) + n) = x := ⟨_, rfl⟩
  have HQ1 := Lib.hid (fun W A c h1 h2 h3 h4 => (q1 A c W h1 h2 h3 h4).mono fun _ _ h => take_u hx hX1 he1 h)
  have hq2 : ∀ W A c, s.tape.length ≤ c → c ≤ maxLen → Rd .u8 W W.heap.size A s.tape.length s.tape → Kst W → Calls Tryd.prog 9 #[.agg (srcV X1 A c), .int .i64 n] W (fun en w' => ∃ A' c', en = .returned (.tuple #[.int .u64 y, .agg (srcV X2 A' c'), .int .i64 e2]) ∧ Rd .u8 w' w'.heap.size A' s.tape.length s.tape ∧ s.tape.length ≤ c' ∧ c' ≤ maxLen ∧ Sep W A A' ∧ Below W.heap.size W w') := fun W A c h1 h2 h3 h4 => (hr2 A c W h1 h2 h3 h4).mono fun en w' h => by
    have h5 := take_u hy hX2 he2 h
    rw [t1] at h5
    exact h5
  have HQ2 := Lib.hid hq2
  have HQ3 := Lib.hid (fun W A c h1 h2 h3 h4 => (q3 A c W h1 h2 h3 h4).mono fun _ _ h => take_u hz hX3 he3 h)
  have hsx := fun A B c d W h1 h2 => rssame_c X2 X3 (by rw [← hX2]; exact okX2) (by rw [← hX3]; exact okX3) A B c d W h1 h2
  rw [hX2] at t2
  rw [hX3] at t3
  rw [t2, t1, t3] at hsx
  rw [he1, he2, he3] at hno
  rw [he1, he2, he3, hx, hy, hz, hX2, hX3] at hyes
  have HLX1 := Lib.hid okX1.sl
  have HLX2 := Lib.hid (show X2.seed.length = 32 by rw [← hX2]; exact okX2.sl)
  have HLX3 := Lib.hid (show X3.seed.length = 32 by rw [← hX3]; exact okX3.sl)
  rw [hx] at vb
  rw [hy] at yb
  have xlt : x < 2147483648 := by
    rw [← hx]
    have p : (2 : Int) ^ k ≤ 2 ^ 31 := by
      have h2 : 2 ^ k ≤ 2 ^ 31 := Nat.pow_le_pow_right (by omega) hk1
      exact_mod_cast h2
    unfold takeV
    split
    · rw [Int.toNat_natCast]; omega
    · omega
  have ylt : y < 2147483648 := by
    have yb2 := numS_in X1 X1.at_ n
    rw [← hy]
    have p : (2 : Int) ^ n ≤ 2 ^ 31 := by
      have h2 : 2 ^ n ≤ 2 ^ 31 := Nat.pow_le_pow_right (by omega) hn1
      exact_mod_cast h2
    unfold takeV
    split
    · rw [Int.toNat_natCast]; omega
    · omega
  have hw1 : IntKind.i64.wrap (k : Int) = k := by rw [IntKind.wrap_i64]; omega
  have hw2 : IntKind.i64.wrap (n : Int) = n := by rw [IntKind.wrap_i64]; omega
  have HZ0 := Lib.hid zero_src
  have HZL := Lib.hid (show Src.zero.seed.length = 32 from rfl)
  have v0 := vb.1
  have y0 := yb.1
  clear hgs q1 q2 q3 hq2 hr2 xb yb vb okX1 okX2 okX3 t1 t2 t3 hX1 hX2 hX3 hx hy hz he1 he2 he3 hrs hkst oks hg
  by_cases hbad : e1 ≠ 0 ∨ e2 ≠ 0
  · have u3 : (e3 != 0) = true := by rw [bne_iff_ne]; exact hno hbad
    have hcase : (e1 != 0) = true ∨ ((e1 != 0) = false ∧ (e2 != 0) = true) := by
      by_cases h1 : e1 = 0
      · refine .inr ⟨by rw [bne_eq_false_iff_eq]; exact h1, ?_⟩
        rw [bne_iff_ne]
        rcases hbad with h | h
        · exact absurd h1 h
        · exact h
      · exact .inl (by rw [bne_iff_ne]; exact h1)
    clear hno hyes hbad hsx
    rcases hcase with u1 | ⟨u1, u2⟩
    all_goals
      go_enter Tryd.func6, Tryd.ntmps6
      go_wp2_with (first
        | (with_reducible refine at_any ?_; refine at_dst 3 rfl ?_; refine wpList_box_any rfl 27 (.tmp 0) rfl (srcV s A c) rfl ?_; intro w1 hk1 hs1 hb1; have F1 := Lib.hid (Fx.newB (Fx.bel0 w) hk1.out hb1); clear hk1 hs1 hb1)
        | (go_at_call 7; (with_reducible refine (alive7_c _ (HKS.out.below (Fx.e1 F1.out))).mono ?_); rintro e wa ⟨rfl, hba⟩; have G0 := Lib.hid (F1.out.below hba); clear F1 hba)
        | (with_reducible refine at_any ?_; refine at_dst 22 rfl ?_; refine wpList_load_blk rfl 27 (.tmp 3) rfl w.heap.size rfl 27 (srcV s A c) (Fx.b0 G0.out) _ Tryd.underlying27 rfl (sizedS s HLs.out _ _) ?_)
        | (go_at_call 8; (with_reducible refine (HGS.out A c _).mono ?_); rintro e w51 ⟨rfl, hbw51⟩; have G52 := Lib.hid (Fx.below G0.out hbw51); clear G0; clear hbw51)
        | (with_reducible refine at_any ?_; refine at_dst 31 rfl ?_; refine wpList_load_blk rfl 27 (.tmp 3) rfl w.heap.size rfl 27 (srcV s A c) (Fx.b0 G52.out) _ Tryd.underlying27 rfl (sizedS s HLs.out _ _) ?_)
        | (go_at_call 9; (with_reducible refine (HQ1.out _ A c HLC.out HMC.out ((HRS.out.below (Fx.e1 G52.out)).mono (Below.size (Fx.e1 G52.out))) (HKS.out.below (Fx.e1 G52.out))).mono ?_); rintro e w53 ⟨A54, c55, rfl, hrw53, hlw53, hmw53, _, hbw53⟩; have lc55 := Lib.hid hlw53; have mc55 := Lib.hid hmw53; have G56 := Lib.hid (Fx.addR G52.out hbw53 hrw53); clear G52; clear hrw53 hbw53 hlw53 hmw53)
        | (with_reducible refine at_any ?_; refine at_dst 10 rfl ?_; refine wpList_alloc_any rfl 27 rfl (srcV Src.zero none 0) HZ0.out ?_; intro w57 hkw57 hsw57 hbw57; have U58 := Lib.hid (Fx.under_new G56.out rfl); have G59 := Lib.hid (Fx.newB G56.out hkw57.out hbw57); clear G56; clear hkw57 hsw57 hbw57)
        | (with_reducible refine at_any ?_; refine at_store 10 rfl ?_; refine wpList_store_any rfl 27 (.tmp 10) (.tmp 35) rfl w53.heap.size rfl 27 (srcV Src.zero none 0) (srcV X1 A54 c55) (Fx.b0 G59.out) rfl (srcV_same _ X1 HZL.out HLX1.out _ _ _ _) (sizedS X1 HLX1.out _ _) (srcV_ones _ _ _) ?_; intro w60 hkw60 hsw60 hbw60 how60; have G61 := Lib.hid (Fx.put1B G59.out U58.out hkw60.out hsw60.out hbw60 how60); clear G59; clear hkw60 hsw60 hbw60 how60)
        | (with_reducible refine at_any ?_; refine at_dst 38 rfl ?_; refine wpList_load_blk rfl 27 (.tmp 10) rfl w53.heap.size rfl 27 (srcV X1 A54 c55) (Fx.b0 G61.out) _ Tryd.underlying27 rfl (sizedS X1 HLX1.out _ _) ?_)
        | (go_at_call 9; (with_reducible refine (HQ2.out _ A54 c55 lc55.out mc55.out (Fx.r1 G61.out) (HKS.out.below (Fx.e3 G61.out))).mono ?_); rintro e w62 ⟨A63, c64, rfl, hrw62, hlw62, hmw62, _, hbw62⟩; have lc64 := Lib.hid hlw62; have mc64 := Lib.hid hmw62; have G65 := Lib.hid (Fx.addR G61.out hbw62 hrw62); clear G61; clear hrw62 hbw62 hlw62 hmw62)
        | (with_reducible refine at_any ?_; refine at_dst 13 rfl ?_; refine wpList_alloc_any rfl 27 rfl (srcV Src.zero none 0) HZ0.out ?_; intro w66 hkw66 hsw66 hbw66; have U67 := Lib.hid (Fx.under_new G65.out rfl); have G68 := Lib.hid (Fx.newB G65.out hkw66.out hbw66); clear G65; clear hkw66 hsw66 hbw66)
        | (with_reducible refine at_any ?_; refine at_store 13 rfl ?_; refine wpList_store_any rfl 27 (.tmp 13) (.tmp 42) rfl w62.heap.size rfl 27 (srcV Src.zero none 0) (srcV X2 A63 c64) (Fx.b0 G68.out) rfl (srcV_same _ X2 HZL.out HLX2.out _ _ _ _) (sizedS X2 HLX2.out _ _) (srcV_ones _ _ _) ?_; intro w69 hkw69 hsw69 hbw69 how69; have G70 := Lib.hid (Fx.put1B G68.out U67.out hkw69.out hsw69.out hbw69 how69); clear G68; clear hkw69 hsw69 hbw69 how69)
        | (with_reducible refine at_any ?_; refine at_dst 45 rfl ?_; refine wpList_load_blk rfl 27 (.tmp 3) rfl w.heap.size rfl 27 (srcV s A c) (Fx.b4 G70.out) _ Tryd.underlying27 rfl (sizedS s HLs.out _ _) ?_)
        | (go_at_call 9; (with_reducible refine (HQ3.out _ A c HLC.out HMC.out ((HRS.out.below (Fx.e5 G70.out)).mono (Below.size (Fx.e5 G70.out))) (HKS.out.below (Fx.e5 G70.out))).mono ?_); rintro e w71 ⟨A72, c73, rfl, hrw71, hlw71, hmw71, _, hbw71⟩; have lc73 := Lib.hid hlw71; have mc73 := Lib.hid hmw71; have G74 := Lib.hid (Fx.addR G70.out hbw71 hrw71); clear G70; clear hrw71 hbw71 hlw71 hmw71)
        | (with_reducible refine at_any ?_; refine at_dst 16 rfl ?_; refine wpList_alloc_any rfl 27 rfl (srcV Src.zero none 0) HZ0.out ?_; intro w75 hkw75 hsw75 hbw75; have U76 := Lib.hid (Fx.under_new G74.out rfl); have G77 := Lib.hid (Fx.newB G74.out hkw75.out hbw75); clear G74; clear hkw75 hsw75 hbw75)
        | (with_reducible refine at_any ?_; refine at_store 16 rfl ?_; refine wpList_store_any rfl 27 (.tmp 16) (.tmp 51) rfl w71.heap.size rfl 27 (srcV Src.zero none 0) (srcV X3 A72 c73) (Fx.b0 G77.out) rfl (srcV_same _ X3 HZL.out HLX3.out _ _ _ _) (sizedS X3 HLX3.out _ _) (srcV_ones _ _ _) ?_; intro w78 hkw78 hsw78 hbw78 how78; have G79 := Lib.hid (Fx.put1B G77.out U76.out hkw78.out hsw78.out hbw78 how78); clear G77; clear hkw78 hsw78 hbw78 how78))
      go_ret
      exact ⟨rfl, (Fx.e7 G79.out)⟩
  · have z1 : e1 = 0 := Decidable.byContradiction fun h => hbad (.inl h)
    have z2 : e2 = 0 := Decidable.byContradiction fun h => hbad (.inr h)
    obtain ⟨z3, hv, hXX⟩ := hyes z1 z2
    have hss : sameS X2 X3 = true := by rw [hXX]; exact sameS_refl _
    rw [hss] at hsx
    have HSX := Lib.hid hsx
    subst z1 z2 z3
    have HPW := Lib.hid (fun (i : Nat) (h : i ≤ 31) => (show (2 : Int) ^ i ≤ 2147483648 by
      have p : (2 : Int) ^ i ≤ 2 ^ 31 := by
        have h2 : 2 ^ i ≤ 2 ^ 31 := Nat.pow_le_pow_right (by omega) h
        exact_mod_cast h2
      omega))
    have HV := Lib.hid hv
    clear hno hyes hbad hsx hv hss hXX
    go_enter Tryd.func6, Tryd.ntmps6
    go_wp2_with (first
      | (with_reducible refine at_any ?_; refine at_dst 3 rfl ?_; refine wpList_box_any rfl 27 (.tmp 0) rfl (srcV s A c) rfl ?_; intro w1 hk1 hs1 hb1; have F1 := Lib.hid (Fx.newB (Fx.bel0 w) hk1.out hb1); clear hk1 hs1 hb1)
      | (go_at_call 7; (with_reducible refine (alive7_c _ (HKS.out.below (Fx.e1 F1.out))).mono ?_); rintro e wa ⟨rfl, hba⟩; have G0 := Lib.hid (F1.out.below hba); clear F1 hba)
      | (with_reducible refine at_any ?_; refine at_dst 22 rfl ?_; refine wpList_load_blk rfl 27 (.tmp 3) rfl w.heap.size rfl 27 (srcV s A c) (Fx.b0 G0.out) _ Tryd.underlying27 rfl (sizedS s HLs.out _ _) ?_)
      | (go_at_call 8; (with_reducible refine (HGS.out A c _).mono ?_); rintro e w51 ⟨rfl, hbw51⟩; have G52 := Lib.hid (Fx.below G0.out hbw51); clear G0; clear hbw51)
      | (with_reducible refine at_any ?_; refine at_dst 31 rfl ?_; refine wpList_load_blk rfl 27 (.tmp 3) rfl w.heap.size rfl 27 (srcV s A c) (Fx.b0 G52.out) _ Tryd.underlying27 rfl (sizedS s HLs.out _ _) ?_)
      | (go_at_call 9; (with_reducible refine (HQ1.out _ A c HLC.out HMC.out ((HRS.out.below (Fx.e1 G52.out)).mono (Below.size (Fx.e1 G52.out))) (HKS.out.below (Fx.e1 G52.out))).mono ?_); rintro e w53 ⟨A54, c55, rfl, hrw53, hlw53, hmw53, _, hbw53⟩; have lc55 := Lib.hid hlw53; have mc55 := Lib.hid hmw53; have G56 := Lib.hid (Fx.addR G52.out hbw53 hrw53); clear G52; clear hrw53 hbw53 hlw53 hmw53)
      | (with_reducible refine at_any ?_; refine at_dst 10 rfl ?_; refine wpList_alloc_any rfl 27 rfl (srcV Src.zero none 0) HZ0.out ?_; intro w57 hkw57 hsw57 hbw57; have U58 := Lib.hid (Fx.under_new G56.out rfl); have G59 := Lib.hid (Fx.newB G56.out hkw57.out hbw57); clear G56; clear hkw57 hsw57 hbw57)
      | (with_reducible refine at_any ?_; refine at_store 10 rfl ?_; refine wpList_store_any rfl 27 (.tmp 10) (.tmp 35) rfl w53.heap.size rfl 27 (srcV Src.zero none 0) (srcV X1 A54 c55) (Fx.b0 G59.out) rfl (srcV_same _ X1 HZL.out HLX1.out _ _ _ _) (sizedS X1 HLX1.out _ _) (srcV_ones _ _ _) ?_; intro w60 hkw60 hsw60 hbw60 how60; have G61 := Lib.hid (Fx.put1B G59.out U58.out hkw60.out hsw60.out hbw60 how60); clear G59; clear hkw60 hsw60 hbw60 how60)
      | (with_reducible refine at_any ?_; refine at_dst 38 rfl ?_; refine wpList_load_blk rfl 27 (.tmp 10) rfl w53.heap.size rfl 27 (srcV X1 A54 c55) (Fx.b0 G61.out) _ Tryd.underlying27 rfl (sizedS X1 HLX1.out _ _) ?_)
      | (go_at_call 9; (with_reducible refine (HQ2.out _ A54 c55 lc55.out mc55.out (Fx.r1 G61.out) (HKS.out.below (Fx.e3 G61.out))).mono ?_); rintro e w62 ⟨A63, c64, rfl, hrw62, hlw62, hmw62, _, hbw62⟩; have lc64 := Lib.hid hlw62; have mc64 := Lib.hid hmw62; have G65 := Lib.hid (Fx.addR G61.out hbw62 hrw62); clear G61; clear hrw62 hbw62 hlw62 hmw62)
      | (with_reducible refine at_any ?_; refine at_dst 13 rfl ?_; refine wpList_alloc_any rfl 27 rfl (srcV Src.zero none 0) HZ0.out ?_; intro w66 hkw66 hsw66 hbw66; have U67 := Lib.hid (Fx.under_new G65.out rfl); have G68 := Lib.hid (Fx.newB G65.out hkw66.out hbw66); clear G65; clear hkw66 hsw66 hbw66)
      | (with_reducible refine at_any ?_; refine at_store 13 rfl ?_; refine wpList_store_any rfl 27 (.tmp 13) (.tmp 42) rfl w62.heap.size rfl 27 (srcV Src.zero none 0) (srcV X2 A63 c64) (Fx.b0 G68.out) rfl (srcV_same _ X2 HZL.out HLX2.out _ _ _ _) (sizedS X2 HLX2.out _ _) (srcV_ones _ _ _) ?_; intro w69 hkw69 hsw69 hbw69 how69; have G70 := Lib.hid (Fx.put1B G68.out U67.out hkw69.out hsw69.out hbw69 how69); clear G68; clear hkw69 hsw69 hbw69 how69)
      | (with_reducible refine at_any ?_; refine at_dst 45 rfl ?_; refine wpList_load_blk rfl 27 (.tmp 3) rfl w.heap.size rfl 27 (srcV s A c) (Fx.b4 G70.out) _ Tryd.underlying27 rfl (sizedS s HLs.out _ _) ?_)
      | (go_at_call 9; (with_reducible refine (HQ3.out _ A c HLC.out HMC.out ((HRS.out.below (Fx.e5 G70.out)).mono (Below.size (Fx.e5 G70.out))) (HKS.out.below (Fx.e5 G70.out))).mono ?_); rintro e w71 ⟨A72, c73, rfl, hrw71, hlw71, hmw71, _, hbw71⟩; have lc73 := Lib.hid hlw71; have mc73 := Lib.hid hmw71; have G74 := Lib.hid (Fx.addR G70.out hbw71 hrw71); clear G70; clear hrw71 hbw71 hlw71 hmw71)
      | (with_reducible refine at_any ?_; refine at_dst 16 rfl ?_; refine wpList_alloc_any rfl 27 rfl (srcV Src.zero none 0) HZ0.out ?_; intro w75 hkw75 hsw75 hbw75; have U76 := Lib.hid (Fx.under_new G74.out rfl); have G77 := Lib.hid (Fx.newB G74.out hkw75.out hbw75); clear G74; clear hkw75 hsw75 hbw75)
      | (with_reducible refine at_any ?_; refine at_store 16 rfl ?_; refine wpList_store_any rfl 27 (.tmp 16) (.tmp 51) rfl w71.heap.size rfl 27 (srcV Src.zero none 0) (srcV X3 A72 c73) (Fx.b0 G77.out) rfl (srcV_same _ X3 HZL.out HLX3.out _ _ _ _) (sizedS X3 HLX3.out _ _) (srcV_ones _ _ _) ?_; intro w78 hkw78 hsw78 hbw78 how78; have G79 := Lib.hid (Fx.put1B G77.out U76.out hkw78.out hsw78.out hbw78 how78); clear G77; clear hkw78 hsw78 hbw78 how78))
    have HF := Lib.hid G79.out
    clear G79
    go_loop [18, 19] (fun p v => ∃ i : Nat, i ≤ n ∧ p = .int .u64 (2 ^ i) ∧ v = .int .i64 i) (fun _ v => n - (intOf v).toNat)
    case atStart => exact ⟨0, by omega, rfl, rfl⟩
    case round =>
      obtain ⟨i, hi, rfl, rfl⟩ := hrel
      by_cases hlt : i < n
      · have p0 := Wd.pow_pos2 i
        have p1 := HPW.out i (by omega)
        have e := pow2_next i
        have HE := Lib.hid e
        clear e
        obtain ⟨p, hp⟩ : ∃ p : Int, 2 ^ i = p := ⟨_, rfl⟩
        rw [hp] at p0 p1 HE ⊢
        go_wp2
        go_round
        case rel => exact ⟨i + 1, by omega, by rw [← HE.out], by go_num⟩
        case measure => simp [intOf]; omega
      · obtain rfl : i = n := by omega
        have p0 := Wd.pow_pos2 i
        have p1 := HPW.out i hn1
        have hv := HV.out
        obtain ⟨p, hp⟩ : ∃ p : Int, 2 ^ i = p := ⟨_, rfl⟩
        rw [hp] at p0 p1 hv ⊢
        have m0 : 0 ≤ x * p := Int.mul_nonneg v0 (by omega)
        have m1 : x * p < 4611686018427387905 := by
          have h1 : x * p ≤ 2147483648 * p := Int.mul_le_mul_of_nonneg_right (by omega) (by omega)
          omega
        have w3 : IntKind.u64.wrap (x * p) = x * p := by rw [IntKind.wrap_u64]; omega
        have w4 : IntKind.u64.wrap (x * p + y) = z := by rw [← hv, IntKind.wrap_u64] <;> omega
        have w5 : IntKind.u64.wrap z = z := by rw [IntKind.wrap_u64]; omega
        have w6 : x * p + y = z := hv.symm
        clear hv hp HV HPW
        go_wp2_with (first
        | (with_reducible refine at_any ?_; refine at_dst 80 rfl ?_; refine wpList_load_gdb (by kernel_rfl) 27 (.tmp 13) rfl w62.heap.size rfl 27 (srcV X2 A63 c64) (Fx.b2 HF.out) _ Tryd.underlying27 rfl (sizedS X2 HLX2.out _ _) ?_)
        | (with_reducible refine at_any ?_; refine at_dst 81 rfl ?_; refine wpList_load_gdb (by kernel_rfl) 27 (.tmp 16) rfl w71.heap.size rfl 27 (srcV X3 A72 c73) (Fx.b0 HF.out) _ Tryd.underlying27 rfl (sizedS X3 HLX3.out _ _) ?_)
        | (go_at_call 11; (with_reducible refine (HSX.out A63 A72 c64 c73 _ (Fx.r3 HF.out) (Fx.r1 HF.out)).mono ?_); rintro e w121 ⟨rfl, hbw121⟩; have G122 := Lib.hid (Fx.below HF.out hbw121); clear HF; clear hbw121))
        go_ret
        exact ⟨rfl, (Fx.e7 G122.out)⟩
theorem walk (s0 : Src) (a0 : Option Addr) (c0 : Nat) (a1 a2 : Int) (w : World) (ok0 : s0.tape.length ≤ 140737488355328 → s0.Ok) (rd0 : Rd .u8 w w.heap.size a0 s0.tape.length s0.tape) (lc0 : s0.tape.length ≤ c0) (cm0 : c0 ≤ maxLen) (sl0 : s0.seed.length = 32) (w1 : (Lit.int .u8 a1).wf = true) (w2 : (Lit.int .u8 a2).wf = true) (hkst : Kst w) :
    Calls Tryd.prog 6 #[.agg (srcV s0 a0 c0), .int .u8 a1, .int .u8 a2] w fun e w' => e = .returned (.bool true) ∧ Below w.heap.size w w' := by
  have h1 := bounds_u8 w1
  have h2 := bounds_u8 w2
  have m0 : s0.tape.length ≤ 9223372036854775807 := by unfold maxLen at cm0; omega
  by_cases h : 500 < s0.tape.length
  · exact great_walk s0 a0 c0 a1 a2 sl0 w m0 h hkst
  · exact main_walk s0 a0 c0 a1 a2 (size_of s0 (by omega) ok0) w rd0 lc0 cm0 (by omega) (by omega) (by omega) (by omega) h hkst


set_option maxRecDepth 100000 in
theorem lifted (os : Os) (started : os.Started) (H : Type) (enc : TypeId × Value → H) :
    ReturnsInHanded {} Tryd.checked os 6 .any (fun w args => (Rows.tapeTwoSpec.pre enc Tryd.prog Tryd.f6 [] false w args ∧ laidMetH Tryd.prog laidK w) ∧ sizedMet enc Tryd.prog Tryd.f6 (OpenSpec.ofChange Rows.tapeTwoSpec) false w args) (Rows.tapeTwoSpec.post enc Tryd.prog Tryd.f6 false true false false) := by
  refine returnsInHanded_of_change_and (C := Tryd.checked) (X := fun w _ => laidMetH Tryd.prog laidK w) (fun _ _ _ hh h => h.of_heap hh) own started (by kernel_rfl) Tryd.func6
    (ChangeSpec.witness_shaped (enc := enc) (C := Tryd.checked) (os := os) (X := fun w _ => laidMetH Tryd.prog laidK w) false (World.doorLaid Tryd.prog 400 os) #[.agg #[.int .i64 0, .slice none 0 0, .int .u64 0, .int .u8 0, .int .u8 0, .int .u8 0, .int .u8 0, .int .u8 0, .int .u8 0, .int .u8 0, .int .u8 0, .int .u8 0, .int .u8 0, .int .u8 0, .int .u8 0, .int .u8 0, .int .u8 0, .int .u8 0, .int .u8 0, .int .u8 0, .int .u8 0, .int .u8 0, .int .u8 0, .int .u8 0, .int .u8 0, .int .u8 0, .int .u8 0, .int .u8 0, .int .u8 0, .int .u8 0, .int .u8 0, .int .u8 0, .int .u8 0, .int .u8 0, .int .u8 0, .int .u64 0, .int .u64 0], .int .u8 0, .int .u8 0] 8 rfl (World.shaped_of_RefB (by kernel_rfl) (by kernel_rfl)) (by kernel_rfl) (by kernel_rfl) (by kernel_rfl) (door_met os _)) ?_
  intro W base args ds gs before hval0 hW _ _ hL _
  have hval : ∀ (j : Nat) t v, Tryd.f6.params[j]? = some t → args[j]? = some v → Value.okWide Tryd.prog W .any base t v := hval0
  have hW' := hW
  obtain ⟨p, q, hA0, hV, rfl, hfz, hnd⟩ := hW
  have hA : DataW.TrodAll enc Tryd.prog W 0 (fun _ => true) true Tryd.f6.params.toList args.toList ds p := hA0
  rw [Tryd.params6] at hA hval
  obtain ⟨v0, vs0, d0, ds0, p0, q0, hargs, rfl, rfl, h0, r0⟩ := trodAll_cons hA
  obtain ⟨v1, vs1, d1, ds1, p1, q1, rfl, rfl, rfl, h1, r1⟩ := trodAll_cons r0
  obtain ⟨v2, vs2, d2, ds2, p2, q2, rfl, rfl, rfl, h2, r2⟩ := trodAll_cons r1
  obtain ⟨rfl, rfl, rfl⟩ := trodAll_nil r2
  obtain rfl : args = #[v0, v1, v2] := by cases args; simp_all
  obtain ⟨rfl, rfl⟩ := trodVars_none hV
  have k0 := h0
  have lt0 : ∀ x ∈ p0, x.block < W.heap.size := by obtain ⟨m, hm⟩ := k0; exact DataW.trod_lt m _ _ _ hm
  obtain ⟨s0, a0, c0, rfl, ok0, rd0, lc0, cm0, sl0⟩ := open_src (hval 0 27 v0 rfl rfl) h0
  obtain ⟨a1, rfl, rfl, rfl, w1⟩ := open_int Tryd.underlying5 (hval 1 5 v1 rfl rfl) h1
  obtain ⟨a2, rfl, rfl, rfl, w2⟩ := open_int Tryd.underlying5 (hval 2 5 v2 rfl rfl) h2
  clear hA0 hval0
  refine (walk s0 a0 c0 a1 a2 W ok0 rd0 lc0 cm0 sl0 w1 w2 (kst_of_laid hL)).mono fun e W' ⟨he, bel⟩ => ?_
  subst he
  exact ⟨_, rfl, _, _, _, [], _, [], hW', trodAll_mk1 (shut_bool Tryd.underlying4 _), (trodAll_cons_mk (Below.trod laidOut (by kernel_rfl) (of_decide_eq_true (by kernel_rfl)) k0 bel lt0) (trodAll_cons_mk (shut_int Tryd.underlying5 w1) (trodAll_cons_mk (shut_int Tryd.underlying5 w2) trodAll_mk0))), rfl, bel.frame _, fun h => by cases h⟩

theorem over : Rows.tapeTwoRow.holds Tryd.pinned (OpenSpec.ofChange Rows.tapeTwoSpec) :=
  OpenClaim.holds_of_wide 6 Tryd.f6 rfl rfl rfl rfl rfl rfl rfl ⟨rfl, rfl, rfl, rfl, rfl⟩ rfl rfl rfl rfl rfl (by kernel_rfl) Tryd.func6 (by kernel_rfl)
    (of_decide_eq_true (by kernel_rfl)) (by unfold Func.isWrapper; first | (rw [if_pos (by decide +kernel)]; kernel_rfl) | (rw [if_neg (by decide +kernel)]; exact ⟨rfl, rfl⟩))
    (fun os started H enc _ => lifted os started H enc)

end Go.Proofs.YtabfgkokilghcaaDoor.tapeTwo
namespace Go.Proofs.YtabfgkokilghcaaDoor
theorem tapeTwo_holds : Rows.TapeTwoCardSaid :=
  Claim7.holds_tied_plain_at .later [] [.data] true _ false
    tapeTwo.over (fun _ h => by cases h) (by kernel_rfl) (fun _ h => by cases h) tapeTwo_row_tie rfl ⟨rfl, rfl⟩ (by kernel_rfl) rfl
    (fun f fn hf hfn => by
      obtain rfl : f = 6 := Option.some.inj ((show Tryd.prog.funcNamed "drawlot/drawlotlaw07.TapeTwo" = some 6 by kernel_rfl).symm.trans hf) |>.symm
      obtain rfl : fn = Tryd.f6 := (Option.some.inj (Tryd.func6.symm.trans hfn)).symm
      exact ⟨by kernel_rfl, fun j t ht => by
        rw [Tryd.params6] at ht
        have hm : t ∈ [27, 5, 5] := by simpa using Array.mem_of_getElem? ht
        have hall : ([27, 5, 5].all fun u => !Tryd.prog.wantsStandIn u) = true := by kernel_rfl
        exact (show Tryd.prog.wantsStandIn t = false by simpa using List.all_eq_true.1 hall t hm)⟩)
    (by kernel_rfl)
#print axioms tapeTwo_holds
end Go.Proofs.YtabfgkokilghcaaDoor

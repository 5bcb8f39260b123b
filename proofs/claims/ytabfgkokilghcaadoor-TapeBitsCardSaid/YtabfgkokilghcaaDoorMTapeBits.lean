/-
  Bits that are taken at once are those that are taken one by one; of up to 64 bits.
  Conditions: the program's table of constants reads, when the call begins, as its text lays it (the card ties that).
-/
import Derived.Test.YtabfgkokilghcaaDoorGd
import Derived.ShutString
import Derived.Test.YtabfgkokilghcaaDoorTie
import Derived.Test.YtabfgkokilghcaaDoorCards
import Derived.SevenTiedAt
import Derived.ChangeOld
namespace Go.Proofs.YtabfgkokilghcaaDoor.tapeBits
open Go.ChangeShapes Go.WideShapes Go.ChangeAt Go.RowKit
set_option linter.unusedVariables false
set_option linter.unusedSimpArgs false

theorem own : ownKnob Tryd.prog.godebug = none := by kernel_rfl
theorem laidOut : laidOutB Tryd.prog = true := by kernel_rfl

theorem size_of (s : Src) (l : s.tape.length ≤ 500) (ok : s.tape.length ≤ 140737488355328 → s.Ok) : s.Ok := ok (Nat.le_trans l (by decide))
theorem take_u {s : Src} {k : Int} {A : Option Addr} {x e : Int} {X : Src} (hx : takeV s k = x) (hX : takeS s k = X) (he : takeE s k = e) {w w' : World} {en : Ending} (h : RetTake w s k A en w') :
    ∃ A' c', en = .returned (.tuple #[.int .u64 x, .agg (srcV X A' c'), .int .i64 e]) ∧ Rd .u8 w' w'.heap.size A' s.tape.length s.tape ∧ s.tape.length ≤ c' ∧ c' ≤ maxLen ∧ Sep w A A' ∧ Below w.heap.size w w' := by
  subst hx hX he
  exact h
theorem Fx.lt0 {l : List Fact} {w : World} {g : Nat} {t : TypeId} {cs : Array Value} (h : Fx (.blk g t cs :: l) w) : g < w.heap.size := Blk.lt h.1
/-- One bit more. -/
theorem take_one {s : Src} {N i : Nat} (hE : takeE s N = 0) (hi : i < N) : takeE (s.to (s.at_ + i)) 1 = 0 ∧ takeV (s.to (s.at_ + i)) 1 = bitS s (s.at_ + i) ∧ takeS (s.to (s.at_ + i)) 1 = s.to (s.at_ + (i + 1 : Nat)) ∧ leftS (s.to (s.at_ + (i + 1 : Nat))) = leftS (s.to (s.at_ + i)) - 1 ∧ 1 ≤ leftS (s.to (s.at_ + i)) := by
  obtain ⟨h1, h2, h3, h4⟩ := takeE_ok.1 hE
  obtain ⟨r1, r2⟩ := right_to h1 (i : Int) (by omega) (by omega)
  obtain ⟨r3, r4⟩ := right_to h1 ((i + 1 : Nat) : Int) (by omega) (by omega)
  have he : takeE (s.to (s.at_ + i)) 1 = 0 := takeE_ok.2 ⟨r1, by omega, by omega, by omega⟩
  refine ⟨he, ?_, ?_, by omega, by omega⟩
  · unfold takeV
    rw [if_pos he]
    show 2 * 0 + bitS (s.to (s.at_ + i)) (s.at_ + i + ((0 : Nat) : Int)) = _
    rw [bitS_to, Int.natCast_zero, Int.add_zero, Int.mul_zero, Int.zero_add]
  · unfold takeS
    rw [if_pos he]
    show s.to (s.at_ + i + 1) = _
    rw [show s.at_ + (i : Int) + 1 = s.at_ + ((i + 1 : Nat) : Int) by omega]
set_option maxHeartbeats 8000000 in
theorem great_walk (s : Src) (A : Option Addr) (c : Nat) (a : Int) (sl : s.seed.length = 32) (w : World) (mc : s.tape.length ≤ 9223372036854775807) (hg : 500 < s.tape.length) (hkst : Kst w) :
    Calls Tryd.prog 5 #[.agg (srcV s A c), .int .u8 a] w fun e w' => e = .returned (.bool true) ∧ Below w.heap.size w w' := by
  have HKS := Lib.hid hkst
  have hgs := fun A c W => great_c s mc A c W
  have HLs := Lib.hid sl
  rw [decide_eq_true hg] at hgs
  have HGS := Lib.hid hgs
  clear hgs hg mc sl hkst
  go_enter Tryd.func5, Tryd.ntmps5
  go_wp2_with (first
    | (with_reducible refine at_any ?_; refine at_dst 2 rfl ?_; refine wpList_box_any rfl 27 (.tmp 0) rfl (srcV s A c) rfl ?_; intro w1 hk1 hs1 hb1; have F1 := Lib.hid (Fx.newB (Fx.bel0 w) hk1.out hb1); clear hk1 hs1 hb1)
    | (go_at_call 7; (with_reducible refine (alive7_c _ (HKS.out.below (Fx.e1 F1.out))).mono ?_); rintro e wa ⟨rfl, hba⟩; have G0 := Lib.hid (F1.out.below hba); clear F1 hba)
    | (with_reducible refine at_any ?_; refine at_dst 20 rfl ?_; refine wpList_load_blk rfl 27 (.tmp 2) rfl w.heap.size rfl 27 (srcV s A c) (Fx.b0 G0.out) _ Tryd.underlying27 rfl (sizedS s HLs.out _ _) ?_)
    | (go_at_call 8; (with_reducible refine (HGS.out A c _).mono ?_); rintro e w51 ⟨rfl, hbw51⟩; have G52 := Lib.hid (Fx.below G0.out hbw51); clear G0; clear hbw51))
  go_ret
  exact ⟨rfl, (Fx.e1 G52.out)⟩
set_option maxHeartbeats 16000000 in
theorem main_walk (s : Src) (A : Option Addr) (c : Nat) (a : Int) (oks : s.Ok) (w : World) (hrs : Rd .u8 w w.heap.size A s.tape.length s.tape) (lc : s.tape.length ≤ c) (mc : c ≤ maxLen) (a0 : 0 ≤ a) (a1 : a < 256) (hg : ¬ 500 < s.tape.length) (hkst : Kst w) :
    Calls Tryd.prog 5 #[.agg (srcV s A c), .int .u8 a] w fun e w' => e = .returned (.bool true) ∧ Below w.heap.size w w' := by
  have HKS := Lib.hid hkst
  have HRS := Lib.hid hrs
  have HLC := Lib.hid lc
  have HMC := Lib.hid mc
  have hgs := fun A c W => great_c s (by omega) A c W
  rw [decide_eq_false hg] at hgs
  have HGS := Lib.hid hgs
  have HLs := Lib.hid oks.sl
  obtain ⟨N, hN⟩ : ∃ k : Nat, a % 65 = (k : Int) := ⟨(a % 65).toNat, by omega⟩
  have hN1 : N ≤ 64 := by omega
  have okX := takeS_ok oks (N : Int)
  have tX := takeS_tape s (N : Int)
  have q1 := fun W A c h1 h2 (h3 : Rd .u8 W W.heap.size A s.tape.length s.tape) (h4 : Kst W) => (qstake_c s oks (N : Int) (by omega) (by omega) A c h1 h2 W h3 h4)
  have hw1 : IntKind.i64.wrap (N : Int) = N := by rw [IntKind.wrap_i64]; omega
  have HZ0 := Lib.hid zero_src
  have HZL := Lib.hid (show Src.zero.seed.length = 32 from rfl)
  clear hgs hrs hkst hg
  by_cases hE : takeE s (N : Int) = 0
  · have hv : takeV s (N : Int) = numS s s.at_ N := by unfold takeV; rw [if_pos hE, Int.toNat_natCast]
    have hs : takeS s (N : Int) = s.to (s.at_ + N) := by unfold takeS; rw [if_pos hE]
    have HQ := Lib.hid (fun W A c h1 h2 h3 h4 => (q1 W A c h1 h2 h3 h4).mono fun _ _ h => take_u hv hs hE h)
    rw [hs] at okX tX
    have hsame := fun A B c d W h1 h2 => rssame_c (s.to (s.at_ + N)) (s.to (s.at_ + N)) okX okX A B c d W h1 h2
    rw [sameS_refl] at hsame
    change ∀ A B c d W, Rd .u8 W W.heap.size A s.tape.length s.tape → Rd .u8 W W.heap.size B s.tape.length s.tape → _ at hsame
    have HSX := Lib.hid hsame
    have HLX := Lib.hid okX.sl
    have HONE := Lib.hid (fun i h => take_one (N := N) (i := i) hE h)
    have HIN := Lib.hid (fun i => numS_in s s.at_ i)
    have HNX0 := Lib.hid (fun i => numS_succ s s.at_ i)
    have HPW := Lib.hid (fun (i : Nat) (h : i ≤ 63) => pow2_le i h)
    have hat : s.at_ + (N : Int) < 18446744073709551616 := by
      obtain ⟨h1, h2, h3, h4⟩ := takeE_ok.1 hE
      rcases rightS_end h1 with h | h
      · omega
      · exact absurd oks h
    have hat0 := oks.a0
    have HOK := Lib.hid (fun (i : Nat) (h : i ≤ N) => oks.to_ (s.at_ + i) (by omega) (by omega))
    have HX0 := Lib.hid (show s.to (s.at_ + ((0 : Nat) : Int)) = s by rw [Int.natCast_zero, Int.add_zero]; rfl)
    obtain ⟨X, hX⟩ : ∃ X, s.to (s.at_ + (N : Int)) = X := ⟨_, rfl⟩
    have HXN := Lib.hid hX
    rw [hX] at HQ HSX HLX
    obtain ⟨x, hx⟩ : ∃ x, numS s s.at_ N = x := ⟨_, rfl⟩
    have HXX := Lib.hid hx
    rw [hx] at HQ
    clear okX tX hE hv hs hsame hX hx q1 hN1 oks
    go_enter Tryd.func5, Tryd.ntmps5
    go_wp2_with (first
      | (with_reducible refine at_any ?_; refine at_dst 2 rfl ?_; refine wpList_box_any rfl 27 (.tmp 0) rfl (srcV s A c) rfl ?_; intro w1 hk1 hs1 hb1; have F1 := Lib.hid (Fx.newB (Fx.bel0 w) hk1.out hb1); clear hk1 hs1 hb1)
      | (go_at_call 7; (with_reducible refine (alive7_c _ (HKS.out.below (Fx.e1 F1.out))).mono ?_); rintro e wa ⟨rfl, hba⟩; have G0 := Lib.hid (F1.out.below hba); clear F1 hba)
      | (with_reducible refine at_any ?_; refine at_dst 20 rfl ?_; refine wpList_load_blk rfl 27 (.tmp 2) rfl w.heap.size rfl 27 (srcV s A c) (Fx.b0 G0.out) _ Tryd.underlying27 rfl (sizedS s HLs.out _ _) ?_)
      | (go_at_call 8; (with_reducible refine (HGS.out A c _).mono ?_); rintro e w51 ⟨rfl, hbw51⟩; have G52 := Lib.hid (Fx.below G0.out hbw51); clear G0; clear hbw51)
      | (with_reducible refine at_any ?_; refine at_dst 23 rfl ?_; refine wpList_load_blk rfl 27 (.tmp 2) rfl w.heap.size rfl 27 (srcV s A c) (Fx.b0 G52.out) _ Tryd.underlying27 rfl (sizedS s HLs.out _ _) ?_)
      | (go_at_call 9; (with_reducible refine (HQ.out _ A c HLC.out HMC.out ((HRS.out.below (Fx.e1 G52.out)).mono (Below.size (Fx.e1 G52.out))) (HKS.out.below (Fx.e1 G52.out))).mono ?_); rintro e w53 ⟨A54, c55, rfl, hrw53, hlw53, hmw53, _, hbw53⟩; have lc55 := Lib.hid hlw53; have mc55 := Lib.hid hmw53; have G56 := Lib.hid (Fx.addR G52.out hbw53 hrw53); clear G52; clear hrw53 hbw53 hlw53 hmw53)
      | (with_reducible refine at_any ?_; refine at_dst 7 rfl ?_; refine wpList_alloc_any rfl 27 rfl (srcV Src.zero none 0) HZ0.out ?_; intro w57 hkw57 hsw57 hbw57; have U58 := Lib.hid (Fx.under_new G56.out rfl); have G59 := Lib.hid (Fx.newB G56.out hkw57.out hbw57); clear G56; clear hkw57 hsw57 hbw57)
      | (with_reducible refine at_any ?_; refine at_store 7 rfl ?_; refine wpList_store_any rfl 27 (.tmp 7) (.tmp 27) rfl w53.heap.size rfl 27 (srcV Src.zero none 0) (srcV X A54 c55) (Fx.b0 G59.out) rfl (srcV_same _ X HZL.out HLX.out _ _ _ _) (sizedS X HLX.out _ _) (srcV_ones _ _ _) ?_; intro w60 hkw60 hsw60 hbw60 how60; have G61 := Lib.hid (Fx.put1B G59.out U58.out hkw60.out hsw60.out hbw60 how60); clear G59; clear hkw60 hsw60 hbw60 how60))
    have HFE := G61.out
    clear G61
    obtain ⟨g7, eg7⟩ : ∃ g, w53.heap.size = g := ⟨_, rfl⟩
    obtain ⟨g2, eg2⟩ : ∃ g, w.heap.size = g := ⟨_, rfl⟩
    have hg2 : w.heap.size ≤ g2 := by omega
    rw [eg7, eg2] at HFE
    rw [eg7, eg2]
    clear eg7 eg2
    obtain ⟨wE, hwE⟩ : ∃ W, w60 = W := ⟨_, rfl⟩
    rw [hwE] at HFE
    rw [hwE]
    clear hwE
    refine wp_region_held_drew (S := (Fx [.blk g7 27 (srcV X A54 c55), .rdb .u8 g7 A54 s.tape.length s.tape, .blk g2 27 (srcV s A c), .bel w])) (by kernel_rfl) (Fx.drew HFE) (fun hH => ?_)
    refine wpAnyH_letter #[false, false, false, false] (by kernel_rfl) (fun _ _ d _ _ h => by cases d <;> exact h) (fun QL HQ1 HQ2 => ?_)
    refine held_row 0 (some 38) rfl (by kernel_rfl) (by kernel_rfl) (by kernel_rfl) (by kernel_rfl) (fun c a v w h => HQ2.out c a _ v w h) (by kernel_rfl) 27 (.tmp 2) rfl g2 (by kernel_rfl) 27 (srcV s A c) (fun _ h => h.2.2.1) _ Tryd.underlying27 rfl (sizedS s HLs.out _ _) hH ?_
    try simp only [Act.put, List.setIfInBounds_toArray, List.set_cons_zero, List.set_cons_succ]
    refine wpAnyH_ready (rs := [1]) (by kernel_rfl) (by decide) ?_
    refine AllReadyH.cons rfl (fun K hK => ?_) AllReadyH.nil
    refine step_alloc (some 10) (by kernel_rfl) (by kernel_rfl) 27 rfl (srcV Src.zero none 0) HZ0.out ?_
    intro w41 hkw41 hsw41 hbw41
    obtain ⟨g10, hg10⟩ : ∃ g, wE.drew.heap.size = g := ⟨_, rfl⟩
    have u10 := Fx.under_new hH rfl
    rw [hg10] at u10
    rw [hg10] at hkw41
    rw [hg10]
    have ex42 : Fx [.blk g10 27 (srcV Src.zero none 0)] w41 := ⟨hkw41.out, trivial⟩
    refine hK.out _ _ (hH.below hbw41) (fun hw41 => ?_)
    clear hK K
    try simp only [Act.put, List.setIfInBounds_toArray, List.set_cons_zero, List.set_cons_succ]
    refine held_v 2 (some 9) rfl (by kernel_rfl) (by kernel_rfl) (by kernel_rfl) (by kernel_rfl) (fun c a v w h => HQ2.out c a _ v w h) (by kernel_rfl) (.int .u64 0) (fun W h => by kernel_rfl) hw41 ?_
    try simp only [Act.put, List.setIfInBounds_toArray, List.set_cons_zero, List.set_cons_succ]
    refine wpAnyH_ready (rs := [3]) (by kernel_rfl) (by decide) ?_
    refine AllReadyH.cons rfl (fun K hK => ?_) AllReadyH.nil
    refine step_store none (by kernel_rfl) (by kernel_rfl) 27 (.tmp 10) (.tmp 38) rfl g10 (by kernel_rfl) 27 (srcV Src.zero none 0) (srcV s A c) ex42.1 (by kernel_rfl) (srcV_same _ s HZL.out HLs.out _ _ _ _) (sizedS s HLs.out _ _) (srcV_ones _ _ _) ?_
    intro w43 hkw43 hsw43 hbw43 how43
    have ex44 : Fx [.blk g10 27 (srcV s A c)] w43 := ⟨hkw43.out, trivial⟩
    refine hK.out _ _ (hw41.store ex42.1 (Fx.off_under u10 _) hsw43.out hbw43 how43) (fun hw43 => ?_)
    clear hK K
    try simp only [Act.put, List.setIfInBounds_toArray, List.set_cons_zero, List.set_cons_succ]
    refine wpAnyH_done (by kernel_rfl) ?_ _
    refine HQ1.out _ _ ?_
    clear HQ1 HQ2
    have F9 := Lib.hid (And.intro ex44.1 hw43)
    have h10 : w.heap.size ≤ g10 := u10.2.2.2.1
    have HU10 := Lib.hid u10
    go_wp2
    go_loopw [9, 11] (fun yv v wr => ∃ (i : Nat) (Ai : Option Addr) (ci : Nat), i ≤ N ∧ yv = .int .u64 (numS s s.at_ i) ∧ v = .int .i64 i ∧ (fun T => Fx [.blk g10 27 (srcV T Ai ci), .blk g7 27 (srcV X A54 c55), .rdb .u8 g7 A54 s.tape.length s.tape, .blk g2 27 (srcV s A c), .bel w] wr ∧ Rd .u8 wr wr.heap.size Ai s.tape.length s.tape ∧ s.tape.length ≤ ci ∧ ci ≤ maxLen ∧ (∀ b off, 0 < s.tape.length → Ai = some ⟨b, off, none⟩ → b ≠ g10)) (s.to (s.at_ + i))) (fun _ v _ => N - (intOf v).toNat)
    case atStart => exact ⟨0, A, c, by omega, rfl, rfl, by rw [HX0.out]; exact ⟨F9.out, (HRS.out.below (Fx.e4 F9.out)).mono (Below.size (Fx.e4 F9.out)), HLC.out, HMC.out, fun b off h1 h2 => by
      obtain ⟨b', off', h3, h4, _⟩ := HRS.out.2 h1
      rw [h2] at h3
      injection h3 with h3
      injection h3 with h3 _
      omega⟩⟩
    case round =>
      clear F9
      obtain ⟨i, Ai, ci, hi, rfl, rfl, hF, hRi, hli, hmi, hAi⟩ := hrel
      by_cases hlt : i < N
      · obtain ⟨o1, o2, o3, o4, o5⟩ := HONE.out i hlt
        have okT := HOK.out i (by omega)
        have okN := HOK.out (i + 1) (by omega)
        have hnx := HNX0.out i
        obtain ⟨y0, y1⟩ := HIN.out i
        have hpw := HPW.out i (by omega)
        obtain ⟨b0, b1⟩ := bitS_in s (s.at_ + i)
        have htk : ∀ W A c, s.tape.length ≤ c → c ≤ maxLen → Rd .u8 W W.heap.size A s.tape.length s.tape → Kst W → Calls Tryd.prog 9 #[.agg (srcV (s.to (s.at_ + i)) A c), .int .i64 1] W (fun en w' => ∃ A' c', en = .returned (.tuple #[.int .u64 (bitS s (s.at_ + i)), .agg (srcV (s.to (s.at_ + (i + 1 : Nat))) A' c'), .int .i64 0]) ∧ Rd .u8 w' w'.heap.size A' s.tape.length s.tape ∧ s.tape.length ≤ c' ∧ c' ≤ maxLen ∧ Sep W A A' ∧ Below W.heap.size W w') := fun W A c h1 h2 h3 h4 => (qstake_c (s.to (s.at_ + i)) okT 1 (by omega) (by omega) A c h1 h2 W h3 h4).mono fun _ _ h => take_u o2 o3 o1 h
        have hl0 := fun A c W => qsleft_c (s.to (s.at_ + i)) okT A c W
        have hl1 := fun A c W => qsleft_c (s.to (s.at_ + (i + 1 : Nat))) okN A c W
        have lf0 := left_le okT
        have lf1 := left_le okN
        have hc10 := fun (W : World) (g : Nat) A c (h : Blk W g 27 (srcV (s.to (s.at_ + i)) A c)) => (show W.cell? ⟨g, 36, none⟩ = some (.int .u64 (s.at_ + i)) from (h.cell 36).trans (srcV_at _ okT.sl A c))
        have hc13 := fun (W : World) (g : Nat) A c (h : Blk W g 27 (srcV (s.to (s.at_ + (i + 1 : Nat))) A c)) => (show W.cell? ⟨g, 36, none⟩ = some (.int .u64 (s.at_ + (i + 1 : Nat))) from (h.cell 36).trans (srcV_at _ okN.sl A c))
        have n00 : 0 ≤ s.at_ + (i : Int) := by omega
        have hn1 : s.at_ + (i : Int) + 1 = s.at_ + ((i + 1 : Nat) : Int) := by omega
        have hn2 : s.at_ + ((i + 1 : Nat) : Int) < 18446744073709551616 := by omega
        have hlT := okT.sl
        have hlN := okN.sl
        obtain ⟨Ti, hTi⟩ : ∃ T, s.to (s.at_ + (i : Int)) = T := ⟨_, rfl⟩
        obtain ⟨Tn, hTn⟩ : ∃ T, s.to (s.at_ + ((i + 1 : Nat) : Int)) = T := ⟨_, rfl⟩
        obtain ⟨b, hb⟩ : ∃ b, bitS s (s.at_ + i) = b := ⟨_, rfl⟩
        obtain ⟨y, hy⟩ : ∃ y, numS s s.at_ i = y := ⟨_, rfl⟩
        rw [hTi] at hF htk hl0 hc10 hlT o4 lf0
        rw [hTn] at htk hl1 hc13 hlN o4 lf1
        rw [hb] at htk hnx b0 b1
        rw [hy] at hnx y0 y1
        rw [hy]
        obtain ⟨L0, hL0⟩ : ∃ x, leftS Ti = x := ⟨_, rfl⟩
        obtain ⟨L1, hL1⟩ : ∃ x, leftS Tn = x := ⟨_, rfl⟩
        rw [hL0] at hl0 o4 lf0
        rw [hL1] at hl1 o4 lf1
        obtain ⟨N0, hN0⟩ : ∃ x, s.at_ + (i : Int) = x := ⟨_, rfl⟩
        obtain ⟨N1, hN1⟩ : ∃ x, s.at_ + ((i + 1 : Nat) : Int) = x := ⟨_, rfl⟩
        rw [hN0] at hc10 n00 hn1
        rw [hN1] at hc13 hn1 hn2
        have HTN := Lib.hid (show s.to (s.at_ + ((i + 1 : Nat) : Int)) = Tn from hTn)
        have HNX := Lib.hid hnx
        have HTK := Lib.hid htk
        have HLi := Lib.hid hl0
        have HLn := Lib.hid hl1
        have HC10 := Lib.hid hc10
        have HC13 := Lib.hid hc13
        have HLTi := Lib.hid hlT
        have HLTn := Lib.hid hlN
        have HB1 := Lib.hid (show decide (1 < b) = false by rw [decide_eq_false_iff_not]; omega)
        have HN1 := Lib.hid hn1
        have HN2 := Lib.hid (show IntKind.u64.wrap N1 = N1 by rw [IntKind.wrap_u64]; omega)
        have HL1 := Lib.hid (show L0 - 1 = L1 by omega)
        have HL2 := Lib.hid (show IntKind.u64.wrap L1 = L1 by rw [IntKind.wrap_u64]; omega)
        have HY1 := Lib.hid (show IntKind.u64.wrap (2 * y) = 2 * y by rw [IntKind.wrap_u64]; omega)
        have HY2 := Lib.hid (show IntKind.u64.wrap (2 * y + b) = 2 * y + b by rw [IntKind.wrap_u64]; omega)
        have HF := Lib.hid hF
        have HRi := Lib.hid hRi
        have HLi0 := Lib.hid hli
        have HMi0 := Lib.hid hmi
        have HAi := Lib.hid hAi
        clear o1 o2 o3 o4 o5 okT okN hnx hpw htk hl0 hl1 lf0 lf1 hc10 hc13 n00 hn1 hn2 hlT hlN hTi hTn hb hy hL0 hL1 hN0 hN1 hF hRi hli hmi hAi
        go_wp2_with (first
          | (with_reducible refine at_any ?_; refine at_dst 45 rfl ?_; refine wpList_load_blk rfl 27 (.tmp 10) rfl g10 rfl 27 (srcV Ti Ai ci) (Fx.b0 HF.out) _ Tryd.underlying27 rfl (sizedS Ti HLTi.out _ _) ?_)
          | (go_at_call 9; (with_reducible refine (HTK.out _ Ai ci HLi0.out HMi0.out HRi.out (HKS.out.below (Fx.e4 HF.out))).mono ?_); rintro e w5 ⟨An, cn, rfl, hrn, hln, hmn, hsep, hb5⟩; have F5 := Lib.hid (HF.out.below hb5); have HB5 := Lib.hid (Fx.lt0 HF.out); have HW5 := Lib.hid (Below.size hb5); have HSP := Lib.hid hsep; have HRn5 := Lib.hid hrn; clear hb5 hrn hsep)
          | (with_reducible refine at_any ?_; refine at_dst 13 rfl ?_; refine wpList_alloc_any rfl 27 rfl (srcV Src.zero none 0) HZ0.out ?_; intro w6 hk6 hs6 hb6; have U6 := Lib.hid (Fx.under_new F5.out rfl); have F6 := Lib.hid (Fx.newB F5.out hk6.out hb6); have B6 := Lib.hid hb6; clear hk6 hs6 hb6)
          | (with_reducible refine at_any ?_; refine at_store 13 rfl ?_; refine wpList_store_any rfl 27 (.tmp 13) (.tmp 48) rfl w5.heap.size rfl 27 (srcV Src.zero none 0) (srcV Tn An cn) (Fx.b0 F6.out) rfl (srcV_same _ Tn HZL.out HLTn.out _ _ _ _) (sizedS Tn HLTn.out _ _) (srcV_ones _ _ _) ?_; intro w7 hk7 hs7 hb7 ho7; have F7 := Lib.hid (Fx.put1B F6.out U6.out hk7.out hs7.out hb7 ho7); have B7 := Lib.hid (B6.out.trans (hb7 _ (Nat.le_refl _))); clear hk7 hs7 hb7 ho7 F6 B6))
        have HR7 := Lib.hid ((HRn5.out.below B7.out).mono B7.out.size)
        have HAn : Hid (∀ b off, 0 < s.tape.length → An = some ⟨b, off, none⟩ → b ≠ g10) := Lib.hid (fun b off h1 h2 => by
          rcases HSP.out with h3 | h3
          · rw [h3] at h2
            exact HAi.out b off h1 h2
          · have h4 := h3 b off h2
            have h5 := HB5.out
            omega)
        obtain ⟨g13, eg13⟩ : ∃ g, w5.heap.size = g := ⟨_, rfl⟩
        have h1013 : Hid (g10 < g13) := Lib.hid (by have h5 := HB5.out; have h6 := HW5.out; omega)
        have HF14 := Lib.hid F7.out
        rw [eg13] at HF14
        rw [eg13]
        have u10 := HU10.out
        clear eg13 F7 B7 HRn5 HSP U6 F5 HF HRi HB5 HW5
        refine wp_region_held_drew (S := (Fx [.blk g13 27 (srcV Tn An cn), .blk g10 27 (srcV Ti Ai ci), .blk g7 27 (srcV X A54 c55), .rdb .u8 g7 A54 s.tape.length s.tape, .blk g2 27 (srcV s A c), .bel w])) (by kernel_rfl) (Fx.drew HF14.out) (fun hH14 => ?_)
        have RX : Fx [.rd .u8 An s.tape.length s.tape] w7.drew := ⟨HR7.out, trivial⟩
        refine wpAnyH_letter #[false, false, false, false, false, false, false, false, false, false, false, false, false, false, false, false, false, false, false, false, false, false] (by kernel_rfl) (fun _ _ d _ _ h => by cases d <;> exact h) (fun QL HQ1 HQ2 => ?_)
        refine held_v 0 (some 50) rfl (by kernel_rfl) (by kernel_rfl) (by kernel_rfl) (by kernel_rfl) (fun c a v w h => HQ2.out c a _ v w h) (by kernel_rfl) (.int .i64 0) (fun W h => by kernel_rfl) hH14 ?_
        try simp only [Act.put, List.setIfInBounds_toArray, List.set_cons_zero, List.set_cons_succ]
        refine held_v 1 (some 51) rfl (by kernel_rfl) (by kernel_rfl) (by kernel_rfl) (by kernel_rfl) (fun c a v w h => HQ2.out c a _ v w h) (by kernel_rfl) (.bool false) (fun W h => by go_simp) hH14 ?_
        try simp only [Act.put, List.setIfInBounds_toArray, List.set_cons_zero, List.set_cons_succ]
        refine held_v 2 (some 52) rfl (by kernel_rfl) (by kernel_rfl) (by kernel_rfl) (by kernel_rfl) (fun c a v w h => HQ2.out c a _ v w h) (by kernel_rfl) (.bool false) (fun W h => by kernel_rfl) hH14 ?_
        try simp only [Act.put, List.setIfInBounds_toArray, List.set_cons_zero, List.set_cons_succ]
        refine held_v 3 (some 53) rfl (by kernel_rfl) (by kernel_rfl) (by kernel_rfl) (by kernel_rfl) (fun c a v w h => HQ2.out c a _ v w h) (by kernel_rfl) (.int .u64 b) (fun W h => by kernel_rfl) hH14 ?_
        try simp only [Act.put, List.setIfInBounds_toArray, List.set_cons_zero, List.set_cons_succ]
        refine held_v 4 (some 54) rfl (by kernel_rfl) (by kernel_rfl) (by kernel_rfl) (by kernel_rfl) (fun c a v w h => HQ2.out c a _ v w h) (by kernel_rfl) (.bool false) (fun W h => by have p := HB1.out; go_simp) hH14 ?_
        try simp only [Act.put, List.setIfInBounds_toArray, List.set_cons_zero, List.set_cons_succ]
        refine held_v 5 (some 55) rfl (by kernel_rfl) (by kernel_rfl) (by kernel_rfl) (by kernel_rfl) (fun c a v w h => HQ2.out c a _ v w h) (by kernel_rfl) (.bool false) (fun W h => by kernel_rfl) hH14 ?_
        try simp only [Act.put, List.setIfInBounds_toArray, List.set_cons_zero, List.set_cons_succ]
        refine held_v 6 (some 56) rfl (by kernel_rfl) (by kernel_rfl) (by kernel_rfl) (by kernel_rfl) (fun c a v w h => HQ2.out c a _ v w h) (by kernel_rfl) (.bool false) (fun W h => by kernel_rfl) hH14 ?_
        try simp only [Act.put, List.setIfInBounds_toArray, List.set_cons_zero, List.set_cons_succ]
        refine held_v 7 (some 57) rfl (by kernel_rfl) (by kernel_rfl) (by kernel_rfl) (by kernel_rfl) (fun c a v w h => HQ2.out c a _ v w h) (by kernel_rfl) (.pointer (some ⟨g13, 36, none⟩)) (fun W h => by kernel_rfl) hH14 ?_
        try simp only [Act.put, List.setIfInBounds_toArray, List.set_cons_zero, List.set_cons_succ]
        refine held_v 8 (some 58) rfl (by kernel_rfl) (by kernel_rfl) (by kernel_rfl) (by kernel_rfl) (fun c a v w h => HQ2.out c a _ v w h) (by kernel_rfl) (.int .u64 N1) (fun W h => by have p := HC13.out W _ _ _ h.1; go_simp) hH14 ?_
        try simp only [Act.put, List.setIfInBounds_toArray, List.set_cons_zero, List.set_cons_succ]
        refine held_v 9 (some 59) rfl (by kernel_rfl) (by kernel_rfl) (by kernel_rfl) (by kernel_rfl) (fun c a v w h => HQ2.out c a _ v w h) (by kernel_rfl) (.pointer (some ⟨g10, 36, none⟩)) (fun W h => by kernel_rfl) hH14 ?_
        try simp only [Act.put, List.setIfInBounds_toArray, List.set_cons_zero, List.set_cons_succ]
        refine held_v 10 (some 60) rfl (by kernel_rfl) (by kernel_rfl) (by kernel_rfl) (by kernel_rfl) (fun c a v w h => HQ2.out c a _ v w h) (by kernel_rfl) (.int .u64 N0) (fun W h => by have p := HC10.out W _ _ _ h.2.1; go_simp) hH14 ?_
        try simp only [Act.put, List.setIfInBounds_toArray, List.set_cons_zero, List.set_cons_succ]
        refine held_v 11 (some 61) rfl (by kernel_rfl) (by kernel_rfl) (by kernel_rfl) (by kernel_rfl) (fun c a v w h => HQ2.out c a _ v w h) (by kernel_rfl) (.int .u64 N1) (fun W h => by have p := HN1.out; have p2 := HN2.out; go_simp) hH14 ?_
        try simp only [Act.put, List.setIfInBounds_toArray, List.set_cons_zero, List.set_cons_succ]
        refine held_v 12 (some 62) rfl (by kernel_rfl) (by kernel_rfl) (by kernel_rfl) (by kernel_rfl) (fun c a v w h => HQ2.out c a _ v w h) (by kernel_rfl) (.bool false) (fun W h => by go_simp) hH14 ?_
        try simp only [Act.put, List.setIfInBounds_toArray, List.set_cons_zero, List.set_cons_succ]
        refine held_v 13 (some 63) rfl (by kernel_rfl) (by kernel_rfl) (by kernel_rfl) (by kernel_rfl) (fun c a v w h => HQ2.out c a _ v w h) (by kernel_rfl) (.bool false) (fun W h => by kernel_rfl) hH14 ?_
        try simp only [Act.put, List.setIfInBounds_toArray, List.set_cons_zero, List.set_cons_succ]
        refine held_v 14 (some 64) rfl (by kernel_rfl) (by kernel_rfl) (by kernel_rfl) (by kernel_rfl) (fun c a v w h => HQ2.out c a _ v w h) (by kernel_rfl) (.bool false) (fun W h => by kernel_rfl) hH14 ?_
        try simp only [Act.put, List.setIfInBounds_toArray, List.set_cons_zero, List.set_cons_succ]
        refine held_row 15 (some 65) rfl (by kernel_rfl) (by kernel_rfl) (by kernel_rfl) (by kernel_rfl) (fun c a v w h => HQ2.out c a _ v w h) (by kernel_rfl) 27 (.tmp 13) rfl g13 (by kernel_rfl) 27 (srcV Tn An cn) (fun _ h => h.1) _ Tryd.underlying27 rfl (sizedS Tn HLTn.out _ _) hH14 ?_
        try simp only [Act.put, List.setIfInBounds_toArray, List.set_cons_zero, List.set_cons_succ]
        refine held_row 17 (some 67) rfl (by kernel_rfl) (by kernel_rfl) (by kernel_rfl) (by kernel_rfl) (fun c a v w h => HQ2.out c a _ v w h) (by kernel_rfl) 27 (.tmp 10) rfl g10 (by kernel_rfl) 27 (srcV Ti Ai ci) (fun _ h => h.2.1) _ Tryd.underlying27 rfl (sizedS Ti HLTi.out _ _) hH14 ?_
        try simp only [Act.put, List.setIfInBounds_toArray, List.set_cons_zero, List.set_cons_succ]
        refine wpAnyH_ready (rs := [16]) (by kernel_rfl) (by decide) ?_
        refine AllReadyH.cons rfl (fun K hK => ?_) AllReadyH.nil
        refine step_call (some 66) (by kernel_rfl) (by kernel_rfl) _ _ (by kernel_rfl) _ (HLn.out An cn _) ?_
        rintro e w201 ⟨rfl, hbw201⟩
        have ex202 := RX.below hbw201
        refine ⟨_, rfl, ?_⟩
        refine hK.out _ _ (hH14.below hbw201) (fun hw201 => ?_)
        clear hK K
        try simp only [Act.put, List.setIfInBounds_toArray, List.set_cons_zero, List.set_cons_succ]
        refine wpAnyH_ready (rs := [18]) (by kernel_rfl) (by decide) ?_
        refine AllReadyH.cons rfl (fun K hK => ?_) AllReadyH.nil
        refine step_call (some 68) (by kernel_rfl) (by kernel_rfl) _ _ (by kernel_rfl) _ (HLi.out Ai ci _) ?_
        rintro e w203 ⟨rfl, hbw203⟩
        have ex204 := ex202.below hbw203
        refine ⟨_, rfl, ?_⟩
        refine hK.out _ _ (hw201.below hbw203) (fun hw203 => ?_)
        clear hK K
        try simp only [Act.put, List.setIfInBounds_toArray, List.set_cons_zero, List.set_cons_succ]
        refine held_v 19 (some 69) rfl (by kernel_rfl) (by kernel_rfl) (by kernel_rfl) (by kernel_rfl) (fun c a v w h => HQ2.out c a _ v w h) (by kernel_rfl) (.int .u64 L1) (fun W h => by have p := HL1.out; have p2 := HL2.out; go_simp) hw203 ?_
        try simp only [Act.put, List.setIfInBounds_toArray, List.set_cons_zero, List.set_cons_succ]
        refine held_v 20 (some 70) rfl (by kernel_rfl) (by kernel_rfl) (by kernel_rfl) (by kernel_rfl) (fun c a v w h => HQ2.out c a _ v w h) (by kernel_rfl) (.bool false) (fun W h => by go_simp) hw203 ?_
        try simp only [Act.put, List.setIfInBounds_toArray, List.set_cons_zero, List.set_cons_succ]
        refine held_v 21 (some 71) rfl (by kernel_rfl) (by kernel_rfl) (by kernel_rfl) (by kernel_rfl) (fun c a v w h => HQ2.out c a _ v w h) (by kernel_rfl) (.bool false) (fun W h => by kernel_rfl) hw203 ?_
        try simp only [Act.put, List.setIfInBounds_toArray, List.set_cons_zero, List.set_cons_succ]
        refine wpAnyH_done (by kernel_rfl) ?_ _
        refine HQ1.out _ _ ?_
        clear HQ1 HQ2
        have HRn := Lib.hid (Rd.drew ex204.1)
        have HS16 := Lib.hid (And.intro hw203.1 hw203.2.2)
        have HZ := Lib.hid hw203.2.1
        go_wp2
        have HZ16 : Fx [.blk g10 27 (srcV Ti Ai ci)] w203.drew := ⟨Blk.drew HZ.out, trivial⟩
        have hS16 : (Fx [.blk g13 27 (srcV Tn An cn), .blk g7 27 (srcV X A54 c55), .rdb .u8 g7 A54 s.tape.length s.tape, .blk g2 27 (srcV s A c), .bel w]) w203 := HS16.out
        refine wp_region_held_drew (S := (Fx [.blk g13 27 (srcV Tn An cn), .blk g7 27 (srcV X A54 c55), .rdb .u8 g7 A54 s.tape.length s.tape, .blk g2 27 (srcV s A c), .bel w])) (by kernel_rfl) (Fx.drew hS16) (fun hH16 => ?_)
        refine wpAnyH_letter #[false, false, false, false, false, false, false] (by kernel_rfl) (fun _ _ d _ _ h => by cases d <;> exact h) (fun QL HQ1 HQ2 => ?_)
        refine held_v 0 (some 72) rfl (by kernel_rfl) (by kernel_rfl) (by kernel_rfl) (by kernel_rfl) (fun c a v w h => HQ2.out c a _ v w h) (by kernel_rfl) (.int .u64 y) (fun W h => by kernel_rfl) hH16 ?_
        try simp only [Act.put, List.setIfInBounds_toArray, List.set_cons_zero, List.set_cons_succ]
        refine held_v 1 (some 73) rfl (by kernel_rfl) (by kernel_rfl) (by kernel_rfl) (by kernel_rfl) (fun c a v w h => HQ2.out c a _ v w h) (by kernel_rfl) (.int .u64 (2 * y)) (fun W h => by have p := HY1.out; go_simp) hH16 ?_
        try simp only [Act.put, List.setIfInBounds_toArray, List.set_cons_zero, List.set_cons_succ]
        refine held_v 2 (some 74) rfl (by kernel_rfl) (by kernel_rfl) (by kernel_rfl) (by kernel_rfl) (fun c a v w h => HQ2.out c a _ v w h) (by kernel_rfl) (.int .u64 b) (fun W h => by kernel_rfl) hH16 ?_
        try simp only [Act.put, List.setIfInBounds_toArray, List.set_cons_zero, List.set_cons_succ]
        refine held_v 3 (some 75) rfl (by kernel_rfl) (by kernel_rfl) (by kernel_rfl) (by kernel_rfl) (fun c a v w h => HQ2.out c a _ v w h) (by kernel_rfl) (.int .u64 (2 * y + b)) (fun W h => by have p := HY2.out; go_simp) hH16 ?_
        try simp only [Act.put, List.setIfInBounds_toArray, List.set_cons_zero, List.set_cons_succ]
        refine held_row 4 (some 76) rfl (by kernel_rfl) (by kernel_rfl) (by kernel_rfl) (by kernel_rfl) (fun c a v w h => HQ2.out c a _ v w h) (by kernel_rfl) 27 (.tmp 13) rfl g13 (by kernel_rfl) 27 (srcV Tn An cn) (fun _ h => h.1) _ Tryd.underlying27 rfl (sizedS Tn HLTn.out _ _) hH16 ?_
        try simp only [Act.put, List.setIfInBounds_toArray, List.set_cons_zero, List.set_cons_succ]
        refine held_v 5 (some 9) rfl (by kernel_rfl) (by kernel_rfl) (by kernel_rfl) (by kernel_rfl) (fun c a v w h => HQ2.out c a _ v w h) (by kernel_rfl) (.int .u64 (2 * y + b)) (fun W h => by kernel_rfl) hH16 ?_
        try simp only [Act.put, List.setIfInBounds_toArray, List.set_cons_zero, List.set_cons_succ]
        refine wpAnyH_ready (rs := [6]) (by kernel_rfl) (by decide) ?_
        refine AllReadyH.cons rfl (fun K hK => ?_) AllReadyH.nil
        refine step_store none (by kernel_rfl) (by kernel_rfl) 27 (.tmp 10) (.tmp 76) rfl g10 (by kernel_rfl) 27 (srcV Ti Ai ci) (srcV Tn An cn) HZ16.1 (by kernel_rfl) (srcV_same _ _ HLTi.out HLTn.out _ _ _ _) (sizedS Tn HLTn.out _ _) (srcV_ones _ _ _) ?_
        intro w301 hkw301 hsw301 hbw301 how301
        have ex302 : Fx [.blk g10 27 (srcV Tn An cn)] w301 := ⟨hkw301.out, trivial⟩
        refine hK.out _ _ (hH16.store HZ16.1 ⟨Nat.ne_of_gt h1013.out, Fx.off_under u10 _⟩ hsw301.out hbw301 how301) (fun hw301 => ?_)
        clear hK K
        try simp only [Act.put, List.setIfInBounds_toArray, List.set_cons_zero, List.set_cons_succ]
        refine wpAnyH_done (by kernel_rfl) ?_ _
        refine HQ1.out _ _ ?_
        clear HQ1 HQ2
        have hRn := (Rd.other HRn.out how301 HAn.out).fit
        have FN := Lib.hid (And.intro ex302.1 hw301.2)
        go_wp2
        go_roundw
        case rel => exact ⟨i + 1, An, cn, by omega, by rw [HNX.out], by go_num, by rw [HTN.out]; exact ⟨FN.out, hRn, hln, hmn, HAn.out⟩⟩
        case measure => simp [intOf]; omega
      · obtain rfl : i = N := by omega
        rw [HXN.out] at hF
        rw [HXX.out]
        have HF := Lib.hid hF
        have HRi := Lib.hid hRi
        clear hF hRi hAi
        go_wp2_with (first
          | (with_reducible refine at_any ?_; refine at_dst 81 rfl ?_; refine wpList_load_gdb (by kernel_rfl) 27 (.tmp 7) rfl g7 rfl 27 (srcV X A54 c55) (Fx.b1 HF.out) _ Tryd.underlying27 rfl (sizedS X HLX.out _ _) ?_)
          | (with_reducible refine at_any ?_; refine at_dst 82 rfl ?_; refine wpList_load_gdb (by kernel_rfl) 27 (.tmp 10) rfl g10 rfl 27 (srcV X Ai ci) (Fx.b0 HF.out) _ Tryd.underlying27 rfl (sizedS X HLX.out _ _) ?_)
          | (go_at_call 11; (with_reducible refine (HSX.out A54 Ai c55 ci _ (Fx.r2 HF.out) HRi.out).mono ?_); rintro e w9 ⟨rfl, hb9⟩))
        go_ret
        exact ⟨rfl, (Fx.e4 HF.out).trans (hb9.mono (Below.size (Fx.e4 HF.out)))⟩
  · have hb : takeV s (N : Int) = 0 := by unfold takeV; rw [if_neg hE]
    have hs : takeS s (N : Int) = s := by unfold takeS; rw [if_neg hE]
    obtain ⟨e, he⟩ : ∃ e, takeE s (N : Int) = e := ⟨_, rfl⟩
    have hq : ∀ W A c, s.tape.length ≤ c → c ≤ maxLen → Rd .u8 W W.heap.size A s.tape.length s.tape → Kst W → Calls Tryd.prog 9 #[.agg (srcV s A c), .int .i64 N] W (fun en w' => ∃ A' c', en = .returned (.tuple #[.int .u64 0, .agg (srcV s A' c'), .int .i64 e]) ∧ Rd .u8 w' w'.heap.size A' s.tape.length s.tape ∧ s.tape.length ≤ c' ∧ c' ≤ maxLen ∧ Sep W A A' ∧ Below W.heap.size W w') := fun W A c h1 h2 h3 h4 => (q1 W A c h1 h2 h3 h4).mono fun _ _ h => take_u hb hs he h
    have hsame := fun A B c d W h1 h2 => rssame_c s s oks oks A B c d W h1 h2
    rw [sameS_refl] at hsame
    have HSX := Lib.hid hsame
    have t1 : (e != 0) = true := by rw [bne_iff_ne, ← he]; exact hE
    obtain ⟨X, hX⟩ : ∃ X : Src, s = X := ⟨_, rfl⟩
    have HLX := Lib.hid (show X.seed.length = 32 by rw [← hX]; exact oks.sl)
    have hq2 : ∀ W A c, s.tape.length ≤ c → c ≤ maxLen → Rd .u8 W W.heap.size A s.tape.length s.tape → Kst W → Calls Tryd.prog 9 #[.agg (srcV s A c), .int .i64 N] W (fun en w' => ∃ A' c', en = .returned (.tuple #[.int .u64 0, .agg (srcV X A' c'), .int .i64 e]) ∧ Rd .u8 w' w'.heap.size A' s.tape.length s.tape ∧ s.tape.length ≤ c' ∧ c' ≤ maxLen ∧ Sep W A A' ∧ Below W.heap.size W w') := by
      rw [← hX]
      exact hq
    have HQ := Lib.hid hq2
    have hsame2 : ∀ A B c d W, Rd .u8 W W.heap.size A s.tape.length s.tape → Rd .u8 W W.heap.size B s.tape.length s.tape → Calls Tryd.prog 11 #[.agg (srcV X A c), .agg (srcV s B d)] W (fun e w' => e = .returned (.bool true) ∧ Below W.heap.size W w') := by
      rw [← hX]
      exact hsame
    have HSX := Lib.hid hsame2
    clear hE hb hs he hq hq2 hsame hsame2 hX oks okX tX q1
    go_enter Tryd.func5, Tryd.ntmps5
    go_wp2_with (first
      | (with_reducible refine at_any ?_; refine at_dst 2 rfl ?_; refine wpList_box_any rfl 27 (.tmp 0) rfl (srcV s A c) rfl ?_; intro w1 hk1 hs1 hb1; have F1 := Lib.hid (Fx.newB (Fx.bel0 w) hk1.out hb1); clear hk1 hs1 hb1)
      | (go_at_call 7; (with_reducible refine (alive7_c _ (HKS.out.below (Fx.e1 F1.out))).mono ?_); rintro e wa ⟨rfl, hba⟩; have G0 := Lib.hid (F1.out.below hba); clear F1 hba)
      | (with_reducible refine at_any ?_; refine at_dst 20 rfl ?_; refine wpList_load_blk rfl 27 (.tmp 2) rfl w.heap.size rfl 27 (srcV s A c) (Fx.b0 G0.out) _ Tryd.underlying27 rfl (sizedS s HLs.out _ _) ?_)
      | (go_at_call 8; (with_reducible refine (HGS.out A c _).mono ?_); rintro e w51 ⟨rfl, hbw51⟩; have G52 := Lib.hid (Fx.below G0.out hbw51); clear G0; clear hbw51)
      | (with_reducible refine at_any ?_; refine at_dst 23 rfl ?_; refine wpList_load_blk rfl 27 (.tmp 2) rfl w.heap.size rfl 27 (srcV s A c) (Fx.b0 G52.out) _ Tryd.underlying27 rfl (sizedS s HLs.out _ _) ?_)
      | (go_at_call 9; (with_reducible refine (HQ.out _ A c HLC.out HMC.out ((HRS.out.below (Fx.e1 G52.out)).mono (Below.size (Fx.e1 G52.out))) (HKS.out.below (Fx.e1 G52.out))).mono ?_); rintro e w53 ⟨A54, c55, rfl, hrw53, hlw53, hmw53, _, hbw53⟩; have lc55 := Lib.hid hlw53; have mc55 := Lib.hid hmw53; have G56 := Lib.hid (Fx.addR G52.out hbw53 hrw53); clear G52; clear hrw53 hbw53 hlw53 hmw53)
      | (with_reducible refine at_any ?_; refine at_dst 7 rfl ?_; refine wpList_alloc_any rfl 27 rfl (srcV Src.zero none 0) HZ0.out ?_; intro w57 hkw57 hsw57 hbw57; have U58 := Lib.hid (Fx.under_new G56.out rfl); have G59 := Lib.hid (Fx.newB G56.out hkw57.out hbw57); clear G56; clear hkw57 hsw57 hbw57)
      | (with_reducible refine at_any ?_; refine at_store 7 rfl ?_; refine wpList_store_any rfl 27 (.tmp 7) (.tmp 27) rfl w53.heap.size rfl 27 (srcV Src.zero none 0) (srcV X A54 c55) (Fx.b0 G59.out) rfl (srcV_same _ X HZL.out HLX.out _ _ _ _) (sizedS X HLX.out _ _) (srcV_ones _ _ _) ?_; intro w60 hkw60 hsw60 hbw60 how60; have G61 := Lib.hid (Fx.put1B G59.out U58.out hkw60.out hsw60.out hbw60 how60); clear G59; clear hkw60 hsw60 hbw60 how60)
      | (with_reducible refine at_any ?_; refine at_dst 34 rfl ?_; refine wpList_load_gdb (by kernel_rfl) 27 (.tmp 7) rfl w53.heap.size rfl 27 (srcV X A54 c55) (Fx.b0 G61.out) _ Tryd.underlying27 rfl (sizedS X HLX.out _ _) ?_)
      | (with_reducible refine at_any ?_; refine at_dst 35 rfl ?_; refine wpList_load_gdb (by kernel_rfl) 27 (.tmp 2) rfl w.heap.size rfl 27 (srcV s A c) (Fx.b2 G61.out) _ Tryd.underlying27 rfl (sizedS s HLs.out _ _) ?_)
      | (go_at_call 11; (with_reducible refine (HSX.out A54 A c55 c _ (Fx.r1 G61.out) ((HRS.out.below (Fx.e3 G61.out)).mono (Below.size (Fx.e3 G61.out)))).mono ?_); rintro e w121 ⟨rfl, hbw121⟩; have G122 := Lib.hid (Fx.below G61.out hbw121); clear G61; clear hbw121))
    go_ret
    exact ⟨rfl, (Fx.e3 G122.out)⟩
theorem walk (s0 : Src) (a0 : Option Addr) (c0 : Nat) (a1 : Int) (w : World) (ok0 : s0.tape.length ≤ 140737488355328 → s0.Ok) (rd0 : Rd .u8 w w.heap.size a0 s0.tape.length s0.tape) (lc0 : s0.tape.length ≤ c0) (cm0 : c0 ≤ maxLen) (sl0 : s0.seed.length = 32) (w1 : (Lit.int .u8 a1).wf = true) (hkst : Kst w) :
    Calls Tryd.prog 5 #[.agg (srcV s0 a0 c0), .int .u8 a1] w fun e w' => e = .returned (.bool true) ∧ Below w.heap.size w w' := by
  have h1 := bounds_u8 w1
  have m0 : s0.tape.length ≤ 9223372036854775807 := by unfold maxLen at cm0; omega
  by_cases h : 500 < s0.tape.length
  · exact great_walk s0 a0 c0 a1 sl0 w m0 h hkst
  · exact main_walk s0 a0 c0 a1 (size_of s0 (by omega) ok0) w rd0 lc0 cm0 (by omega) (by omega) h hkst


set_option maxRecDepth 100000 in
theorem lifted (os : Os) (started : os.Started) (H : Type) (enc : TypeId × Value → H) :
    ReturnsInHanded {} Tryd.checked os 5 .any (fun w args => (Rows.tapeBitsSpec.pre enc Tryd.prog Tryd.f5 [] false w args ∧ laidMetH Tryd.prog laidK w) ∧ sizedMet enc Tryd.prog Tryd.f5 (OpenSpec.ofChange Rows.tapeBitsSpec) false w args) (Rows.tapeBitsSpec.post enc Tryd.prog Tryd.f5 false true false false) := by
  refine returnsInHanded_of_change_and (C := Tryd.checked) (X := fun w _ => laidMetH Tryd.prog laidK w) (fun _ _ _ hh h => h.of_heap hh) own started (by kernel_rfl) Tryd.func5
    (ChangeSpec.witness_shaped (enc := enc) (C := Tryd.checked) (os := os) (X := fun w _ => laidMetH Tryd.prog laidK w) false (World.doorLaid Tryd.prog 400 os) #[.agg #[.int .i64 0, .slice none 0 0, .int .u64 0, .int .u8 0, .int .u8 0, .int .u8 0, .int .u8 0, .int .u8 0, .int .u8 0, .int .u8 0, .int .u8 0, .int .u8 0, .int .u8 0, .int .u8 0, .int .u8 0, .int .u8 0, .int .u8 0, .int .u8 0, .int .u8 0, .int .u8 0, .int .u8 0, .int .u8 0, .int .u8 0, .int .u8 0, .int .u8 0, .int .u8 0, .int .u8 0, .int .u8 0, .int .u8 0, .int .u8 0, .int .u8 0, .int .u8 0, .int .u8 0, .int .u8 0, .int .u8 0, .int .u64 0, .int .u64 0], .int .u8 0] 8 rfl (World.shaped_of_RefB (by kernel_rfl) (by kernel_rfl)) (by kernel_rfl) (by kernel_rfl) (by kernel_rfl) (door_met os _)) ?_
  intro W base args ds gs before hval0 hW _ _ hL _
  have hval : ∀ (j : Nat) t v, Tryd.f5.params[j]? = some t → args[j]? = some v → Value.okWide Tryd.prog W .any base t v := hval0
  have hW' := hW
  obtain ⟨p, q, hA0, hV, rfl, hfz, hnd⟩ := hW
  have hA : DataW.TrodAll enc Tryd.prog W 0 (fun _ => true) true Tryd.f5.params.toList args.toList ds p := hA0
  rw [Tryd.params5] at hA hval
  obtain ⟨v0, vs0, d0, ds0, p0, q0, hargs, rfl, rfl, h0, r0⟩ := trodAll_cons hA
  obtain ⟨v1, vs1, d1, ds1, p1, q1, rfl, rfl, rfl, h1, r1⟩ := trodAll_cons r0
  obtain ⟨rfl, rfl, rfl⟩ := trodAll_nil r1
  obtain rfl : args = #[v0, v1] := by cases args; simp_all
  obtain ⟨rfl, rfl⟩ := trodVars_none hV
  have k0 := h0
  have lt0 : ∀ x ∈ p0, x.block < W.heap.size := by obtain ⟨m, hm⟩ := k0; exact DataW.trod_lt m _ _ _ hm
  obtain ⟨s0, a0, c0, rfl, ok0, rd0, lc0, cm0, sl0⟩ := open_src (hval 0 27 v0 rfl rfl) h0
  obtain ⟨a1, rfl, rfl, rfl, w1⟩ := open_int Tryd.underlying5 (hval 1 5 v1 rfl rfl) h1
  clear hA0 hval0
  refine (walk s0 a0 c0 a1 W ok0 rd0 lc0 cm0 sl0 w1 (kst_of_laid hL)).mono fun e W' ⟨he, bel⟩ => ?_
  subst he
  exact ⟨_, rfl, _, _, _, [], _, [], hW', trodAll_mk1 (shut_bool Tryd.underlying4 _), (trodAll_cons_mk (Below.trod laidOut (by kernel_rfl) (of_decide_eq_true (by kernel_rfl)) k0 bel lt0) (trodAll_cons_mk (shut_int Tryd.underlying5 w1) trodAll_mk0)), rfl, bel.frame _, fun h => by cases h⟩

theorem over : Rows.tapeBitsRow.holds Tryd.pinned (OpenSpec.ofChange Rows.tapeBitsSpec) :=
  OpenClaim.holds_of_wide 5 Tryd.f5 rfl rfl rfl rfl rfl rfl rfl ⟨rfl, rfl, rfl, rfl, rfl⟩ rfl rfl rfl rfl rfl (by kernel_rfl) Tryd.func5 (by kernel_rfl)
    (of_decide_eq_true (by kernel_rfl)) (by unfold Func.isWrapper; first | (rw [if_pos (by decide +kernel)]; kernel_rfl) | (rw [if_neg (by decide +kernel)]; exact ⟨rfl, rfl⟩))
    (fun os started H enc _ => lifted os started H enc)

end Go.Proofs.YtabfgkokilghcaaDoor.tapeBits
namespace Go.Proofs.YtabfgkokilghcaaDoor
theorem tapeBits_holds : Rows.TapeBitsCardSaid :=
  Claim7.holds_tied_plain_at .later [] [.data] true _ false
    tapeBits.over (fun _ h => by cases h) (by kernel_rfl) (fun _ h => by cases h) tapeBits_row_tie rfl ⟨rfl, rfl⟩ (by kernel_rfl) rfl
    (fun f fn hf hfn => by
      obtain rfl : f = 5 := Option.some.inj ((show Tryd.prog.funcNamed "drawlot/drawlotlaw07.TapeBits" = some 5 by kernel_rfl).symm.trans hf) |>.symm
      obtain rfl : fn = Tryd.f5 := (Option.some.inj (Tryd.func5.symm.trans hfn)).symm
      exact ⟨by kernel_rfl, fun j t ht => by
        rw [Tryd.params5] at ht
        have hm : t ∈ [27, 5] := by simpa using Array.mem_of_getElem? ht
        have hall : ([27, 5].all fun u => !Tryd.prog.wantsStandIn u) = true := by kernel_rfl
        exact (show Tryd.prog.wantsStandIn t = false by simpa using List.all_eq_true.1 hall t hm)⟩)
    (by kernel_rfl)
#print axioms tapeBits_holds
end Go.Proofs.YtabfgkokilghcaaDoor

/-
  What is taken of any source, and what is left, is the document's, or refused, for its reason; of up to 500 bytes.
  Conditions: the program's table of constants reads, when the call begins, as its text lays it (the card ties that).
-/
import Derived.Test.YtabfgkokilghcaaDoorGd
import Derived.ShutString
import Derived.Test.YtabfgkokilghcaaDoorTie
import Derived.Test.YtabfgkokilghcaaDoorCards
import Derived.SevenTiedAt
import Derived.ChangeOld
namespace Go.Proofs.YtabfgkokilghcaaDoor.tapeTakes
open Go.ChangeShapes Go.WideShapes Go.ChangeAt Go.RowKit
set_option linter.unusedVariables false
set_option linter.unusedSimpArgs false

theorem own : ownKnob Tryd.prog.godebug = none := by kernel_rfl
theorem laidOut : laidOutB Tryd.prog = true := by kernel_rfl

theorem size_of (s : Src) (l : s.tape.length ≤ 500) (ok : s.tape.length ≤ 140737488355328 → s.Ok) : s.Ok := ok (Nat.le_trans l (by decide))
theorem take_u {s : Src} {k : Int} {A : Option Addr} {x e : Int} {X : Src} (hx : takeV s k = x) (hX : takeS s k = X) (he : takeE s k = e) {w w' : World} {en : Ending} (h : RetTake w s k A en w') :
    ∃ A' c', en = .returned (.tuple #[.int .u64 x, .agg (srcV X A' c'), .int .i64 e]) ∧ Rd .u8 w' w'.heap.size A' s.tape.length s.tape ∧ s.tape.length ≤ c' ∧ c' ≤ maxLen ∧ Sep w A A' ∧ Below w.heap.size w w' := by
  subst hx hX he
  exact h
set_option maxHeartbeats 8000000 in
theorem great_walk (s t : Src) (A B : Option Addr) (c d : Nat) (k : Int) (sl : s.seed.length = 32) (tl : t.seed.length = 32) (w : World) (mc : s.tape.length ≤ 9223372036854775807) (md : t.tape.length ≤ 9223372036854775807) (hg : 500 < s.tape.length ∨ (¬ 500 < s.tape.length ∧ 500 < t.tape.length)) (hkst : Kst w) :
    Calls Tryd.prog 3 #[.agg (srcV s A c), .agg (srcV t B d), .int .i64 k] w fun e w' => e = .returned (.bool true) ∧ Below w.heap.size w w' := by
  have HKS := Lib.hid hkst
  have hgs := fun A c W => great_c s mc A c W
  have hgt := fun A c W => great_c t md A c W
  have HLs := Lib.hid sl
  have HLt := Lib.hid tl
  rcases hg with h1 | ⟨h1, h2⟩
  · rw [decide_eq_true h1] at hgs
    have HGS := Lib.hid hgs
    clear hgs hgt h1 mc md sl tl hkst
    go_enter Tryd.func3, Tryd.ntmps3
    go_wp2_with (first
      | (with_reducible refine at_any ?_; refine at_dst 3 rfl ?_; refine wpList_box_any rfl 27 (.tmp 0) rfl (srcV s A c) rfl ?_; intro w1 hk1 hs1 hb1; have F1 := Lib.hid (Fx.newB (Fx.bel0 w) hk1.out hb1); clear hk1 hs1 hb1)
      | (with_reducible refine at_any ?_; refine at_dst 4 rfl ?_; refine wpList_box_any rfl 27 (.tmp 1) rfl (srcV t B d) rfl ?_; intro w2 hk2 hs2 hb2; have F2 := Lib.hid (Fx.newB F1.out hk2.out hb2); clear F1 hk2 hs2 hb2)
      | (go_at_call 7; (with_reducible refine (alive7_c _ (HKS.out.below (Fx.e2 F2.out))).mono ?_); rintro e wa ⟨rfl, hba⟩; have G0 := Lib.hid (F2.out.below hba); clear F2 hba)
      | (with_reducible refine at_any ?_; refine at_dst 16 rfl ?_; refine wpList_load_blk rfl 27 (.tmp 3) rfl w.heap.size rfl 27 (srcV s A c) (Fx.b1 G0.out) _ Tryd.underlying27 rfl (sizedS s HLs.out _ _) ?_)
      | (go_at_call 8; (with_reducible refine (HGS.out A c _).mono ?_); rintro e w51 ⟨rfl, hbw51⟩; have G52 := Lib.hid (Fx.below G0.out hbw51); clear G0; clear hbw51))
    go_ret
    exact ⟨rfl, (Fx.e2 G52.out)⟩
  · rw [decide_eq_false h1] at hgs
    rw [decide_eq_true h2] at hgt
    have HGS := Lib.hid hgs
    have HGT := Lib.hid hgt
    clear hgs hgt h1 h2 mc md sl tl hkst
    go_enter Tryd.func3, Tryd.ntmps3
    go_wp2_with (first
      | (with_reducible refine at_any ?_; refine at_dst 3 rfl ?_; refine wpList_box_any rfl 27 (.tmp 0) rfl (srcV s A c) rfl ?_; intro w1 hk1 hs1 hb1; have F1 := Lib.hid (Fx.newB (Fx.bel0 w) hk1.out hb1); clear hk1 hs1 hb1)
      | (with_reducible refine at_any ?_; refine at_dst 4 rfl ?_; refine wpList_box_any rfl 27 (.tmp 1) rfl (srcV t B d) rfl ?_; intro w2 hk2 hs2 hb2; have F2 := Lib.hid (Fx.newB F1.out hk2.out hb2); clear F1 hk2 hs2 hb2)
      | (go_at_call 7; (with_reducible refine (alive7_c _ (HKS.out.below (Fx.e2 F2.out))).mono ?_); rintro e wa ⟨rfl, hba⟩; have G0 := Lib.hid (F2.out.below hba); clear F2 hba)
      | (with_reducible refine at_any ?_; refine at_dst 16 rfl ?_; refine wpList_load_blk rfl 27 (.tmp 3) rfl w.heap.size rfl 27 (srcV s A c) (Fx.b1 G0.out) _ Tryd.underlying27 rfl (sizedS s HLs.out _ _) ?_)
      | (go_at_call 8; (with_reducible refine (HGS.out A c _).mono ?_); rintro e w51 ⟨rfl, hbw51⟩; have G52 := Lib.hid (Fx.below G0.out hbw51); clear G0; clear hbw51)
      | (with_reducible refine at_any ?_; refine at_dst 19 rfl ?_; refine wpList_load_gdb (by kernel_rfl) 27 (.tmp 4) rfl w1.heap.size rfl 27 (srcV t B d) (Fx.b0 G52.out) _ Tryd.underlying27 rfl (sizedS t HLt.out _ _) ?_)
      | (go_at_call 8; (with_reducible refine (HGT.out B d _).mono ?_); rintro e w53 ⟨rfl, hbw53⟩; have G54 := Lib.hid (Fx.below G52.out hbw53); clear G52; clear hbw53))
    go_ret
    exact ⟨rfl, (Fx.e2 G54.out)⟩
set_option maxHeartbeats 8000000 in
theorem main_walk (s t : Src) (A B : Option Addr) (c d : Nat) (k : Int) (oks : s.Ok) (okt : t.Ok) (w : World) (hrs : Rd .u8 w w.heap.size A s.tape.length s.tape) (hrt : Rd .u8 w w.heap.size B t.tape.length t.tape) (lc : s.tape.length ≤ c) (mc : c ≤ maxLen) (k0 : -9223372036854775808 ≤ k) (k1 : k < 9223372036854775808) (hg : ¬ 500 < s.tape.length) (hg2 : ¬ 500 < t.tape.length) (hkst : Kst w) :
    Calls Tryd.prog 3 #[.agg (srcV s A c), .agg (srcV t B d), .int .i64 k] w fun e w' => e = .returned (.bool true) ∧ Below w.heap.size w w' := by
  obtain ⟨ti, hti, hz0, hz1, hzb⟩ := info_parts info_u8'
  have HKS := Lib.hid hkst
  have HRS := Lib.hid hrs
  have HRT := Lib.hid hrt
  have hgs := fun A c W => great_c s (by omega) A c W
  have hgt := fun A c W => great_c t (by omega) A c W
  rw [decide_eq_false hg] at hgs
  rw [decide_eq_false hg2] at hgt
  have HGS := Lib.hid hgs
  have HGT := Lib.hid hgt
  have HLs := Lib.hid oks.sl
  have HLt := Lib.hid okt.sl
  have okX := takeS_ok oks k
  have hXt := takeS_tape s k
  obtain ⟨x, hx⟩ : ∃ x, takeV s k = x := ⟨_, rfl⟩
  obtain ⟨X, hX⟩ : ∃ x, takeS s k = x := ⟨_, rfl⟩
  obtain ⟨e, he⟩ : ∃ x, takeE s k = x := ⟨_, rfl⟩
  obtain ⟨rr, hrr⟩ : ∃ x, rightS s = x := ⟨_, rfl⟩
  obtain ⟨lf, hlf⟩ : ∃ x, leftS s = x := ⟨_, rfl⟩
  obtain ⟨sm, hsm⟩ : ∃ x, sameS s t = x := ⟨_, rfl⟩
  rw [hX] at okX hXt
  have HLX := Lib.hid okX.sl
  have HQ := Lib.hid (fun W h k' => (qstake_c s oks k k0 k1 A c lc mc W h k').mono fun _ _ h => take_u hx hX he h)
  have HR := Lib.hid (fun W h => (rstake_c s oks k k0 k1 A c lc mc W h).mono fun _ _ h => take_u hx hX he h)
  have hsx := fun A B c d W h1 h2 => rssame_c X X okX okX A B c d W h1 h2
  rw [sameS_refl, hXt] at hsx
  have HSX := Lib.hid hsx
  have hrq := fun A c W => qsright_c s oks A c W
  have hrr2 := fun A c W => rsright_c s oks A c W
  have hlq := fun A c W => qsleft_c s oks A c W
  have hlr := fun A c W => rsleft_c s oks A c W
  have hsq := fun A B c d W h1 h2 => qssame_c s t oks okt A B c d W h1 h2
  have hsr := fun A B c d W h1 h2 => rssame_c s t oks okt A B c d W h1 h2
  rw [hrr] at hrq hrr2
  rw [hlf] at hlq hlr
  rw [hsm] at hsq hsr
  have HRQ := Lib.hid hrq
  have HRR := Lib.hid hrr2
  have HLQ := Lib.hid hlq
  have HLR := Lib.hid hlr
  have HSQ := Lib.hid hsq
  have HSR := Lib.hid hsr
  have HCS := Lib.hid (fun (W : World) (g : Nat) (h : Blk W g 27 (srcV s A c)) => (h.cell 1).trans (srcV_tape s A c))
  have hsl : s.tape.length ≤ 500 := by omega
  have HZ0 := Lib.hid zero_src
  have HZL := Lib.hid (show Src.zero.seed.length = 32 from rfl)
  clear hgs hgt hsx okX hXt hx hX he hrr hrq hrr2 hlq hlr hsq hsr hlf hsm hrs hrt hkst oks okt hg hg2 k0 k1
  go_enter Tryd.func3, Tryd.ntmps3
  go_wp2_with (first
    | (with_reducible refine at_any ?_; refine at_dst 3 rfl ?_; refine wpList_box_any rfl 27 (.tmp 0) rfl (srcV s A c) rfl ?_; intro w1 hk1 hs1 hb1; have F1 := Lib.hid (Fx.newB (Fx.bel0 w) hk1.out hb1); clear hk1 hs1 hb1)
    | (with_reducible refine at_any ?_; refine at_dst 4 rfl ?_; refine wpList_box_any rfl 27 (.tmp 1) rfl (srcV t B d) rfl ?_; intro w2 hk2 hs2 hb2; have F2 := Lib.hid (Fx.newB F1.out hk2.out hb2); clear F1 hk2 hs2 hb2)
    | (go_at_call 7; (with_reducible refine (alive7_c _ (HKS.out.below (Fx.e2 F2.out))).mono ?_); rintro e wa ⟨rfl, hba⟩; have G0 := Lib.hid (F2.out.below hba); clear F2 hba)
    | (with_reducible refine at_any ?_; refine at_dst 16 rfl ?_; refine wpList_load_blk rfl 27 (.tmp 3) rfl w.heap.size rfl 27 (srcV s A c) (Fx.b1 G0.out) _ Tryd.underlying27 rfl (sizedS s HLs.out _ _) ?_)
    | (go_at_call 8; (with_reducible refine (HGS.out A c _).mono ?_); rintro e w51 ⟨rfl, hbw51⟩; have G52 := Lib.hid (Fx.below G0.out hbw51); clear G0; clear hbw51)
    | (with_reducible refine at_any ?_; refine at_dst 19 rfl ?_; refine wpList_load_gdb (by kernel_rfl) 27 (.tmp 4) rfl w1.heap.size rfl 27 (srcV t B d) (Fx.b0 G52.out) _ Tryd.underlying27 rfl (sizedS t HLt.out _ _) ?_)
    | (go_at_call 8; (with_reducible refine (HGT.out B d _).mono ?_); rintro e w53 ⟨rfl, hbw53⟩; have G54 := Lib.hid (Fx.below G52.out hbw53); clear G52; clear hbw53; have cs1 := HCS.out _ _ (Blk.alloc (Fx.b1 G54.out) (.cells #[] 5)))
    | (at_builtin; refine wpList_append_ints _ rfl (.tmp 22) (.tmp 24) 22 rfl w53.heap.size 5 ti _ 1 .u8 Tryd.underlying22 hti hz0 hz1 hzb rfl _ [] rfl (own_empty w53 5 .u8 (Nat.le_refl _)) w53.heap.size A s.tape.length c s.tape rfl (((HRS.out.below (Fx.e2 G54.out)).mono (Below.size (Fx.e2 G54.out))).alloc (Nat.le_refl _) _) (by simp [maxLen]; omega) (by simp; omega) (by simp) ?_; intro vw55 w55 hownw55 hgw55 hatw55; have hbw55 : Below w53.heap.size w53 w55 := (own_empty w53 5 .u8 (Nat.le_refl _)).below_ ((Below.refl _ _).alloc (Nat.le_refl _) _) (by simp) hgw55; simp only [List.nil_append] at hownw55; obtain ⟨A7, c7, rfl, hc7, hm7⟩ := hownw55.form; have G56 := Lib.hid (Fx.addR G54.out hbw55 (OwnI.rd hownw55 rfl)); clear G54; clear hgw55 hatw55 hownw55 hbw55 hc7 hm7)
    | (with_reducible refine at_any ?_; refine at_dst 27 rfl ?_; refine wpList_load_blk rfl 27 (.tmp 3) rfl w.heap.size rfl 27 (srcV s A c) (Fx.b2 G56.out) _ Tryd.underlying27 rfl (sizedS s HLs.out _ _) ?_)
    | (go_at_call 9; (with_reducible refine (HQ.out _ ((HRS.out.below (Fx.e3 G56.out)).mono (Below.size (Fx.e3 G56.out))) (HKS.out.below (Fx.e3 G56.out))).mono ?_); rintro e w57 ⟨A58, c59, rfl, hrw57, hlw57, hmw57, _, hbw57⟩; have lc59 := Lib.hid hlw57; have mc59 := Lib.hid hmw57; have G60 := Lib.hid (Fx.addR G56.out hbw57 hrw57); clear G56; clear hrw57 hbw57 hlw57 hmw57)
    | (with_reducible refine at_any ?_; refine at_dst 9 rfl ?_; refine wpList_alloc_any rfl 27 rfl (srcV Src.zero none 0) HZ0.out ?_; intro w61 hkw61 hsw61 hbw61; have U62 := Lib.hid (Fx.under_new G60.out rfl); have G63 := Lib.hid (Fx.newB G60.out hkw61.out hbw61); clear G60; clear hkw61 hsw61 hbw61)
    | (with_reducible refine at_any ?_; refine at_store 9 rfl ?_; refine wpList_store_any rfl 27 (.tmp 9) (.tmp 31) rfl w57.heap.size rfl 27 (srcV Src.zero none 0) (srcV X A58 c59) (Fx.b0 G63.out) rfl (srcV_same _ X HZL.out HLX.out _ _ _ _) (sizedS X HLX.out _ _) (srcV_ones _ _ _) ?_; intro w64 hkw64 hsw64 hbw64 how64; have G65 := Lib.hid (Fx.put1B G63.out U62.out hkw64.out hsw64.out hbw64 how64); clear G63; clear hkw64 hsw64 hbw64 how64)
    | (with_reducible refine at_any ?_; refine at_dst 34 rfl ?_; refine wpList_load_blk rfl 27 (.tmp 3) rfl w.heap.size rfl 27 (srcV s A c) (Fx.b4 G65.out) _ Tryd.underlying27 rfl (sizedS s HLs.out _ _) ?_)
    | (go_at_call 10; (with_reducible refine (HR.out _ ((HRS.out.below (Fx.e5 G65.out)).mono (Below.size (Fx.e5 G65.out)))).mono ?_); rintro e w66 ⟨A67, c68, rfl, hrw66, hlw66, hmw66, _, hbw66⟩; have lc68 := Lib.hid hlw66; have mc68 := Lib.hid hmw66; have G69 := Lib.hid (Fx.addR G65.out hbw66 hrw66); clear G65; clear hrw66 hbw66 hlw66 hmw66)
    | (with_reducible refine at_any ?_; refine at_dst 12 rfl ?_; refine wpList_alloc_any rfl 27 rfl (srcV Src.zero none 0) HZ0.out ?_; intro w70 hkw70 hsw70 hbw70; have U71 := Lib.hid (Fx.under_new G69.out rfl); have G72 := Lib.hid (Fx.newB G69.out hkw70.out hbw70); clear G69; clear hkw70 hsw70 hbw70)
    | (with_reducible refine at_any ?_; refine at_store 12 rfl ?_; refine wpList_store_any rfl 27 (.tmp 12) (.tmp 38) rfl w66.heap.size rfl 27 (srcV Src.zero none 0) (srcV X A67 c68) (Fx.b0 G72.out) rfl (srcV_same _ X HZL.out HLX.out _ _ _ _) (sizedS X HLX.out _ _) (srcV_ones _ _ _) ?_; intro w73 hkw73 hsw73 hbw73 how73; have G74 := Lib.hid (Fx.put1B G72.out U71.out hkw73.out hsw73.out hbw73 how73); clear G72; clear hkw73 hsw73 hbw73 how73))
  have HF := G74.out
  clear G74
  obtain ⟨g12, eg12⟩ : ∃ g, w66.heap.size = g := ⟨_, rfl⟩
  obtain ⟨g9, eg9⟩ : ∃ g, w57.heap.size = g := ⟨_, rfl⟩
  obtain ⟨b7, eb7⟩ : ∃ g, w55.heap.size = g := ⟨_, rfl⟩
  obtain ⟨g4, eg4⟩ : ∃ g, w1.heap.size = g := ⟨_, rfl⟩
  obtain ⟨g3, eg3⟩ : ∃ g, w.heap.size = g := ⟨_, rfl⟩
  rw [eg12, eg9, eb7, eg4, eg3] at HF
  rw [eg12, eg9, eg4, eg3]
  clear eg12 eg9 eb7 eg4 eg3
  refine wp_region_held_drew (S := (Fx [.blk g12 27 (srcV X A67 c68), .rdb .u8 g12 A67 s.tape.length s.tape, .blk g9 27 (srcV X A58 c59), .rdb .u8 g9 A58 s.tape.length s.tape, .rdb .u8 b7 A7 s.tape.length s.tape, .blk g4 27 (srcV t B d), .blk g3 27 (srcV s A c), .bel w])) (by kernel_rfl) (HF.drew) (fun hH => ?_)
  refine wpAnyH_letter #[false, false, false, false, false, false, false, false, false, false, false, false, false, false, false, false, false, false, false, false, false, false, false, false, false, false, false, false, false, false, false, false, false, false, false, false, false, false, false, false, false, false, false, false, false] (by kernel_rfl) (fun _ _ d _ _ h => by cases d <;> exact h) (fun QL HQ1 HQ2 => ?_)
  refine held_v 0 (some 40) rfl (by kernel_rfl) (by kernel_rfl) (by kernel_rfl) (by kernel_rfl) (fun c a v w h => HQ2.out c a _ v w h) (by kernel_rfl) (.int .u64 x) (fun W h => by kernel_rfl) hH ?_
  try simp only [Act.put, List.setIfInBounds_toArray, List.set_cons_zero, List.set_cons_succ]
  refine held_v 1 (some 41) rfl (by kernel_rfl) (by kernel_rfl) (by kernel_rfl) (by kernel_rfl) (fun c a v w h => HQ2.out c a _ v w h) (by kernel_rfl) (.int .u64 x) (fun W h => by kernel_rfl) hH ?_
  try simp only [Act.put, List.setIfInBounds_toArray, List.set_cons_zero, List.set_cons_succ]
  refine held_v 2 (some 42) rfl (by kernel_rfl) (by kernel_rfl) (by kernel_rfl) (by kernel_rfl) (fun c a v w h => HQ2.out c a _ v w h) (by kernel_rfl) (.bool true) (fun W h => by go_simp) hH ?_
  try simp only [Act.put, List.setIfInBounds_toArray, List.set_cons_zero, List.set_cons_succ]
  refine held_v 3 (some 43) rfl (by kernel_rfl) (by kernel_rfl) (by kernel_rfl) (by kernel_rfl) (fun c a v w h => HQ2.out c a _ v w h) (by kernel_rfl) (.bool true) (fun W h => by kernel_rfl) hH ?_
  try simp only [Act.put, List.setIfInBounds_toArray, List.set_cons_zero, List.set_cons_succ]
  refine held_row 4 (some 44) rfl (by kernel_rfl) (by kernel_rfl) (by kernel_rfl) (by kernel_rfl) (fun c a v w h => HQ2.out c a _ v w h) (by kernel_rfl) 27 (.tmp 9) rfl g9 (by kernel_rfl) 27 (srcV X A58 c59) (fun _ h => h.2.2.1) _ Tryd.underlying27 rfl (sizedS X HLX.out _ _) hH ?_
  try simp only [Act.put, List.setIfInBounds_toArray, List.set_cons_zero, List.set_cons_succ]
  refine held_row 5 (some 45) rfl (by kernel_rfl) (by kernel_rfl) (by kernel_rfl) (by kernel_rfl) (fun c a v w h => HQ2.out c a _ v w h) (by kernel_rfl) 27 (.tmp 12) rfl g12 (by kernel_rfl) 27 (srcV X A67 c68) (fun _ h => h.1) _ Tryd.underlying27 rfl (sizedS X HLX.out _ _) hH ?_
  try simp only [Act.put, List.setIfInBounds_toArray, List.set_cons_zero, List.set_cons_succ]
  refine wpAnyH_ready (rs := [6]) (by kernel_rfl) (by decide) ?_
  refine AllReadyH.cons rfl (fun K hK => ?_) AllReadyH.nil
  refine step_call (some 46) (by kernel_rfl) (by kernel_rfl) _ _ (by kernel_rfl) _ (HSX.out A58 A67 c59 c68 _ (Fx.r3 hH) (Fx.r1 hH)) ?_
  rintro e w41 ⟨rfl, hbw41⟩
  refine ⟨_, rfl, ?_⟩
  refine hK.out _ _ (hH.below hbw41) (fun hw41 => ?_)
  clear hK K
  try simp only [Act.put, List.setIfInBounds_toArray, List.set_cons_zero, List.set_cons_succ]
  refine held_v 7 (some 47) rfl (by kernel_rfl) (by kernel_rfl) (by kernel_rfl) (by kernel_rfl) (fun c a v w h => HQ2.out c a _ v w h) (by kernel_rfl) (.bool true) (fun W h => by kernel_rfl) hw41 ?_
  try simp only [Act.put, List.setIfInBounds_toArray, List.set_cons_zero, List.set_cons_succ]
  refine held_v 8 (some 48) rfl (by kernel_rfl) (by kernel_rfl) (by kernel_rfl) (by kernel_rfl) (fun c a v w h => HQ2.out c a _ v w h) (by kernel_rfl) (.bool true) (fun W h => by kernel_rfl) hw41 ?_
  try simp only [Act.put, List.setIfInBounds_toArray, List.set_cons_zero, List.set_cons_succ]
  refine held_v 9 (some 49) rfl (by kernel_rfl) (by kernel_rfl) (by kernel_rfl) (by kernel_rfl) (fun c a v w h => HQ2.out c a _ v w h) (by kernel_rfl) (.int .i64 e) (fun W h => by kernel_rfl) hw41 ?_
  try simp only [Act.put, List.setIfInBounds_toArray, List.set_cons_zero, List.set_cons_succ]
  refine held_v 10 (some 50) rfl (by kernel_rfl) (by kernel_rfl) (by kernel_rfl) (by kernel_rfl) (fun c a v w h => HQ2.out c a _ v w h) (by kernel_rfl) (.int .i64 e) (fun W h => by kernel_rfl) hw41 ?_
  try simp only [Act.put, List.setIfInBounds_toArray, List.set_cons_zero, List.set_cons_succ]
  refine held_v 11 (some 51) rfl (by kernel_rfl) (by kernel_rfl) (by kernel_rfl) (by kernel_rfl) (fun c a v w h => HQ2.out c a _ v w h) (by kernel_rfl) (.bool true) (fun W h => by go_simp) hw41 ?_
  try simp only [Act.put, List.setIfInBounds_toArray, List.set_cons_zero, List.set_cons_succ]
  refine held_v 12 (some 52) rfl (by kernel_rfl) (by kernel_rfl) (by kernel_rfl) (by kernel_rfl) (fun c a v w h => HQ2.out c a _ v w h) (by kernel_rfl) (.bool true) (fun W h => by kernel_rfl) hw41 ?_
  try simp only [Act.put, List.setIfInBounds_toArray, List.set_cons_zero, List.set_cons_succ]
  refine held_v 13 (some 53) rfl (by kernel_rfl) (by kernel_rfl) (by kernel_rfl) (by kernel_rfl) (fun c a v w h => HQ2.out c a _ v w h) (by kernel_rfl) (.bool true) (fun W h => by kernel_rfl) hw41 ?_
  try simp only [Act.put, List.setIfInBounds_toArray, List.set_cons_zero, List.set_cons_succ]
  refine held_row 14 (some 54) rfl (by kernel_rfl) (by kernel_rfl) (by kernel_rfl) (by kernel_rfl) (fun c a v w h => HQ2.out c a _ v w h) (by kernel_rfl) 27 (.tmp 3) rfl g3 (by kernel_rfl) 27 (srcV s A c) (fun _ h => h.2.2.2.2.2.2.1) _ Tryd.underlying27 rfl (sizedS s HLs.out _ _) hw41 ?_
  try simp only [Act.put, List.setIfInBounds_toArray, List.set_cons_zero, List.set_cons_succ]
  refine held_row 16 (some 56) rfl (by kernel_rfl) (by kernel_rfl) (by kernel_rfl) (by kernel_rfl) (fun c a v w h => HQ2.out c a _ v w h) (by kernel_rfl) 27 (.tmp 3) rfl g3 (by kernel_rfl) 27 (srcV s A c) (fun _ h => h.2.2.2.2.2.2.1) _ Tryd.underlying27 rfl (sizedS s HLs.out _ _) hw41 ?_
  try simp only [Act.put, List.setIfInBounds_toArray, List.set_cons_zero, List.set_cons_succ]
  refine wpAnyH_ready (rs := [15]) (by kernel_rfl) (by decide) ?_
  refine AllReadyH.cons rfl (fun K hK => ?_) AllReadyH.nil
  refine step_call (some 55) (by kernel_rfl) (by kernel_rfl) _ _ (by kernel_rfl) _ (HRQ.out A c _) ?_
  rintro e w42 ⟨rfl, hbw42⟩
  refine ⟨_, rfl, ?_⟩
  refine hK.out _ _ (hw41.below hbw42) (fun hw42 => ?_)
  clear hK K
  try simp only [Act.put, List.setIfInBounds_toArray, List.set_cons_zero, List.set_cons_succ]
  refine wpAnyH_ready (rs := [17]) (by kernel_rfl) (by decide) ?_
  refine AllReadyH.cons rfl (fun K hK => ?_) AllReadyH.nil
  refine step_call (some 57) (by kernel_rfl) (by kernel_rfl) _ _ (by kernel_rfl) _ (HRR.out A c _) ?_
  rintro e w43 ⟨rfl, hbw43⟩
  refine ⟨_, rfl, ?_⟩
  refine hK.out _ _ (hw42.below hbw43) (fun hw43 => ?_)
  clear hK K
  try simp only [Act.put, List.setIfInBounds_toArray, List.set_cons_zero, List.set_cons_succ]
  refine held_v 18 (some 58) rfl (by kernel_rfl) (by kernel_rfl) (by kernel_rfl) (by kernel_rfl) (fun c a v w h => HQ2.out c a _ v w h) (by kernel_rfl) (.bool true) (fun W h => by go_simp) hw43 ?_
  try simp only [Act.put, List.setIfInBounds_toArray, List.set_cons_zero, List.set_cons_succ]
  refine held_v 19 (some 59) rfl (by kernel_rfl) (by kernel_rfl) (by kernel_rfl) (by kernel_rfl) (fun c a v w h => HQ2.out c a _ v w h) (by kernel_rfl) (.bool true) (fun W h => by kernel_rfl) hw43 ?_
  try simp only [Act.put, List.setIfInBounds_toArray, List.set_cons_zero, List.set_cons_succ]
  refine held_v 20 (some 60) rfl (by kernel_rfl) (by kernel_rfl) (by kernel_rfl) (by kernel_rfl) (fun c a v w h => HQ2.out c a _ v w h) (by kernel_rfl) (.bool true) (fun W h => by kernel_rfl) hw43 ?_
  try simp only [Act.put, List.setIfInBounds_toArray, List.set_cons_zero, List.set_cons_succ]
  refine held_row 21 (some 61) rfl (by kernel_rfl) (by kernel_rfl) (by kernel_rfl) (by kernel_rfl) (fun c a v w h => HQ2.out c a _ v w h) (by kernel_rfl) 27 (.tmp 3) rfl g3 (by kernel_rfl) 27 (srcV s A c) (fun _ h => h.2.2.2.2.2.2.1) _ Tryd.underlying27 rfl (sizedS s HLs.out _ _) hw43 ?_
  try simp only [Act.put, List.setIfInBounds_toArray, List.set_cons_zero, List.set_cons_succ]
  refine held_row 23 (some 63) rfl (by kernel_rfl) (by kernel_rfl) (by kernel_rfl) (by kernel_rfl) (fun c a v w h => HQ2.out c a _ v w h) (by kernel_rfl) 27 (.tmp 3) rfl g3 (by kernel_rfl) 27 (srcV s A c) (fun _ h => h.2.2.2.2.2.2.1) _ Tryd.underlying27 rfl (sizedS s HLs.out _ _) hw43 ?_
  try simp only [Act.put, List.setIfInBounds_toArray, List.set_cons_zero, List.set_cons_succ]
  refine wpAnyH_ready (rs := [22]) (by kernel_rfl) (by decide) ?_
  refine AllReadyH.cons rfl (fun K hK => ?_) AllReadyH.nil
  refine step_call (some 62) (by kernel_rfl) (by kernel_rfl) _ _ (by kernel_rfl) _ (HLQ.out A c _) ?_
  rintro e w44 ⟨rfl, hbw44⟩
  refine ⟨_, rfl, ?_⟩
  refine hK.out _ _ (hw43.below hbw44) (fun hw44 => ?_)
  clear hK K
  try simp only [Act.put, List.setIfInBounds_toArray, List.set_cons_zero, List.set_cons_succ]
  refine wpAnyH_ready (rs := [24]) (by kernel_rfl) (by decide) ?_
  refine AllReadyH.cons rfl (fun K hK => ?_) AllReadyH.nil
  refine step_call (some 64) (by kernel_rfl) (by kernel_rfl) _ _ (by kernel_rfl) _ (HLR.out A c _) ?_
  rintro e w45 ⟨rfl, hbw45⟩
  refine ⟨_, rfl, ?_⟩
  refine hK.out _ _ (hw44.below hbw45) (fun hw45 => ?_)
  clear hK K
  try simp only [Act.put, List.setIfInBounds_toArray, List.set_cons_zero, List.set_cons_succ]
  refine held_v 25 (some 65) rfl (by kernel_rfl) (by kernel_rfl) (by kernel_rfl) (by kernel_rfl) (fun c a v w h => HQ2.out c a _ v w h) (by kernel_rfl) (.bool true) (fun W h => by go_simp) hw45 ?_
  try simp only [Act.put, List.setIfInBounds_toArray, List.set_cons_zero, List.set_cons_succ]
  refine held_v 26 (some 66) rfl (by kernel_rfl) (by kernel_rfl) (by kernel_rfl) (by kernel_rfl) (fun c a v w h => HQ2.out c a _ v w h) (by kernel_rfl) (.bool true) (fun W h => by kernel_rfl) hw45 ?_
  try simp only [Act.put, List.setIfInBounds_toArray, List.set_cons_zero, List.set_cons_succ]
  refine held_v 27 (some 67) rfl (by kernel_rfl) (by kernel_rfl) (by kernel_rfl) (by kernel_rfl) (fun c a v w h => HQ2.out c a _ v w h) (by kernel_rfl) (.bool true) (fun W h => by kernel_rfl) hw45 ?_
  try simp only [Act.put, List.setIfInBounds_toArray, List.set_cons_zero, List.set_cons_succ]
  refine held_row 28 (some 68) rfl (by kernel_rfl) (by kernel_rfl) (by kernel_rfl) (by kernel_rfl) (fun c a v w h => HQ2.out c a _ v w h) (by kernel_rfl) 27 (.tmp 3) rfl g3 (by kernel_rfl) 27 (srcV s A c) (fun _ h => h.2.2.2.2.2.2.1) _ Tryd.underlying27 rfl (sizedS s HLs.out _ _) hw45 ?_
  try simp only [Act.put, List.setIfInBounds_toArray, List.set_cons_zero, List.set_cons_succ]
  refine held_row 29 (some 69) rfl (by kernel_rfl) (by kernel_rfl) (by kernel_rfl) (by kernel_rfl) (fun c a v w h => HQ2.out c a _ v w h) (by kernel_rfl) 27 (.tmp 4) rfl g4 (by kernel_rfl) 27 (srcV t B d) (fun _ h => h.2.2.2.2.2.1) _ Tryd.underlying27 rfl (sizedS t HLt.out _ _) hw45 ?_
  try simp only [Act.put, List.setIfInBounds_toArray, List.set_cons_zero, List.set_cons_succ]
  refine held_row 31 (some 71) rfl (by kernel_rfl) (by kernel_rfl) (by kernel_rfl) (by kernel_rfl) (fun c a v w h => HQ2.out c a _ v w h) (by kernel_rfl) 27 (.tmp 3) rfl g3 (by kernel_rfl) 27 (srcV s A c) (fun _ h => h.2.2.2.2.2.2.1) _ Tryd.underlying27 rfl (sizedS s HLs.out _ _) hw45 ?_
  try simp only [Act.put, List.setIfInBounds_toArray, List.set_cons_zero, List.set_cons_succ]
  refine held_row 32 (some 72) rfl (by kernel_rfl) (by kernel_rfl) (by kernel_rfl) (by kernel_rfl) (fun c a v w h => HQ2.out c a _ v w h) (by kernel_rfl) 27 (.tmp 4) rfl g4 (by kernel_rfl) 27 (srcV t B d) (fun _ h => h.2.2.2.2.2.1) _ Tryd.underlying27 rfl (sizedS t HLt.out _ _) hw45 ?_
  try simp only [Act.put, List.setIfInBounds_toArray, List.set_cons_zero, List.set_cons_succ]
  refine wpAnyH_ready (rs := [30]) (by kernel_rfl) (by decide) ?_
  refine AllReadyH.cons rfl (fun K hK => ?_) AllReadyH.nil
  refine step_call (some 70) (by kernel_rfl) (by kernel_rfl) _ _ (by kernel_rfl) _ (HSQ.out A B c d _ ((HRS.out.below (Fx.e7 hw45)).mono (Below.size (Fx.e7 hw45))) ((HRT.out.below (Fx.e7 hw45)).mono (Below.size (Fx.e7 hw45)))) ?_
  rintro e w46 ⟨rfl, hbw46⟩
  refine ⟨_, rfl, ?_⟩
  refine hK.out _ _ (hw45.below hbw46) (fun hw46 => ?_)
  clear hK K
  try simp only [Act.put, List.setIfInBounds_toArray, List.set_cons_zero, List.set_cons_succ]
  refine wpAnyH_ready (rs := [33]) (by kernel_rfl) (by decide) ?_
  refine AllReadyH.cons rfl (fun K hK => ?_) AllReadyH.nil
  refine step_call (some 73) (by kernel_rfl) (by kernel_rfl) _ _ (by kernel_rfl) _ (HSR.out A B c d _ ((HRS.out.below (Fx.e7 hw46)).mono (Below.size (Fx.e7 hw46))) ((HRT.out.below (Fx.e7 hw46)).mono (Below.size (Fx.e7 hw46)))) ?_
  rintro e w47 ⟨rfl, hbw47⟩
  refine ⟨_, rfl, ?_⟩
  refine hK.out _ _ (hw46.below hbw47) (fun hw47 => ?_)
  clear hK K
  try simp only [Act.put, List.setIfInBounds_toArray, List.set_cons_zero, List.set_cons_succ]
  refine held_v 34 (some 74) rfl (by kernel_rfl) (by kernel_rfl) (by kernel_rfl) (by kernel_rfl) (fun c a v w h => HQ2.out c a _ v w h) (by kernel_rfl) (.bool true) (fun W h => by go_simp) hw47 ?_
  try simp only [Act.put, List.setIfInBounds_toArray, List.set_cons_zero, List.set_cons_succ]
  refine held_v 35 (some 75) rfl (by kernel_rfl) (by kernel_rfl) (by kernel_rfl) (by kernel_rfl) (fun c a v w h => HQ2.out c a _ v w h) (by kernel_rfl) (.bool true) (fun W h => by kernel_rfl) hw47 ?_
  try simp only [Act.put, List.setIfInBounds_toArray, List.set_cons_zero, List.set_cons_succ]
  refine held_v 36 (some 76) rfl (by kernel_rfl) (by kernel_rfl) (by kernel_rfl) (by kernel_rfl) (fun c a v w h => HQ2.out c a _ v w h) (by kernel_rfl) (.bool true) (fun W h => by kernel_rfl) hw47 ?_
  try simp only [Act.put, List.setIfInBounds_toArray, List.set_cons_zero, List.set_cons_succ]
  refine held_v 37 (some 77) rfl (by kernel_rfl) (by kernel_rfl) (by kernel_rfl) (by kernel_rfl) (fun c a v w h => HQ2.out c a _ v w h) (by kernel_rfl) (.slice A7 s.tape.length c7) (fun W h => by kernel_rfl) hw47 ?_
  try simp only [Act.put, List.setIfInBounds_toArray, List.set_cons_zero, List.set_cons_succ]
  refine held_v 38 (some 78) rfl (by kernel_rfl) (by kernel_rfl) (by kernel_rfl) (by kernel_rfl) (fun c a v w h => HQ2.out c a _ v w h) (by kernel_rfl) (.string (strB s.tape)) (fun W h => by have p := str_rd5 (c := c7) (Fx.q4 h); go_simp) hw47 ?_
  try simp only [Act.put, List.setIfInBounds_toArray, List.set_cons_zero, List.set_cons_succ]
  refine held_v 39 (some 79) rfl (by kernel_rfl) (by kernel_rfl) (by kernel_rfl) (by kernel_rfl) (fun c a v w h => HQ2.out c a _ v w h) (by kernel_rfl) (.pointer (some ⟨g3, 1, none⟩)) (fun W h => by kernel_rfl) hw47 ?_
  try simp only [Act.put, List.setIfInBounds_toArray, List.set_cons_zero, List.set_cons_succ]
  refine held_v 40 (some 80) rfl (by kernel_rfl) (by kernel_rfl) (by kernel_rfl) (by kernel_rfl) (fun c a v w h => HQ2.out c a _ v w h) (by kernel_rfl) (.slice A s.tape.length c) (fun W h => by have p := HCS.out W _ (Fx.b6 h); go_simp) hw47 ?_
  try simp only [Act.put, List.setIfInBounds_toArray, List.set_cons_zero, List.set_cons_succ]
  refine held_v 41 (some 81) rfl (by kernel_rfl) (by kernel_rfl) (by kernel_rfl) (by kernel_rfl) (fun c a v w h => HQ2.out c a _ v w h) (by kernel_rfl) (.string (strB s.tape)) (fun W h => by have p := str_rd5 (c := c) ((HRS.out.below (Fx.e7 h)).mono (Below.size (Fx.e7 h))); go_simp) hw47 ?_
  try simp only [Act.put, List.setIfInBounds_toArray, List.set_cons_zero, List.set_cons_succ]
  refine held_v 42 (some 82) rfl (by kernel_rfl) (by kernel_rfl) (by kernel_rfl) (by kernel_rfl) (fun c a v w h => HQ2.out c a _ v w h) (by kernel_rfl) (.bool true) (fun W h => by go_simp) hw47 ?_
  try simp only [Act.put, List.setIfInBounds_toArray, List.set_cons_zero, List.set_cons_succ]
  refine held_v 43 (some 83) rfl (by kernel_rfl) (by kernel_rfl) (by kernel_rfl) (by kernel_rfl) (fun c a v w h => HQ2.out c a _ v w h) (by kernel_rfl) (.bool true) (fun W h => by kernel_rfl) hw47 ?_
  try simp only [Act.put, List.setIfInBounds_toArray, List.set_cons_zero, List.set_cons_succ]
  refine held_v 44 (some 6) rfl (by kernel_rfl) (by kernel_rfl) (by kernel_rfl) (by kernel_rfl) (fun c a v w h => HQ2.out c a _ v w h) (by kernel_rfl) (.bool true) (fun W h => by kernel_rfl) hw47 ?_
  try simp only [Act.put, List.setIfInBounds_toArray, List.set_cons_zero, List.set_cons_succ]
  refine wpAnyH_done (by kernel_rfl) ?_ _
  refine HQ1.out _ _ ?_
  clear HQ1 HQ2
  go_wp2
  go_ret
  exact ⟨rfl, (Fx.e7 hw47)⟩
theorem walk (s0 : Src) (a0 : Option Addr) (c0 : Nat) (s1 : Src) (a1 : Option Addr) (c1 : Nat) (a2 : Int) (w : World) (ok0 : s0.tape.length ≤ 140737488355328 → s0.Ok) (rd0 : Rd .u8 w w.heap.size a0 s0.tape.length s0.tape) (lc0 : s0.tape.length ≤ c0) (cm0 : c0 ≤ maxLen) (sl0 : s0.seed.length = 32) (ok1 : s1.tape.length ≤ 140737488355328 → s1.Ok) (rd1 : Rd .u8 w w.heap.size a1 s1.tape.length s1.tape) (lc1 : s1.tape.length ≤ c1) (cm1 : c1 ≤ maxLen) (sl1 : s1.seed.length = 32) (w2 : (Lit.int .i64 a2).wf = true) (hkst : Kst w) :
    Calls Tryd.prog 3 #[.agg (srcV s0 a0 c0), .agg (srcV s1 a1 c1), .int .i64 a2] w fun e w' => e = .returned (.bool true) ∧ Below w.heap.size w w' := by
  have h2 := bounds_i64 w2
  have m0 : s0.tape.length ≤ 9223372036854775807 := by unfold maxLen at cm0; omega
  have m1 : s1.tape.length ≤ 9223372036854775807 := by unfold maxLen at cm1; omega
  by_cases h : 500 < s0.tape.length
  · exact great_walk s0 s1 a0 a1 c0 c1 a2 sl0 sl1 w m0 m1 (.inl h) hkst
  · by_cases h' : 500 < s1.tape.length
    · exact great_walk s0 s1 a0 a1 c0 c1 a2 sl0 sl1 w m0 m1 (.inr ⟨h, h'⟩) hkst
    · exact main_walk s0 s1 a0 a1 c0 c1 a2 (size_of s0 (by omega) ok0) (size_of s1 (by omega) ok1) w rd0 rd1 lc0 cm0 (by omega) (by omega) h h' hkst


set_option maxRecDepth 100000 in
theorem lifted (os : Os) (started : os.Started) (H : Type) (enc : TypeId × Value → H) :
    ReturnsInHanded {} Tryd.checked os 3 .any (fun w args => (Rows.tapeTakesSpec.pre enc Tryd.prog Tryd.f3 [] false w args ∧ laidMetH Tryd.prog laidK w) ∧ sizedMet enc Tryd.prog Tryd.f3 (OpenSpec.ofChange Rows.tapeTakesSpec) false w args) (Rows.tapeTakesSpec.post enc Tryd.prog Tryd.f3 false true false false) := by
  refine returnsInHanded_of_change_and (C := Tryd.checked) (X := fun w _ => laidMetH Tryd.prog laidK w) (fun _ _ _ hh h => h.of_heap hh) own started (by kernel_rfl) Tryd.func3
    (ChangeSpec.witness_shaped (enc := enc) (C := Tryd.checked) (os := os) (X := fun w _ => laidMetH Tryd.prog laidK w) false (World.doorLaid Tryd.prog 400 os) #[.agg #[.int .i64 0, .slice none 0 0, .int .u64 0, .int .u8 0, .int .u8 0, .int .u8 0, .int .u8 0, .int .u8 0, .int .u8 0, .int .u8 0, .int .u8 0, .int .u8 0, .int .u8 0, .int .u8 0, .int .u8 0, .int .u8 0, .int .u8 0, .int .u8 0, .int .u8 0, .int .u8 0, .int .u8 0, .int .u8 0, .int .u8 0, .int .u8 0, .int .u8 0, .int .u8 0, .int .u8 0, .int .u8 0, .int .u8 0, .int .u8 0, .int .u8 0, .int .u8 0, .int .u8 0, .int .u8 0, .int .u8 0, .int .u64 0, .int .u64 0], .agg #[.int .i64 0, .slice none 0 0, .int .u64 0, .int .u8 0, .int .u8 0, .int .u8 0, .int .u8 0, .int .u8 0, .int .u8 0, .int .u8 0, .int .u8 0, .int .u8 0, .int .u8 0, .int .u8 0, .int .u8 0, .int .u8 0, .int .u8 0, .int .u8 0, .int .u8 0, .int .u8 0, .int .u8 0, .int .u8 0, .int .u8 0, .int .u8 0, .int .u8 0, .int .u8 0, .int .u8 0, .int .u8 0, .int .u8 0, .int .u8 0, .int .u8 0, .int .u8 0, .int .u8 0, .int .u8 0, .int .u8 0, .int .u64 0, .int .u64 0], .int .i64 0] 8 rfl (World.shaped_of_RefB (by kernel_rfl) (by kernel_rfl)) (by kernel_rfl) (by kernel_rfl) (by kernel_rfl) (door_met os _)) ?_
  intro W base args ds gs before hval0 hW _ _ hL _
  have hval : ∀ (j : Nat) t v, Tryd.f3.params[j]? = some t → args[j]? = some v → Value.okWide Tryd.prog W .any base t v := hval0
  have hW' := hW
  obtain ⟨p, q, hA0, hV, rfl, hfz, hnd⟩ := hW
  have hA : DataW.TrodAll enc Tryd.prog W 0 (fun _ => true) true Tryd.f3.params.toList args.toList ds p := hA0
  rw [Tryd.params3] at hA hval
  obtain ⟨v0, vs0, d0, ds0, p0, q0, hargs, rfl, rfl, h0, r0⟩ := trodAll_cons hA
  obtain ⟨v1, vs1, d1, ds1, p1, q1, rfl, rfl, rfl, h1, r1⟩ := trodAll_cons r0
  obtain ⟨v2, vs2, d2, ds2, p2, q2, rfl, rfl, rfl, h2, r2⟩ := trodAll_cons r1
  obtain ⟨rfl, rfl, rfl⟩ := trodAll_nil r2
  obtain rfl : args = #[v0, v1, v2] := by cases args; simp_all
  obtain ⟨rfl, rfl⟩ := trodVars_none hV
  have k0 := h0
  have lt0 : ∀ x ∈ p0, x.block < W.heap.size := by obtain ⟨m, hm⟩ := k0; exact DataW.trod_lt m _ _ _ hm
  obtain ⟨s0, a0, c0, rfl, ok0, rd0, lc0, cm0, sl0⟩ := open_src (hval 0 27 v0 rfl rfl) h0
  have k1 := h1
  have lt1 : ∀ x ∈ p1, x.block < W.heap.size := by obtain ⟨m, hm⟩ := k1; exact DataW.trod_lt m _ _ _ hm
  obtain ⟨s1, a1, c1, rfl, ok1, rd1, lc1, cm1, sl1⟩ := open_src (hval 1 27 v1 rfl rfl) h1
  obtain ⟨a2, rfl, rfl, rfl, w2⟩ := open_int Tryd.underlying3 (hval 2 3 v2 rfl rfl) h2
  clear hA0 hval0
  refine (walk s0 a0 c0 s1 a1 c1 a2 W ok0 rd0 lc0 cm0 sl0 ok1 rd1 lc1 cm1 sl1 w2 (kst_of_laid hL)).mono fun e W' ⟨he, bel⟩ => ?_
  subst he
  exact ⟨_, rfl, _, _, _, [], _, [], hW', trodAll_mk1 (shut_bool Tryd.underlying4 _), (trodAll_cons_mk (Below.trod laidOut (by kernel_rfl) (of_decide_eq_true (by kernel_rfl)) k0 bel lt0) (trodAll_cons_mk (Below.trod laidOut (by kernel_rfl) (of_decide_eq_true (by kernel_rfl)) k1 bel lt1) (trodAll_cons_mk (shut_int Tryd.underlying3 w2) trodAll_mk0))), rfl, bel.frame _, fun h => by cases h⟩

theorem over : Rows.tapeTakesRow.holds Tryd.pinned (OpenSpec.ofChange Rows.tapeTakesSpec) :=
  OpenClaim.holds_of_wide 3 Tryd.f3 rfl rfl rfl rfl rfl rfl rfl ⟨rfl, rfl, rfl, rfl, rfl⟩ rfl rfl rfl rfl rfl (by kernel_rfl) Tryd.func3 (by kernel_rfl)
    (of_decide_eq_true (by kernel_rfl)) (by unfold Func.isWrapper; first | (rw [if_pos (by decide +kernel)]; kernel_rfl) | (rw [if_neg (by decide +kernel)]; exact ⟨rfl, rfl⟩))
    (fun os started H enc _ => lifted os started H enc)

end Go.Proofs.YtabfgkokilghcaaDoor.tapeTakes
namespace Go.Proofs.YtabfgkokilghcaaDoor
theorem tapeTakes_holds : Rows.TapeTakesCardSaid :=
  Claim7.holds_tied_plain_at .later [] [.data] true _ false
    tapeTakes.over (fun _ h => by cases h) (by kernel_rfl) (fun _ h => by cases h) tapeTakes_row_tie rfl ⟨rfl, rfl⟩ (by kernel_rfl) rfl
    (fun f fn hf hfn => by
      obtain rfl : f = 3 := Option.some.inj ((show Tryd.prog.funcNamed "drawlot/drawlotlaw07.TapeTakes" = some 3 by kernel_rfl).symm.trans hf) |>.symm
      obtain rfl : fn = Tryd.f3 := (Option.some.inj (Tryd.func3.symm.trans hfn)).symm
      exact ⟨by kernel_rfl, fun j t ht => by
        rw [Tryd.params3] at ht
        have hm : t ∈ [27, 27, 3] := by simpa using Array.mem_of_getElem? ht
        have hall : ([27, 27, 3].all fun u => !Tryd.prog.wantsStandIn u) = true := by kernel_rfl
        exact (show Tryd.prog.wantsStandIn t = false by simpa using List.all_eq_true.1 hall t hm)⟩)
    (by kernel_rfl)
#print axioms tapeTakes_holds
end Go.Proofs.YtabfgkokilghcaaDoor

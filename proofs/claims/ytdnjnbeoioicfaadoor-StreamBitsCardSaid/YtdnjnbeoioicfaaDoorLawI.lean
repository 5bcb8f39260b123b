/-
  What stage 6's fixed fact returns.
  Conditions: the table of constants holds what the program's text lays.
-/
import Derived.Test.YtdnjnbeoioicfaaDoorEqA
import Derived.Test.YtdnjnbeoioicfaaDoorStrmC
import Derived.Test.YtdnjnbeoioicfaaDoorRefM
set_option linter.unusedSimpArgs false
namespace Go.Proofs.YtdnjnbeoioicfaaDoor
open Go.ChangeShapes Go.WideShapes Go.ChangeAt Go.RowKit
set_option linter.unusedVariables false
def ZS : List Int := List.replicate 32 0
theorem ZS_len : ZS.length = 32 := rfl
theorem ZS_in : ∀ z ∈ ZS, 0 ≤ z ∧ z < 256 := by decide
theorem ZS_blk : blkL ZS 0 0 = shaL (List.replicate 48 0) := rfl
theorem zeros_in (n : Nat) : ∀ z ∈ List.replicate n (0 : Int), 0 ≤ z ∧ z < 256 := fun z h => by obtain ⟨_, rfl⟩ := List.mem_replicate.1 h; omega
theorem ZS_bit : bitN ZS 0 0 = bytN ZS 0 0 0 / 128 := by
  have h := bytN_in ZS 0 0 0
  unfold bitN
  rw [show ((0 : Int) % 256 / 8).toNat = 0 from rfl, show ((7 : Int) - 0 % 8).toNat = 7 from rfl, show (0 : Int) / 256 = 0 from rfl, show (2 : Int) ^ 7 = 128 from rfl]
  omega
theorem ZS_byt : (bytL ZS 0 33).getD 0 0 = bytN ZS 0 0 0 := bytL_at ZS 0 33 0 (by omega)
theorem index_h32 (zs : List Int) (hl : zs.length = 32) (i : Nat) (h1 : i < 32) (w : World) : (Instr.index 23 (.agg (intsA .u8 zs)) (.int .i64 (i : Int))).run Tryd.prog w = .ok (.int .u8 (zs.getD i 0)) w := by
  obtain ⟨f, hi, _, hs, _⟩ := info_parts info_u8'
  exact run_index_arr Tryd.underlying23 Tryd.underlying5 hi hs _ .i64 _ _ (by omega) (by omega) (by rw [Int.toNat_natCast]; exact intsA_at .u8 zs i (by omega)) w
theorem run_build_zs (w : World) : (Instr.build 23 #[]).run Tryd.prog w = .ok (.agg (intsA .u8 ZS)) w := run_build_hash w
theorem build_zs {a : Act} {o : Oper} (w : World) (ho : o.op = .build 23 #[]) : (execOp a.eval o).run Tryd.prog w = .ok (.value (.agg (intsA .u8 ZS))) w := build_hash w ho
theorem run_make48 (w : World) : (Instr.makeSlice 29 (.int .i64 48) (.int .i64 48)).run Tryd.prog w = .ok (.slice (some ⟨w.heap.size, 0, none⟩) 48 48) (w.alloc (.cells (intsA .u8 (List.replicate 48 0)) 5)) := by
  obtain ⟨i0, hi, hz0, hz1, hzb⟩ := info_parts info_u8'
  exact run_make_cap (P := Tryd.prog) 29 5 i0 .u8 Tryd.underlying29 hi hz0 hz1 hzb 48 48 (by omega) (by omega) w
theorem exec_make48 {a : Act} {o : Oper} (w : World) (ho : o.op = .makeSlice 29 (.const (.int .i64 48)) (.const (.int .i64 48))) : (execOp a.eval o).run Tryd.prog w = .ok (.value (.slice (some ⟨w.heap.size, 0, none⟩) 48 48)) (w.alloc (.cells (intsA .u8 (List.replicate 48 0)) 5)) := by
  unfold execOp
  simp only [ho]
  change ((Instr.makeSlice 29 (.int .i64 48) (.int .i64 48)) >>= fun v => pure (Next.value v)).run Tryd.prog w = _
  simp only [Sem.run_bind, run_make48, Result.andThen_ok, Sem.run_pure]
/-- The first cell of a slice. -/
theorem rd_first {k : IntKind} {w : World} {B b off n : Nat} {zs : List Int} {x : Int} (h : Rd k w B (some ⟨b, off, none⟩) (n + 1) zs) (hx : zs.getD 0 0 = x) : w.cell? ⟨b, off, none⟩ = some (.int k x) := by
  obtain ⟨b', off', e, _, hc⟩ := h.2 (by omega)
  injection e with e
  injection e with e1 e2
  subst e1 e2
  have := hc 0 (by omega)
  rwa [Nat.add_zero, hx] at this
set_option maxHeartbeats 4000000 in
theorem alive6_c (w : World) (hkst : Kst w) : Calls Tryd.prog 7 #[] w fun e w' => e = .returned (.bool true) ∧ Below w.heap.size w w' := by
  have hsp := fun W => qsplit_c 4294967298 (by omega) (by omega) W
  rw [show (4294967298 : Int) / 4294967296 = 1 from rfl, show (4294967298 : Int) % 4294967296 = 2 from rfl] at hsp
  have HSP := Lib.hid hsp
  have hdm := fun W => qdom_c 1 2 (by omega) (by omega) (by omega) (by omega) W
  rw [show (1 : Int) * 4294967296 + 2 = 4294967298 from rfl] at hdm
  have HDM := Lib.hid (fun W => (hdm W).mono fun e w' ⟨h1, h2⟩ => And.intro h1 h2.symm)
  have hby := fun W k => qbytes_c ZS 0 33 ZS_len ZS_in (by omega) (by omega) (by omega) W k
  rw [show ((33 : Nat) : Int) = 33 from rfl] at hby
  have HBY := Lib.hid hby
  have HBL := Lib.hid (fun W k => qblock_c ZS 0 0 ZS_len ZS_in (by omega) (by omega) (by omega) (by omega) W k)
  have hbt := fun W k => qbit_c ZS 0 0 ZS_len ZS_in (by omega) (by omega) (by omega) (by omega) W k
  rw [ZS_bit] at hbt
  have HSM := Lib.hid (fun A W h => rsum_c A 48 48 (List.replicate 48 0) W h (Nat.le_refl _) (by omega) (zeros_in 48))
  rw [← ZS_blk] at HSM
  have hx := bytN_in ZS 0 0 0
  have hb0 := ZS_byt
  have hrl := blkL_len ZS 0 0
  have hix := fun W => index_h32 (blkL ZS 0 0) hrl 0 (by omega) W
  rw [show (blkL ZS 0 0).getD 0 0 = bytN ZS 0 0 0 from rfl, show ((0 : Nat) : Int) = 0 from rfl] at hix
  obtain ⟨x, hxe⟩ : ∃ x, bytN ZS 0 0 0 = x := ⟨_, rfl⟩
  obtain ⟨R, hRe⟩ : ∃ R, blkL ZS 0 0 = R := ⟨_, rfl⟩
  obtain ⟨B, hBe⟩ : ∃ B, bytL ZS 0 33 = B := ⟨_, rfl⟩
  rw [hxe] at hx hb0 hix hbt
  rw [hRe] at HBL HSM hrl hix
  rw [hBe] at HBY hb0
  have HB0 := Lib.hid hb0
  have HIX := Lib.hid hix
  have HBT := Lib.hid hbt
  have HEQ := Lib.hid (fun W => same_hash R hrl W)
  have HX1 := Lib.hid (show IntKind.u64.wrap x = x by rw [IntKind.wrap_u64]; omega)
  have HX2 := Lib.hid (show IntKind.u64.wrap (x / 128) = x / 128 by rw [IntKind.wrap_u64]; omega)
  have HX3 := Lib.hid (show x.tdiv 128 = x / 128 from Int.tdiv_eq_ediv_of_nonneg hx.1)
  have HKS := Lib.hid hkst
  clear hsp hdm hby hbt hx hb0 hrl hix hxe hRe hBe hkst
  go_enter Tryd.func7, Tryd.ntmps7
  go_wp2_with (first
    | (go_at_call 15; (with_reducible refine (HSP.out _).mono ?_); rintro e _ ⟨rfl, rfl⟩)
    | (with_reducible refine at_any ?_; refine at_dst 8 rfl ?_; refine wpList_val rfl (.agg (intsA .u8 ZS)) (build_zs _ rfl) ?_)
    | (go_at_call 12; (with_reducible refine (HBY.out _ HKS.out).mono ?_); rintro e w2 ⟨A, c, rfl, hc, hcm, hrd, hb⟩))
  obtain ⟨b0, off, hA, _, _⟩ := hrd.2 (by omega)
  subst hA
  have F : (Fx [.rd .u8 (some ⟨b0, off, none⟩) 33 B, .bel w]) w2 := ⟨hrd, hb, trivial⟩
  clear hrd hb HBY HSP
  refine wp_region_held_drew (S := (Fx [.rd .u8 (some ⟨b0, off, none⟩) 33 B, .bel w])) (by kernel_rfl) (F.drew) (fun hH => ?_)
  refine wpAnyH_letter #[false, false, false, false, false, false, false, false, false, false, false, false, false, false, false, false, false, false, false, false, false, false, false, false, false, false, false, false, false, false, false, false, false, false, false, false, false, false, false, false, false, false] (by kernel_rfl) (fun _ _ d _ _ h => by cases d <;> exact h) (fun QL HQ1 HQ2 => ?_)
  refine wpAnyH_ready (rs := [0]) (by kernel_rfl) (by decide) ?_
  refine AllReadyH.cons rfl (fun K hK => ?_) AllReadyH.nil
  refine step_call (some 10) (by kernel_rfl) (by kernel_rfl) _ _ (by kernel_rfl) _ (HDM.out _) ?_
  rintro e _ ⟨rfl, rfl⟩
  refine ⟨_, rfl, ?_⟩
  refine hK.out _ _ hH (fun _ => ?_)
  clear hK K
  try simp only [Act.put, List.setIfInBounds_toArray, List.set_cons_zero, List.set_cons_succ]
  refine held_v 1 (some 11) rfl (by kernel_rfl) (by kernel_rfl) (by kernel_rfl) (by kernel_rfl) (fun c a v w h => HQ2.out c a _ v w h) (by kernel_rfl) (.bool true) (fun W h => by go_simp) hH ?_
  try simp only [Act.put, List.setIfInBounds_toArray, List.set_cons_zero, List.set_cons_succ]
  refine held_v 2 (some 12) rfl (by kernel_rfl) (by kernel_rfl) (by kernel_rfl) (by kernel_rfl) (fun c a v w h => HQ2.out c a _ v w h) (by kernel_rfl) (.bool true) (fun W h => by kernel_rfl) hH ?_
  try simp only [Act.put, List.setIfInBounds_toArray, List.set_cons_zero, List.set_cons_succ]
  refine held_v 3 (some 13) rfl (by kernel_rfl) (by kernel_rfl) (by kernel_rfl) (by kernel_rfl) (fun c a v w h => HQ2.out c a _ v w h) (by kernel_rfl) (.int .u32 1) (fun W h => by kernel_rfl) hH ?_
  try simp only [Act.put, List.setIfInBounds_toArray, List.set_cons_zero, List.set_cons_succ]
  refine held_v 4 (some 14) rfl (by kernel_rfl) (by kernel_rfl) (by kernel_rfl) (by kernel_rfl) (fun c a v w h => HQ2.out c a _ v w h) (by kernel_rfl) (.bool true) (fun W h => by go_simp) hH ?_
  try simp only [Act.put, List.setIfInBounds_toArray, List.set_cons_zero, List.set_cons_succ]
  refine held_v 5 (some 15) rfl (by kernel_rfl) (by kernel_rfl) (by kernel_rfl) (by kernel_rfl) (fun c a v w h => HQ2.out c a _ v w h) (by kernel_rfl) (.bool true) (fun W h => by kernel_rfl) hH ?_
  try simp only [Act.put, List.setIfInBounds_toArray, List.set_cons_zero, List.set_cons_succ]
  refine held_v 6 (some 16) rfl (by kernel_rfl) (by kernel_rfl) (by kernel_rfl) (by kernel_rfl) (fun c a v w h => HQ2.out c a _ v w h) (by kernel_rfl) (.bool true) (fun W h => by kernel_rfl) hH ?_
  try simp only [Act.put, List.setIfInBounds_toArray, List.set_cons_zero, List.set_cons_succ]
  refine held_v 7 (some 17) rfl (by kernel_rfl) (by kernel_rfl) (by kernel_rfl) (by kernel_rfl) (fun c a v w h => HQ2.out c a _ v w h) (by kernel_rfl) (.int .u32 2) (fun W h => by kernel_rfl) hH ?_
  try simp only [Act.put, List.setIfInBounds_toArray, List.set_cons_zero, List.set_cons_succ]
  refine held_v 8 (some 18) rfl (by kernel_rfl) (by kernel_rfl) (by kernel_rfl) (by kernel_rfl) (fun c a v w h => HQ2.out c a _ v w h) (by kernel_rfl) (.bool true) (fun W h => by go_simp) hH ?_
  try simp only [Act.put, List.setIfInBounds_toArray, List.set_cons_zero, List.set_cons_succ]
  refine held_v 9 (some 19) rfl (by kernel_rfl) (by kernel_rfl) (by kernel_rfl) (by kernel_rfl) (fun c a v w h => HQ2.out c a _ v w h) (by kernel_rfl) (.bool true) (fun W h => by kernel_rfl) hH ?_
  try simp only [Act.put, List.setIfInBounds_toArray, List.set_cons_zero, List.set_cons_succ]
  refine held_v 10 (some 20) rfl (by kernel_rfl) (by kernel_rfl) (by kernel_rfl) (by kernel_rfl) (fun c a v w h => HQ2.out c a _ v w h) (by kernel_rfl) (.bool true) (fun W h => by kernel_rfl) hH ?_
  try simp only [Act.put, List.setIfInBounds_toArray, List.set_cons_zero, List.set_cons_succ]
  refine held_v 11 (some 21) rfl (by kernel_rfl) (by kernel_rfl) (by kernel_rfl) (by kernel_rfl) (fun c a v w h => HQ2.out c a _ v w h) (by kernel_rfl) (.agg (intsA .u8 ZS)) (fun W h => by first | exact build_zs W rfl | go_simp) hH ?_
  try simp only [Act.put, List.setIfInBounds_toArray, List.set_cons_zero, List.set_cons_succ]
  refine wpAnyH_ready (rs := [12, 13]) (by kernel_rfl) (by decide) ?_
  refine AllReadyH.cons rfl (fun K hK => ?_) (AllReadyH.cons rfl (fun K hK => ?_) AllReadyH.nil)
  · refine step_call (some 22) (by kernel_rfl) (by kernel_rfl) _ _ (by kernel_rfl) _ (HBL.out _ (HKS.out.below hH.2.1)) ?_
    rintro e w42 ⟨rfl, hbw42⟩
    refine ⟨_, rfl, ?_⟩
    refine hK.out _ _ (hH.below hbw42) (fun hw42 => ?_)
    clear hK K
    try simp only [Act.put, List.setIfInBounds_toArray, List.set_cons_zero, List.set_cons_succ]
    refine wpAnyH_ready (rs := [13]) (by kernel_rfl) (by decide) ?_
    refine AllReadyH.cons rfl (fun K hK => ?_) AllReadyH.nil
    refine step_run (some 23) (by kernel_rfl) (by kernel_rfl) _ (exec_make48 _ rfl) ?_
    have hbw43 : Below (w42).heap.size (w42) ((w42).alloc (.cells (intsA .u8 (List.replicate 48 0)) 5)) := (Below.refl _ _).alloc (Nat.le_refl _) _
    obtain ⟨g44, eg44⟩ : ∃ g, (w42).heap.size = g := ⟨_, rfl⟩
    have ex45 : Fx [.rd .u8 (some ⟨g44, 0, none⟩) 48 (List.replicate 48 0)] ((w42).alloc (.cells (intsA .u8 (List.replicate 48 0)) 5)) := ⟨by rw [← eg44]; exact rd_len (BlkI.new _ _ _ _) (by simp), trivial⟩
    obtain ⟨w43, ew43⟩ : ∃ W, (w42).alloc (.cells (intsA .u8 (List.replicate 48 0)) 5) = W := ⟨_, rfl⟩
    rw [ew43] at hbw43 ex45
    rw [ew43, eg44]
    refine hK.out _ _ (hw42.below hbw43) (fun hw43 => ?_)
    clear hK K
    try simp only [Act.put, List.setIfInBounds_toArray, List.set_cons_zero, List.set_cons_succ]
    refine wpAnyH_ready (rs := [14]) (by kernel_rfl) (by decide) ?_
    refine AllReadyH.cons rfl (fun K hK => ?_) AllReadyH.nil
    refine step_call (some 24) (by kernel_rfl) (by kernel_rfl) _ _ (by kernel_rfl) _ (HSM.out _ _ ex45.1) ?_
    rintro e w46 ⟨rfl, hbw46⟩
    refine ⟨_, rfl, ?_⟩
    refine hK.out _ _ (hw43.below hbw46) (fun hw46 => ?_)
    clear hK K
    try simp only [Act.put, List.setIfInBounds_toArray, List.set_cons_zero, List.set_cons_succ]
    refine held_v 15 (some 25) rfl (by kernel_rfl) (by kernel_rfl) (by kernel_rfl) (by kernel_rfl) (fun c a v w h => HQ2.out c a _ v w h) (by kernel_rfl) (.bool true) (fun W h => by have p := HEQ.out W; go_simp) hw46 ?_
    try simp only [Act.put, List.setIfInBounds_toArray, List.set_cons_zero, List.set_cons_succ]
    refine held_v 16 (some 26) rfl (by kernel_rfl) (by kernel_rfl) (by kernel_rfl) (by kernel_rfl) (fun c a v w h => HQ2.out c a _ v w h) (by kernel_rfl) (.bool true) (fun W h => by kernel_rfl) hw46 ?_
    try simp only [Act.put, List.setIfInBounds_toArray, List.set_cons_zero, List.set_cons_succ]
    refine held_v 17 (some 27) rfl (by kernel_rfl) (by kernel_rfl) (by kernel_rfl) (by kernel_rfl) (fun c a v w h => HQ2.out c a _ v w h) (by kernel_rfl) (.bool true) (fun W h => by kernel_rfl) hw46 ?_
    try simp only [Act.put, List.setIfInBounds_toArray, List.set_cons_zero, List.set_cons_succ]
    refine held_v 18 (some 28) rfl (by kernel_rfl) (by kernel_rfl) (by kernel_rfl) (by kernel_rfl) (fun c a v w h => HQ2.out c a _ v w h) (by kernel_rfl) (.slice (some ⟨b0, off, none⟩) 33 c) (fun W h => by kernel_rfl) hw46 ?_
    try simp only [Act.put, List.setIfInBounds_toArray, List.set_cons_zero, List.set_cons_succ]
    refine held_v 19 (some 29) rfl (by kernel_rfl) (by kernel_rfl) (by kernel_rfl) (by kernel_rfl) (fun c a v w h => HQ2.out c a _ v w h) (by kernel_rfl) (.int .i64 33) (fun W h => by go_simp) hw46 ?_
    try simp only [Act.put, List.setIfInBounds_toArray, List.set_cons_zero, List.set_cons_succ]
    refine held_v 20 (some 30) rfl (by kernel_rfl) (by kernel_rfl) (by kernel_rfl) (by kernel_rfl) (fun c a v w h => HQ2.out c a _ v w h) (by kernel_rfl) (.bool true) (fun W h => by go_simp) hw46 ?_
    try simp only [Act.put, List.setIfInBounds_toArray, List.set_cons_zero, List.set_cons_succ]
    refine held_v 21 (some 31) rfl (by kernel_rfl) (by kernel_rfl) (by kernel_rfl) (by kernel_rfl) (fun c a v w h => HQ2.out c a _ v w h) (by kernel_rfl) (.bool true) (fun W h => by kernel_rfl) hw46 ?_
    try simp only [Act.put, List.setIfInBounds_toArray, List.set_cons_zero, List.set_cons_succ]
    refine held_v 22 (some 32) rfl (by kernel_rfl) (by kernel_rfl) (by kernel_rfl) (by kernel_rfl) (fun c a v w h => HQ2.out c a _ v w h) (by kernel_rfl) (.bool true) (fun W h => by kernel_rfl) hw46 ?_
    try simp only [Act.put, List.setIfInBounds_toArray, List.set_cons_zero, List.set_cons_succ]
    refine held_v 23 (some 33) rfl (by kernel_rfl) (by kernel_rfl) (by kernel_rfl) (by kernel_rfl) (fun c a v w h => HQ2.out c a _ v w h) (by kernel_rfl) (.slice (some ⟨b0, off, none⟩) 33 c) (fun W h => by kernel_rfl) hw46 ?_
    try simp only [Act.put, List.setIfInBounds_toArray, List.set_cons_zero, List.set_cons_succ]
    refine held_v 24 (some 34) rfl (by kernel_rfl) (by kernel_rfl) (by kernel_rfl) (by kernel_rfl) (fun c a v w h => HQ2.out c a _ v w h) (by kernel_rfl) (.pointer (some ⟨b0, off, none⟩)) (fun W h => by go_simp) hw46 ?_
    try simp only [Act.put, List.setIfInBounds_toArray, List.set_cons_zero, List.set_cons_succ]
    refine held_v 25 (some 35) rfl (by kernel_rfl) (by kernel_rfl) (by kernel_rfl) (by kernel_rfl) (fun c a v w h => HQ2.out c a _ v w h) (by kernel_rfl) (.int .u8 x) (fun W h => by have p := rd_first h.1 HB0.out; go_simp) hw46 ?_
    try simp only [Act.put, List.setIfInBounds_toArray, List.set_cons_zero, List.set_cons_succ]
    refine held_v 26 (some 36) rfl (by kernel_rfl) (by kernel_rfl) (by kernel_rfl) (by kernel_rfl) (fun c a v w h => HQ2.out c a _ v w h) (by kernel_rfl) (.agg (intsA .u8 ZS)) (fun W h => by first | exact build_zs W rfl | go_simp) hw46 ?_
    try simp only [Act.put, List.setIfInBounds_toArray, List.set_cons_zero, List.set_cons_succ]
    refine wpAnyH_ready (rs := [27]) (by kernel_rfl) (by decide) ?_
    refine AllReadyH.cons rfl (fun K hK => ?_) AllReadyH.nil
    refine step_call (some 37) (by kernel_rfl) (by kernel_rfl) _ _ (by kernel_rfl) _ (HBL.out _ (HKS.out.below hw46.2.1)) ?_
    rintro e w47 ⟨rfl, hbw47⟩
    refine ⟨_, rfl, ?_⟩
    refine hK.out _ _ (hw46.below hbw47) (fun hw47 => ?_)
    clear hK K
    try simp only [Act.put, List.setIfInBounds_toArray, List.set_cons_zero, List.set_cons_succ]
    refine held_v 28 (some 38) rfl (by kernel_rfl) (by kernel_rfl) (by kernel_rfl) (by kernel_rfl) (fun c a v w h => HQ2.out c a _ v w h) (by kernel_rfl) (.int .u8 x) (fun W h => by have p := HIX.out W; go_simp) hw47 ?_
    try simp only [Act.put, List.setIfInBounds_toArray, List.set_cons_zero, List.set_cons_succ]
    refine held_v 29 (some 39) rfl (by kernel_rfl) (by kernel_rfl) (by kernel_rfl) (by kernel_rfl) (fun c a v w h => HQ2.out c a _ v w h) (by kernel_rfl) (.bool true) (fun W h => by go_simp) hw47 ?_
    try simp only [Act.put, List.setIfInBounds_toArray, List.set_cons_zero, List.set_cons_succ]
    refine held_v 30 (some 40) rfl (by kernel_rfl) (by kernel_rfl) (by kernel_rfl) (by kernel_rfl) (fun c a v w h => HQ2.out c a _ v w h) (by kernel_rfl) (.bool true) (fun W h => by kernel_rfl) hw47 ?_
    try simp only [Act.put, List.setIfInBounds_toArray, List.set_cons_zero, List.set_cons_succ]
    refine held_v 31 (some 41) rfl (by kernel_rfl) (by kernel_rfl) (by kernel_rfl) (by kernel_rfl) (fun c a v w h => HQ2.out c a _ v w h) (by kernel_rfl) (.bool true) (fun W h => by kernel_rfl) hw47 ?_
    try simp only [Act.put, List.setIfInBounds_toArray, List.set_cons_zero, List.set_cons_succ]
    refine held_v 32 (some 42) rfl (by kernel_rfl) (by kernel_rfl) (by kernel_rfl) (by kernel_rfl) (fun c a v w h => HQ2.out c a _ v w h) (by kernel_rfl) (.agg (intsA .u8 ZS)) (fun W h => by first | exact build_zs W rfl | go_simp) hw47 ?_
    try simp only [Act.put, List.setIfInBounds_toArray, List.set_cons_zero, List.set_cons_succ]
    refine held_v 34 (some 44) rfl (by kernel_rfl) (by kernel_rfl) (by kernel_rfl) (by kernel_rfl) (fun c a v w h => HQ2.out c a _ v w h) (by kernel_rfl) (.slice (some ⟨b0, off, none⟩) 33 c) (fun W h => by kernel_rfl) hw47 ?_
    try simp only [Act.put, List.setIfInBounds_toArray, List.set_cons_zero, List.set_cons_succ]
    refine held_v 35 (some 45) rfl (by kernel_rfl) (by kernel_rfl) (by kernel_rfl) (by kernel_rfl) (fun c a v w h => HQ2.out c a _ v w h) (by kernel_rfl) (.pointer (some ⟨b0, off, none⟩)) (fun W h => by go_simp) hw47 ?_
    try simp only [Act.put, List.setIfInBounds_toArray, List.set_cons_zero, List.set_cons_succ]
    refine held_v 36 (some 46) rfl (by kernel_rfl) (by kernel_rfl) (by kernel_rfl) (by kernel_rfl) (fun c a v w h => HQ2.out c a _ v w h) (by kernel_rfl) (.int .u8 x) (fun W h => by have p := rd_first h.1 HB0.out; go_simp) hw47 ?_
    try simp only [Act.put, List.setIfInBounds_toArray, List.set_cons_zero, List.set_cons_succ]
    refine held_v 37 (some 47) rfl (by kernel_rfl) (by kernel_rfl) (by kernel_rfl) (by kernel_rfl) (fun c a v w h => HQ2.out c a _ v w h) (by kernel_rfl) (.int .u64 x) (fun W h => by have p := HX1.out; go_simp) hw47 ?_
    try simp only [Act.put, List.setIfInBounds_toArray, List.set_cons_zero, List.set_cons_succ]
    refine held_v 38 (some 48) rfl (by kernel_rfl) (by kernel_rfl) (by kernel_rfl) (by kernel_rfl) (fun c a v w h => HQ2.out c a _ v w h) (by kernel_rfl) (.int .u64 (x / 128)) (fun W h => by have p := HX2.out; have p2 := HX3.out; go_simp) hw47 ?_
    try simp only [Act.put, List.setIfInBounds_toArray, List.set_cons_zero, List.set_cons_succ]
    refine wpAnyH_ready (rs := [33]) (by kernel_rfl) (by decide) ?_
    refine AllReadyH.cons rfl (fun K hK => ?_) AllReadyH.nil
    refine step_call (some 43) (by kernel_rfl) (by kernel_rfl) _ _ (by kernel_rfl) _ (HBT.out _ (HKS.out.below hw47.2.1)) ?_
    rintro e w48 ⟨rfl, hbw48⟩
    refine ⟨_, rfl, ?_⟩
    refine hK.out _ _ (hw47.below hbw48) (fun hw48 => ?_)
    clear hK K
    try simp only [Act.put, List.setIfInBounds_toArray, List.set_cons_zero, List.set_cons_succ]
    refine held_v 39 (some 49) rfl (by kernel_rfl) (by kernel_rfl) (by kernel_rfl) (by kernel_rfl) (fun c a v w h => HQ2.out c a _ v w h) (by kernel_rfl) (.bool true) (fun W h => by go_simp) hw48 ?_
    try simp only [Act.put, List.setIfInBounds_toArray, List.set_cons_zero, List.set_cons_succ]
    refine held_v 40 (some 50) rfl (by kernel_rfl) (by kernel_rfl) (by kernel_rfl) (by kernel_rfl) (fun c a v w h => HQ2.out c a _ v w h) (by kernel_rfl) (.bool true) (fun W h => by kernel_rfl) hw48 ?_
    try simp only [Act.put, List.setIfInBounds_toArray, List.set_cons_zero, List.set_cons_succ]
    refine held_v 41 (some 0) rfl (by kernel_rfl) (by kernel_rfl) (by kernel_rfl) (by kernel_rfl) (fun c a v w h => HQ2.out c a _ v w h) (by kernel_rfl) (.bool true) (fun W h => by kernel_rfl) hw48 ?_
    try simp only [Act.put, List.setIfInBounds_toArray, List.set_cons_zero, List.set_cons_succ]
    refine wpAnyH_done (by kernel_rfl) ?_ _
    refine HQ1.out _ _ ?_
    clear HQ1 HQ2
    go_wp2
    go_ret
    exact ⟨rfl, hw48.2.1⟩
  · refine step_run (some 23) (by kernel_rfl) (by kernel_rfl) _ (exec_make48 _ rfl) ?_
    have hbw49 : Below (w2.drew).heap.size (w2.drew) ((w2.drew).alloc (.cells (intsA .u8 (List.replicate 48 0)) 5)) := (Below.refl _ _).alloc (Nat.le_refl _) _
    obtain ⟨g50, eg50⟩ : ∃ g, (w2.drew).heap.size = g := ⟨_, rfl⟩
    have ex51 : Fx [.rd .u8 (some ⟨g50, 0, none⟩) 48 (List.replicate 48 0)] ((w2.drew).alloc (.cells (intsA .u8 (List.replicate 48 0)) 5)) := ⟨by rw [← eg50]; exact rd_len (BlkI.new _ _ _ _) (by simp), trivial⟩
    obtain ⟨w49, ew49⟩ : ∃ W, (w2.drew).alloc (.cells (intsA .u8 (List.replicate 48 0)) 5) = W := ⟨_, rfl⟩
    rw [ew49] at hbw49 ex51
    rw [ew49, eg50]
    refine hK.out _ _ (hH.below hbw49) (fun hw49 => ?_)
    clear hK K
    try simp only [Act.put, List.setIfInBounds_toArray, List.set_cons_zero, List.set_cons_succ]
    refine wpAnyH_ready (rs := [12]) (by kernel_rfl) (by decide) ?_
    refine AllReadyH.cons rfl (fun K hK => ?_) AllReadyH.nil
    refine step_call (some 22) (by kernel_rfl) (by kernel_rfl) _ _ (by kernel_rfl) _ (HBL.out _ (HKS.out.below hw49.2.1)) ?_
    rintro e w52 ⟨rfl, hbw52⟩
    have ex53 := ex51.below hbw52
    refine ⟨_, rfl, ?_⟩
    refine hK.out _ _ (hw49.below hbw52) (fun hw52 => ?_)
    clear hK K
    try simp only [Act.put, List.setIfInBounds_toArray, List.set_cons_zero, List.set_cons_succ]
    refine wpAnyH_ready (rs := [14]) (by kernel_rfl) (by decide) ?_
    refine AllReadyH.cons rfl (fun K hK => ?_) AllReadyH.nil
    refine step_call (some 24) (by kernel_rfl) (by kernel_rfl) _ _ (by kernel_rfl) _ (HSM.out _ _ ex53.1) ?_
    rintro e w54 ⟨rfl, hbw54⟩
    refine ⟨_, rfl, ?_⟩
    refine hK.out _ _ (hw52.below hbw54) (fun hw54 => ?_)
    clear hK K
    try simp only [Act.put, List.setIfInBounds_toArray, List.set_cons_zero, List.set_cons_succ]
    refine held_v 15 (some 25) rfl (by kernel_rfl) (by kernel_rfl) (by kernel_rfl) (by kernel_rfl) (fun c a v w h => HQ2.out c a _ v w h) (by kernel_rfl) (.bool true) (fun W h => by have p := HEQ.out W; go_simp) hw54 ?_
    try simp only [Act.put, List.setIfInBounds_toArray, List.set_cons_zero, List.set_cons_succ]
    refine held_v 16 (some 26) rfl (by kernel_rfl) (by kernel_rfl) (by kernel_rfl) (by kernel_rfl) (fun c a v w h => HQ2.out c a _ v w h) (by kernel_rfl) (.bool true) (fun W h => by kernel_rfl) hw54 ?_
    try simp only [Act.put, List.setIfInBounds_toArray, List.set_cons_zero, List.set_cons_succ]
    refine held_v 17 (some 27) rfl (by kernel_rfl) (by kernel_rfl) (by kernel_rfl) (by kernel_rfl) (fun c a v w h => HQ2.out c a _ v w h) (by kernel_rfl) (.bool true) (fun W h => by kernel_rfl) hw54 ?_
    try simp only [Act.put, List.setIfInBounds_toArray, List.set_cons_zero, List.set_cons_succ]
    refine held_v 18 (some 28) rfl (by kernel_rfl) (by kernel_rfl) (by kernel_rfl) (by kernel_rfl) (fun c a v w h => HQ2.out c a _ v w h) (by kernel_rfl) (.slice (some ⟨b0, off, none⟩) 33 c) (fun W h => by kernel_rfl) hw54 ?_
    try simp only [Act.put, List.setIfInBounds_toArray, List.set_cons_zero, List.set_cons_succ]
    refine held_v 19 (some 29) rfl (by kernel_rfl) (by kernel_rfl) (by kernel_rfl) (by kernel_rfl) (fun c a v w h => HQ2.out c a _ v w h) (by kernel_rfl) (.int .i64 33) (fun W h => by go_simp) hw54 ?_
    try simp only [Act.put, List.setIfInBounds_toArray, List.set_cons_zero, List.set_cons_succ]
    refine held_v 20 (some 30) rfl (by kernel_rfl) (by kernel_rfl) (by kernel_rfl) (by kernel_rfl) (fun c a v w h => HQ2.out c a _ v w h) (by kernel_rfl) (.bool true) (fun W h => by go_simp) hw54 ?_
    try simp only [Act.put, List.setIfInBounds_toArray, List.set_cons_zero, List.set_cons_succ]
    refine held_v 21 (some 31) rfl (by kernel_rfl) (by kernel_rfl) (by kernel_rfl) (by kernel_rfl) (fun c a v w h => HQ2.out c a _ v w h) (by kernel_rfl) (.bool true) (fun W h => by kernel_rfl) hw54 ?_
    try simp only [Act.put, List.setIfInBounds_toArray, List.set_cons_zero, List.set_cons_succ]
    refine held_v 22 (some 32) rfl (by kernel_rfl) (by kernel_rfl) (by kernel_rfl) (by kernel_rfl) (fun c a v w h => HQ2.out c a _ v w h) (by kernel_rfl) (.bool true) (fun W h => by kernel_rfl) hw54 ?_
    try simp only [Act.put, List.setIfInBounds_toArray, List.set_cons_zero, List.set_cons_succ]
    refine held_v 23 (some 33) rfl (by kernel_rfl) (by kernel_rfl) (by kernel_rfl) (by kernel_rfl) (fun c a v w h => HQ2.out c a _ v w h) (by kernel_rfl) (.slice (some ⟨b0, off, none⟩) 33 c) (fun W h => by kernel_rfl) hw54 ?_
    try simp only [Act.put, List.setIfInBounds_toArray, List.set_cons_zero, List.set_cons_succ]
    refine held_v 24 (some 34) rfl (by kernel_rfl) (by kernel_rfl) (by kernel_rfl) (by kernel_rfl) (fun c a v w h => HQ2.out c a _ v w h) (by kernel_rfl) (.pointer (some ⟨b0, off, none⟩)) (fun W h => by go_simp) hw54 ?_
    try simp only [Act.put, List.setIfInBounds_toArray, List.set_cons_zero, List.set_cons_succ]
    refine held_v 25 (some 35) rfl (by kernel_rfl) (by kernel_rfl) (by kernel_rfl) (by kernel_rfl) (fun c a v w h => HQ2.out c a _ v w h) (by kernel_rfl) (.int .u8 x) (fun W h => by have p := rd_first h.1 HB0.out; go_simp) hw54 ?_
    try simp only [Act.put, List.setIfInBounds_toArray, List.set_cons_zero, List.set_cons_succ]
    refine held_v 26 (some 36) rfl (by kernel_rfl) (by kernel_rfl) (by kernel_rfl) (by kernel_rfl) (fun c a v w h => HQ2.out c a _ v w h) (by kernel_rfl) (.agg (intsA .u8 ZS)) (fun W h => by first | exact build_zs W rfl | go_simp) hw54 ?_
    try simp only [Act.put, List.setIfInBounds_toArray, List.set_cons_zero, List.set_cons_succ]
    refine wpAnyH_ready (rs := [27]) (by kernel_rfl) (by decide) ?_
    refine AllReadyH.cons rfl (fun K hK => ?_) AllReadyH.nil
    refine step_call (some 37) (by kernel_rfl) (by kernel_rfl) _ _ (by kernel_rfl) _ (HBL.out _ (HKS.out.below hw54.2.1)) ?_
    rintro e w55 ⟨rfl, hbw55⟩
    refine ⟨_, rfl, ?_⟩
    refine hK.out _ _ (hw54.below hbw55) (fun hw55 => ?_)
    clear hK K
    try simp only [Act.put, List.setIfInBounds_toArray, List.set_cons_zero, List.set_cons_succ]
    refine held_v 28 (some 38) rfl (by kernel_rfl) (by kernel_rfl) (by kernel_rfl) (by kernel_rfl) (fun c a v w h => HQ2.out c a _ v w h) (by kernel_rfl) (.int .u8 x) (fun W h => by have p := HIX.out W; go_simp) hw55 ?_
    try simp only [Act.put, List.setIfInBounds_toArray, List.set_cons_zero, List.set_cons_succ]
    refine held_v 29 (some 39) rfl (by kernel_rfl) (by kernel_rfl) (by kernel_rfl) (by kernel_rfl) (fun c a v w h => HQ2.out c a _ v w h) (by kernel_rfl) (.bool true) (fun W h => by go_simp) hw55 ?_
    try simp only [Act.put, List.setIfInBounds_toArray, List.set_cons_zero, List.set_cons_succ]
    refine held_v 30 (some 40) rfl (by kernel_rfl) (by kernel_rfl) (by kernel_rfl) (by kernel_rfl) (fun c a v w h => HQ2.out c a _ v w h) (by kernel_rfl) (.bool true) (fun W h => by kernel_rfl) hw55 ?_
    try simp only [Act.put, List.setIfInBounds_toArray, List.set_cons_zero, List.set_cons_succ]
    refine held_v 31 (some 41) rfl (by kernel_rfl) (by kernel_rfl) (by kernel_rfl) (by kernel_rfl) (fun c a v w h => HQ2.out c a _ v w h) (by kernel_rfl) (.bool true) (fun W h => by kernel_rfl) hw55 ?_
    try simp only [Act.put, List.setIfInBounds_toArray, List.set_cons_zero, List.set_cons_succ]
    refine held_v 32 (some 42) rfl (by kernel_rfl) (by kernel_rfl) (by kernel_rfl) (by kernel_rfl) (fun c a v w h => HQ2.out c a _ v w h) (by kernel_rfl) (.agg (intsA .u8 ZS)) (fun W h => by first | exact build_zs W rfl | go_simp) hw55 ?_
    try simp only [Act.put, List.setIfInBounds_toArray, List.set_cons_zero, List.set_cons_succ]
    refine held_v 34 (some 44) rfl (by kernel_rfl) (by kernel_rfl) (by kernel_rfl) (by kernel_rfl) (fun c a v w h => HQ2.out c a _ v w h) (by kernel_rfl) (.slice (some ⟨b0, off, none⟩) 33 c) (fun W h => by kernel_rfl) hw55 ?_
    try simp only [Act.put, List.setIfInBounds_toArray, List.set_cons_zero, List.set_cons_succ]
    refine held_v 35 (some 45) rfl (by kernel_rfl) (by kernel_rfl) (by kernel_rfl) (by kernel_rfl) (fun c a v w h => HQ2.out c a _ v w h) (by kernel_rfl) (.pointer (some ⟨b0, off, none⟩)) (fun W h => by go_simp) hw55 ?_
    try simp only [Act.put, List.setIfInBounds_toArray, List.set_cons_zero, List.set_cons_succ]
    refine held_v 36 (some 46) rfl (by kernel_rfl) (by kernel_rfl) (by kernel_rfl) (by kernel_rfl) (fun c a v w h => HQ2.out c a _ v w h) (by kernel_rfl) (.int .u8 x) (fun W h => by have p := rd_first h.1 HB0.out; go_simp) hw55 ?_
    try simp only [Act.put, List.setIfInBounds_toArray, List.set_cons_zero, List.set_cons_succ]
    refine held_v 37 (some 47) rfl (by kernel_rfl) (by kernel_rfl) (by kernel_rfl) (by kernel_rfl) (fun c a v w h => HQ2.out c a _ v w h) (by kernel_rfl) (.int .u64 x) (fun W h => by have p := HX1.out; go_simp) hw55 ?_
    try simp only [Act.put, List.setIfInBounds_toArray, List.set_cons_zero, List.set_cons_succ]
    refine held_v 38 (some 48) rfl (by kernel_rfl) (by kernel_rfl) (by kernel_rfl) (by kernel_rfl) (fun c a v w h => HQ2.out c a _ v w h) (by kernel_rfl) (.int .u64 (x / 128)) (fun W h => by have p := HX2.out; have p2 := HX3.out; go_simp) hw55 ?_
    try simp only [Act.put, List.setIfInBounds_toArray, List.set_cons_zero, List.set_cons_succ]
    refine wpAnyH_ready (rs := [33]) (by kernel_rfl) (by decide) ?_
    refine AllReadyH.cons rfl (fun K hK => ?_) AllReadyH.nil
    refine step_call (some 43) (by kernel_rfl) (by kernel_rfl) _ _ (by kernel_rfl) _ (HBT.out _ (HKS.out.below hw55.2.1)) ?_
    rintro e w56 ⟨rfl, hbw56⟩
    refine ⟨_, rfl, ?_⟩
    refine hK.out _ _ (hw55.below hbw56) (fun hw56 => ?_)
    clear hK K
    try simp only [Act.put, List.setIfInBounds_toArray, List.set_cons_zero, List.set_cons_succ]
    refine held_v 39 (some 49) rfl (by kernel_rfl) (by kernel_rfl) (by kernel_rfl) (by kernel_rfl) (fun c a v w h => HQ2.out c a _ v w h) (by kernel_rfl) (.bool true) (fun W h => by go_simp) hw56 ?_
    try simp only [Act.put, List.setIfInBounds_toArray, List.set_cons_zero, List.set_cons_succ]
    refine held_v 40 (some 50) rfl (by kernel_rfl) (by kernel_rfl) (by kernel_rfl) (by kernel_rfl) (fun c a v w h => HQ2.out c a _ v w h) (by kernel_rfl) (.bool true) (fun W h => by kernel_rfl) hw56 ?_
    try simp only [Act.put, List.setIfInBounds_toArray, List.set_cons_zero, List.set_cons_succ]
    refine held_v 41 (some 0) rfl (by kernel_rfl) (by kernel_rfl) (by kernel_rfl) (by kernel_rfl) (fun c a v w h => HQ2.out c a _ v w h) (by kernel_rfl) (.bool true) (fun W h => by kernel_rfl) hw56 ?_
    try simp only [Act.put, List.setIfInBounds_toArray, List.set_cons_zero, List.set_cons_succ]
    refine wpAnyH_done (by kernel_rfl) ?_ _
    refine HQ1.out _ _ ?_
    clear HQ1 HQ2
    go_wp2
    go_ret
    exact ⟨rfl, hw56.2.1⟩
end Go.Proofs.YtdnjnbeoioicfaaDoor

/-
  What the program's stream.Bit and Bytes return, and that they leave memory as it was.
  Conditions: the arguments lie in their types' ranges; the table of constants holds what the program's text lays.
-/
import Derived.Test.YtdnjnbeoioicfaaDoorStrmB
set_option linter.unusedSimpArgs false
namespace Go.Proofs.YtdnjnbeoioicfaaDoor
open Go.ChangeShapes Go.WideShapes Go.ChangeAt Go.RowKit
set_option linter.unusedVariables false
theorem and_one (x : Int) (h0 : 0 ≤ x) (h1 : x < 256) : bits .and .u64 x 1 = x % 2 := by
  have h : ∀ a : Fin 256, bits .and .u64 ((a : Nat) : Int) 1 = ((a : Nat) : Int) % 2 := by decide +kernel
  have := h ⟨x.toNat, by omega⟩
  rw [show ((⟨x.toNat, by omega⟩ : Fin 256) : Nat) = x.toNat from rfl, Int.toNat_of_nonneg h0] at this
  exact this
set_option maxHeartbeats 2000000 in
theorem qbit_c (s : List Int) (d n : Int) (hl : s.length = 32) (hs : ∀ z ∈ s, 0 ≤ z ∧ z < 256) (d0 : 0 ≤ d) (d1 : d < 18446744073709551616) (n0 : 0 ≤ n) (n1 : n < 18446744073709551616) (w : World) (hkst : Kst w) :
    Calls Tryd.prog 10 #[.agg (intsA .u8 s), .int .u64 d, .int .u64 n] w fun e w' => e = .returned (.int .u64 (bitN s d n)) ∧ Below w.heap.size w w' := by
  have HB := Lib.hid (fun W k => qblock_c s d (n / 256) hl hs d0 d1 (by omega) (by omega) W k)
  have hRl := blkL_len s d (n / 256)
  obtain ⟨R, hR⟩ : ∃ R, blkL s d (n / 256) = R := ⟨_, rfl⟩
  rw [hR] at HB hRl
  have hj : (n % 256 / 8).toNat < 32 := by omega
  have e1 : n % 256 / 8 = (((n % 256 / 8).toNat : Nat) : Int) := by omega
  have hb := bytN_in s d (n / 256) (n % 256 / 8).toNat
  have hbe : R.getD (n % 256 / 8).toNat 0 = bytN s d (n / 256) (n % 256 / 8).toNat := by unfold bytN; rw [hR]
  have e2 : 7 - n % 8 = (((7 - n % 8).toNat : Nat) : Int) := by omega
  have hq : (7 - n % 8).toNat ≤ 7 := by omega
  have hres : bitN s d n = bytN s d (n / 256) (n % 256 / 8).toNat / 2 ^ (7 - n % 8).toNat % 2 := rfl
  obtain ⟨j, hjj⟩ : ∃ j, (n % 256 / 8).toNat = j := ⟨_, rfl⟩
  obtain ⟨q, hqq⟩ : ∃ q, (7 - n % 8).toNat = q := ⟨_, rfl⟩
  rw [hjj] at hj e1 hb hbe hres
  rw [hqq] at e2 hq hres
  obtain ⟨b, hbb⟩ : ∃ b, bytN s d (n / 256) j = b := ⟨_, rfl⟩
  rw [hbb] at hb hbe hres
  have HRL := Lib.hid hRl
  have HBE := Lib.hid hbe
  have HC := Lib.hid (fun (W : World) g (h : BlkI W g 23 .u8 R) => (show W.cell? ⟨g, j, none⟩ = some (.int .u8 b) by rw [h.cell (by omega), hbe]))
  have p0 := Wd.pow_pos2 q
  have h2 : 0 ≤ b / 2 ^ q := Int.ediv_nonneg hb.1 (by omega)
  have h3 : b / 2 ^ q < 256 := by have := Int.ediv_le_self (2 ^ q) hb.1; omega
  have HA := Lib.hid (and_one (b / 2 ^ q) h2 h3)
  have HM := Lib.hid (show min q 8 = q by omega)
  have HRES := Lib.hid hres
  have SS := Lib.hid (show (Tryd.prog.info? 23).map (·.size) = some s.length by rw [hl]; exact size_hash)
  have SR := Lib.hid (show (Tryd.prog.info? 23).map (·.size) = some R.length by rw [hRl]; exact size_hash)
  obtain ⟨Z, hZ⟩ : ∃ Z : List Int, List.replicate 32 0 = Z := ⟨_, rfl⟩
  have HZ0 := Lib.hid zero_hash
  rw [hZ] at HZ0
  have ZR := Lib.hid (show Z.length = R.length by rw [hRl, ← hZ]; simp)
  have HKS := Lib.hid hkst
  obtain ⟨hb0, hb1⟩ := hb
  clear hZ hres hbb hbe hRl hR hl hs hkst
  go_enter Tryd.func10, Tryd.ntmps10
  go_wp2_with (first
    | (with_reducible refine at_any ?_; refine at_dst 3 rfl ?_; refine wpList_box_ints rfl 23 (.tmp 0) rfl .u8 s rfl ?_; intro w1 hk1 hs1 hb1; have F1 := Lib.hid (Fx.box hk1.out hb1); clear hk1 hs1 hb1)
    | (with_reducible refine at_any ?_; refine at_dst 9 rfl ?_; refine wpList_load_ints rfl 23 (.tmp 3) rfl w.heap.size rfl 23 .u8 s (Fx.fst F1.out) _ Tryd.underlying23 rfl SS.out ?_)
    | (go_at_call 8; (with_reducible refine (HB.out _ (HKS.out.below (Fx.bel2 F1.out))).mono ?_); rintro e w3 ⟨rfl, hb3⟩; have F3 := Lib.hid (F1.out.below hb3); clear F1 hb3)
    | (with_reducible refine at_any ?_; refine at_dst 7 rfl ?_; refine wpList_alloc_ints rfl 23 rfl .u8 Z HZ0.out ?_; intro w4 hk4 hs4 hb4; have U3 := Lib.hid (Fx.under_new F3.out rfl); have F4 := Lib.hid (Fx.new F3.out hk4.out hb4); clear hk4 hs4 F3 hb4)
    | (with_reducible refine at_any ?_; refine at_store 7 rfl ?_; refine wpList_store_ints rfl 23 (.tmp 7) (.tmp 13) rfl w3.heap.size rfl 23 .u8 Z R (Fx.fst F4.out) rfl ZR.out SR.out ?_; intro w5 hk5 hs5 hb5 ho5; have F5 := Lib.hid (Fx.put1 F4.out U3.out hk5.out hs5.out hb5 ho5); have cj := HC.out _ _ (Fx.fst F5.out); clear hk5 hs5 hb5 ho5 F4))
  go_ret
  exact ⟨ret_int (HA.out.trans HRES.out.symm), Fx.bel3 F5.out⟩
theorem qbytes_no (s : List Int) (d n : Int) (hl : s.length = 32) (n0 : -9223372036854775808 ≤ n) (n1 : n ≤ 9223372036854775807) (hn : n < 0 ∨ 4096 < n) (w : World) :
    Calls Tryd.prog 12 #[.agg (intsA .u8 s), .int .u64 d, .int .i64 n] w fun e w' => e = .returned (.slice none 0 0) ∧ Below w.heap.size w w' := by
  by_cases h : n < 0
  · go_enter Tryd.func12, Tryd.ntmps12
    go_wp2_with (with_reducible refine at_any ?_; refine at_dst 3 rfl ?_; refine wpList_box_ints rfl 23 (.tmp 0) rfl .u8 s rfl ?_; intro w1 hk1 hs1 hb1)
    go_ret
    exact ⟨rfl, hb1⟩
  · have h2 : 4096 < n := by omega
    go_enter Tryd.func12, Tryd.ntmps12
    go_wp2_with (with_reducible refine at_any ?_; refine at_dst 3 rfl ?_; refine wpList_box_ints rfl 23 (.tmp 0) rfl .u8 s rfl ?_; intro w1 hk1 hs1 hb1)
    go_ret
    exact ⟨rfl, hb1⟩
theorem rd_len {k : IntKind} {w : World} {g L : Nat} {t : TypeId} {zs : List Int} (h : BlkI w g t k zs) (hl : zs.length = L) : Rd k w w.heap.size (some ⟨g, 0, none⟩) L zs := by
  subst hl
  exact h.rd
def RetBy (w : World) (zs : List Int) (n : Nat) (e : Ending) (w' : World) : Prop := ∃ A c, e = .returned (.slice A n c) ∧ n ≤ c ∧ c ≤ maxLen ∧ Rd .u8 w' w'.heap.size A n zs ∧ Below w.heap.size w w'
set_option maxHeartbeats 2000000 in
theorem qbytes_c (s : List Int) (d : Int) (n : Nat) (hl : s.length = 32) (hs : ∀ z ∈ s, 0 ≤ z ∧ z < 256) (d0 : 0 ≤ d) (d1 : d < 18446744073709551616) (hn : n ≤ 4096) (w : World) (hkst : Kst w) :
    Calls Tryd.prog 12 #[.agg (intsA .u8 s), .int .u64 d, .int .i64 n] w (RetBy w (bytL s d n) n) := by
  obtain ⟨q, hq⟩ : ∃ q, (n + 31) / 32 = q := ⟨_, rfl⟩
  have hq1 : q ≤ 128 := by omega
  have e1 : ((n : Int) + 32 - 1) / 32 = (q : Int) := by omega
  have e2 : ((n : Int) + 32 - 1).tdiv 32 = (q : Int) := by rw [Int.tdiv_eq_ediv_of_nonneg (by omega)]; exact e1
  have hres : bytL s d n = (blksL s d q).take n := by unfold bytL; rw [hq]
  have hqn : n ≤ 32 * q := by omega
  obtain ⟨i0, hi, hz0, hz1, hzb⟩ := info_parts info_u8'
  have hmk : ∀ W, (Instr.makeSlice 29 (.int .i64 0) (.int .i64 ((q : Int) * 32))).run Tryd.prog W = .ok (.slice (some ⟨W.heap.size, 0, none⟩) 0 (32 * q)) (W.alloc (.cells (intsA .u8 (List.replicate (32 * q) 0)) 5)) := fun W => by
    have := run_make_cap (P := Tryd.prog) 29 5 i0 .u8 Tryd.underlying29 hi hz0 hz1 hzb 0 (32 * q) (by omega) (by omega) W
    rwa [show ((32 * q : Nat) : Int) = (q : Int) * 32 by omega] at this
  have HB := Lib.hid (fun (i : Nat) (h : i < q) W k => qblock_c s d (i : Int) hl hs d0 d1 (by omega) (by omega) W k)
  have HLB := Lib.hid (fun i : Nat => blkL_len s d (i : Int))
  have HNX := Lib.hid (fun i : Nat => blksL_next s d i)
  have HLL := Lib.hid (fun i : Nat => blksL_len s d i)
  have SS := Lib.hid (show (Tryd.prog.info? 23).map (·.size) = some s.length by rw [hl]; exact size_hash)
  have SH := Lib.hid size_hash
  obtain ⟨Z, hZ⟩ : ∃ Z : List Int, List.replicate 32 0 = Z := ⟨_, rfl⟩
  have HZ0 := Lib.hid zero_hash
  rw [hZ] at HZ0
  have HZL := Lib.hid (show Z.length = 32 by rw [← hZ]; simp)
  have HKS := Lib.hid hkst
  have HRES := Lib.hid hres
  clear hZ hq hres hl hs hkst
  go_enter Tryd.func12, Tryd.ntmps12
  go_wp2_with (with_reducible refine at_any ?_; refine at_dst 3 rfl ?_; refine wpList_box_ints rfl 23 (.tmp 0) rfl .u8 s rfl ?_; intro w1 hk1 hs1 hb1; have F1 := Lib.hid (Fx.box hk1.out hb1); clear hk1 hs1)
  have hown0 : OwnI (w1.alloc (.cells (intsA .u8 (List.replicate (32 * q) 0)) 5)) w.heap.size 5 .u8 (.slice (some ⟨w1.heap.size, 0, none⟩) 0 (32 * q)) [] :=
    OwnI.of_blk (cs := List.replicate (32 * q) 0) (BlkI.new _ _ _ _) hb1.size (by simp) (by simp [maxLen]; omega) (by simp) (by simp)
  have HF0 : Hid (Fx [.blk w.heap.size 23 (intsA .u8 s), .bel w] (w1.alloc (.cells (intsA .u8 (List.replicate (32 * q) 0)) 5))) := Lib.hid (F1.out.alloc _)
  have HO0 := Lib.hid hown0
  have HBase := Lib.hid hb1.size
  clear F1 hown0 hb1
  go_loopw [8, 26] (fun v c wr => ∃ i : Nat, i ≤ q ∧ c = .int .u64 i ∧ OwnI wr w.heap.size 5 .u8 v (blksL s d i) ∧ Fx [.blk w.heap.size 23 (intsA .u8 s), .bel w] wr) (fun _ c _ => q - (intOf c).toNat)
  case atStart => exact ⟨0, by omega, rfl, HO0.out, HF0.out⟩
  case round =>
    clear HO0 HF0
    obtain ⟨i, hi', rfl, hown, hF⟩ := hrel
    have hll := HLL.out i
    obtain ⟨A1, c1, rfl, hc1, hc2⟩ := hown.form
    by_cases hlt : i < q
    · have hnx := HNX.out i
      have hbl := HLB.out i
      have HBi := Lib.hid (fun W k => HB.out i hlt W k)
      obtain ⟨R, hR⟩ : ∃ R, blkL s d (i : Int) = R := ⟨_, rfl⟩
      obtain ⟨L, hL⟩ : ∃ L, blksL s d i = L := ⟨_, rfl⟩
      rw [hR] at hnx hbl HBi
      rw [hL] at hnx hll hown hc1 ⊢
      have HRL := Lib.hid hbl
      have ZR := Lib.hid (show Z.length = R.length by rw [hbl]; exact HZL.out)
      have SR := Lib.hid (show (Tryd.prog.info? 23).map (·.size) = some R.length by rw [hbl]; exact SH.out)
      have HOW := Lib.hid hown
      have HF := Lib.hid hF
      have HNXi := Lib.hid hnx
      have hLn : L.length + 32 ≤ 1000000 := by omega
      clear hnx hbl hR hL hown hF hll
      go_wp2_with (first
        | (with_reducible refine at_any ?_; refine at_dst 29 rfl ?_; refine wpList_load_ints rfl 23 (.tmp 3) rfl w.heap.size rfl 23 .u8 s (Fx.fst HF.out) _ Tryd.underlying23 rfl SS.out ?_)
        | (go_at_call 8; (with_reducible refine (HBi.out _ (HKS.out.below (Fx.bel2 HF.out))).mono ?_); rintro e w3 ⟨rfl, hb3⟩; have F3 := Lib.hid (HF.out.below hb3); have O3 := Lib.hid (HOW.out.below hb3); clear hb3)
        | (with_reducible refine at_any ?_; refine at_dst 10 rfl ?_; refine wpList_alloc_ints rfl 23 rfl .u8 Z HZ0.out ?_; intro w4 hk4 hs4 hb4; have U3 := Lib.hid (Fx.under_new F3.out rfl); have F4 := Lib.hid (Fx.new F3.out hk4.out hb4); have B4 := Lib.hid hb4; clear hk4 hs4 F3 hb4)
        | (with_reducible refine at_any ?_; refine at_store 10 rfl ?_; refine wpList_store_ints rfl 23 (.tmp 10) (.tmp 32) rfl w3.heap.size rfl 23 .u8 Z R (Fx.fst F4.out) rfl ZR.out SR.out ?_; intro w5 hk5 hs5 hb5 ho5; have F5 := Lib.hid (Fx.put1 F4.out U3.out hk5.out hs5.out hb5 ho5); have O5 := Lib.hid (O3.out.below (B4.out.trans (hb5 _ (Nat.le_refl _)))); clear hk5 hs5 hb5 ho5 F4 O3 B4)
        | (at_builtin; refine wpList_append_ints _ rfl (.tmp 33) (.tmp 34) 29 rfl w.heap.size 5 i0 _ 1 .u8 Tryd.underlying29 hi hz0 hz1 hzb rfl _ L rfl O5.out _ (some ⟨w3.heap.size, 0, none⟩) 32 32 R rfl (rd_len (Fx.fst F5.out) HRL.out) (by simp [maxLen]; omega) (by omega) (Below.size (Fx.bel3 F5.out)) ?_; intro v6 w6 hown6 hg6 hat6; have F6 := Lib.hid (Fx.grown (Fx.tl F5.out) O5.out (Fx.free2 (by decide)) (Below.size (Fx.bel3 F5.out)) hg6); rw [← HNXi.out] at hown6; have O6 := Lib.hid hown6; clear hg6 hat6 hown6))
      go_roundw
      case rel => exact ⟨i + 1, by omega, by go_num, O6.out, F6.out⟩
      case measure => simp [intOf]; omega
    · obtain rfl : i = q := by omega
      rw [hll] at hown hc1 ⊢
      have HLLq := Lib.hid hll
      have HOW := Lib.hid hown
      have HF := Lib.hid hF
      have ncap : n ≤ c1 := by omega
      clear hown hF hll
      go_wp2
      go_ret
      exact ⟨A1, n, rfl, Nat.le_refl _, by omega, by rw [HRES.out]; exact (HOW.out.rd HLLq.out).upto (by omega), Fx.bel2 HF.out⟩
end Go.Proofs.YtdnjnbeoioicfaaDoor

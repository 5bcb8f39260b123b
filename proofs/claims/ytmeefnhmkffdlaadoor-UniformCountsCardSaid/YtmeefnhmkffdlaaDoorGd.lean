/-
  Texts of this claim, joined: PadC, ShaH, ShaR, ShaW, ShaB, ShaA, StrmB, StrmC, TapO, TapN, TapA, UniA, LawK, OpenA, OpenC, SrcO, OwnC, UniQ. What each shows, and its conditions, stand at its own head.
-/
import Derived.Test.YtmeefnhmkffdlaaDoorGc
import Derived.Laws.Cover3
import Derived.Deep.QuietTactic
import Derived.BigQuiet
import Derived.Test.YtmeefnhmkffdlaaDoorRows
import Derived.ShutString
import Derived.ChangeOld
import Derived.Deep.Matrix
/-
  What the program's pad.Cut returns, and that it leaves memory as it was.
  Conditions: the arguments lie in their types' ranges; a message's length is small.
-/
set_option maxRecDepth 100000
namespace Go.Proofs.YtmeefnhmkffdlaaDoor
open Go.ChangeShapes Go.WideShapes Go.ChangeAt Go.RowKit
set_option linter.unusedVariables false

/-- The blocks' cells when j of them are filled. -/
def cutL (zs : List Int) (q j : Nat) : List Int := zs.take (64 * j) ++ List.replicate (64 * (q - j)) 0
theorem cutL_len (zs : List Int) (q j : Nat) (hj : j ≤ q) (hz : 64 * q ≤ zs.length) : (cutL zs q j).length = q * 64 := by
  simp [cutL]; omega
theorem cutL_zero (zs : List Int) (q : Nat) : List.replicate (q * 64) 0 = cutL zs q 0 := by simp [cutL, Nat.mul_comm]
theorem cutL_full (zs : List Int) (q : Nat) : cutL zs q q = zs.take (64 * q) := by simp [cutL]
theorem cutL_next (zs : List Int) (q j : Nat) (hj : j < q) (hz : 64 * q ≤ zs.length) : splice (cutL zs q j) (j * 64) ((zs.drop (64 * j)).take 64) = cutL zs q (j + 1) := by
  have e1 : (zs.take (64 * j)).length = j * 64 := by rw [List.length_take]; omega
  have e2 : ((zs.drop (64 * j)).take 64).length = 64 := by rw [List.length_take, List.length_drop]; omega
  have e3 : zs.take (64 * (j + 1)) = zs.take (64 * j) ++ (zs.drop (64 * j)).take 64 := by rw [Nat.mul_add, Nat.mul_one, List.take_add]
  rw [show cutL zs q (j + 1) = zs.take (64 * j) ++ (zs.drop (64 * j)).take 64 ++ List.replicate (64 * (q - (j + 1))) 0 by unfold cutL; rw [e3]]
  obtain ⟨x, hx⟩ : ∃ x, (zs.drop (64 * j)).take 64 = x := ⟨_, rfl⟩
  obtain ⟨h, hh⟩ : ∃ h, zs.take (64 * j) = h := ⟨_, rfl⟩
  unfold splice cutL
  rw [hh] at e1 ⊢
  rw [hx] at e2 ⊢
  rw [e2, List.take_append_of_le_length (by omega), List.take_of_length_le (by omega), List.drop_append, List.drop_eq_nil_of_le (by omega), List.nil_append, List.drop_replicate, List.append_assoc, e1]
  congr 3
  omega
theorem splice_all (L cs : List Int) (h : L.length = cs.length) : splice L 0 cs = cs := by
  unfold splice
  rw [List.take_zero, List.nil_append, Nat.zero_add, List.drop_eq_nil_of_le (by omega), List.append_nil]
theorem cutN_flat (zs : List Int) (q : Nat) : (cutN zs q).flatten = zs.take (64 * q) := by
  induction q with
  | zero => simp [cutN]
  | succ q ih =>
    rw [show cutN zs (q + 1) = cutN zs q ++ [(zs.drop (64 * q)).take 64] by unfold cutN; rw [List.range_succ, List.map_append]; rfl, List.flatten_append, ih, Nat.mul_add, Nat.mul_one, List.take_add]
    simp
theorem cutN_len (zs : List Int) (q : Nat) (hz : 64 * q ≤ zs.length) : ∀ x ∈ cutN zs q, x.length = 64 := by
  intro x hx
  unfold cutN at hx
  obtain ⟨i, hi, rfl⟩ := List.mem_map.1 hx
  have := List.mem_range.1 hi
  rw [List.length_take, List.length_drop]
  omega

set_option maxHeartbeats 1000000 in
theorem pcut_c (A : Option Addr) (c L : Nat) (zs : List Int) (w : World) (hr : Rd .u8 w w.heap.size A L zs) (hc : L ≤ c) (hL : L ≤ 1000000) :
    Calls Tryd.prog 55 #[.slice A L c] w (RetCutR w zs (L / 64) L (cutN zs (L / 64))) := by
  obtain ⟨i0, hi, hz0, hz1, hzb⟩ := info_parts info_u8'
  obtain ⟨i1, hi1, hy0, hy1, hyb⟩ := info_parts info_a64
  obtain ⟨q, hq⟩ : ∃ q, L / 64 = q := ⟨_, rfl⟩
  rw [hq]
  have hqI : (L : Int) / 64 = (q : Int) := by omega
  have hq1 : 64 * q ≤ L := by omega
  have hq2 : L < 64 * q + 64 := by omega
  obtain ⟨k, hk⟩ : ∃ k, L - 64 * q = k := ⟨_, rfl⟩
  have hkI : (L : Int) % 64 = (k : Int) := by omega
  have hmk : ∀ W, (Instr.makeSlice 64 (.int .i64 (q : Int)) (.int .i64 (q : Int))).run Tryd.prog W = .ok (.slice (some ⟨W.heap.size, 0, none⟩) q q) (W.alloc (.cells (intsA .u8 (List.replicate (q * 64) 0)) 81)) := fun W => run_make_arrs (P := Tryd.prog) 64 81 i1 .u8 64 (by omega) Tryd.underlying64 hi1 hy0 hy1 .i64 .i64 q (by rw [hyb]; omega) (by omega) W
  rw [cutL_zero zs] at hmk
  have hmk2 : ∀ W, (Instr.makeSlice 22 (.int .i64 (k : Int)) (.int .i64 (k : Int))).run Tryd.prog W = .ok (.slice (some ⟨W.heap.size, 0, none⟩) k k) (W.alloc (.cells (intsA .u8 (List.replicate k 0)) 5)) := fun W => run_make_ints (P := Tryd.prog) 22 5 i0 .u8 Tryd.underlying22 hi hz0 hz1 .i64 .i64 k (by rw [hzb]; omega) (by omega) W
  obtain ⟨ks, hks⟩ : ∃ ks : List Int, List.replicate k 0 = ks := ⟨_, rfl⟩
  rw [hks] at hmk2
  have HKS := Lib.hid hks
  have hlen := Lib.hid hr.len
  have HR := Lib.hid hr
  have HK := Lib.hid hk
  clear hq hks hr hk
  go_enter Tryd.func55, Tryd.ntmps55
  go_wp2
  go_loopw [13] (fun a wr => ∃ j : Nat, j ≤ q ∧ a = .int .i64 j ∧ BlkI wr w.heap.size 81 .u8 (cutL zs q j) ∧ Below w.heap.size w wr) (fun a _ => q - (intOf a).toNat)
  case atStart => exact ⟨0, by omega, rfl, BlkI.new _ _ _ _, (Below.refl _ _).alloc (Nat.le_refl _) _⟩
  case round =>
    obtain ⟨j, hj, rfl, hblk, hb⟩ := hrel
    by_cases hlt : j < q
    · obtain ⟨m, hm⟩ : ∃ m, 64 * j = m := ⟨_, rfl⟩
      have e64 : IntKind.i64.wrap ((j : Int) * 64) = (m : Int) := by rw [IntWalk.i64_in _ (by omega)]; omega
      have m0 : (0 : Int) ≤ (m : Int) := by omega
      have m1 : (m : Int) ≤ (L : Int) := by omega
      have m2 : m + 64 ≤ L := by omega
      have m3 : ¬ c = m := by omega
      have j0 : (0 : Int) ≤ (j : Int) := by omega
      have j1 : (j : Int) < (q : Int) := by omega
      have hsrc := ((HR.out.below hb).from_ (i := m) (by omega) hc).upto (j := 64) (by omega)
      rw [if_neg m3] at hsrc
      obtain ⟨b0, off, rfl, hb0, _⟩ := HR.out.at_ (by omega)
      rw [Option.map_some, Nat.mul_one, add_flat] at hsrc
      have hnx := cutL_next zs q j hlt (by rw [hlen.out]; exact hq1)
      rw [hm] at hnx
      obtain ⟨x, hx⟩ : ∃ x, (zs.drop m).take 64 = x := ⟨_, rfl⟩
      rw [hx] at hnx hsrc
      have hcl := cutL_len zs q j hj (by rw [hlen.out]; exact hq1)
      have HNX := Lib.hid hnx
      have HCL := Lib.hid hcl
      have HSR := Lib.hid hsrc
      have HBL := Lib.hid hblk
      have HB := Lib.hid hb
      clear hnx hcl hsrc hblk hx hm hb
      go_wp2
      go_region_law (refine step_dst 24 rfl ?_; refine step_copy_ints rfl (.tmp 19) (.tmp 23) 22 22 rfl 5 Tryd.underlying22 size_u8 (some ⟨w.heap.size, j * 64, none⟩) (some ⟨b0, off + m, none⟩) 64 64 (L - m) (c - m) (by kernel_rfl) (by kernel_rfl) w.heap.size (j * 64) .u8 _ 81 HBL.out.drew 64 (by omega) _ x HSR.out.drew (fun _ => rfl) (by rw [HCL.out]; omega) w.heap.size w HB.out.drew (Nat.le_refl _) ?_; intro w6 HK6 hb6)
      all_goals
        go_wp2
        go_roundw
        case rel => exact ⟨j + 1, by omega, by go_num, by rw [← HNX.out]; exact HK6.out, hb6⟩
        case measure => simp [intOf]; omega
    · obtain rfl : j = q := by omega
      have hk1 := HK.out
      have hfr : Rd .u8 wr w.heap.size (if c = L - k then A else A.map (·.add ((L - k) * 1))) k (zs.drop (64 * j)) := by
        have h := (HR.out.below hb).from_ (i := L - k) (by omega) hc
        rw [show L - (L - k) = k by omega, show zs.drop (L - k) = zs.drop (64 * j) by congr 1; omega] at h
        exact h
      rw [Nat.mul_one] at hfr
      have hdl : (zs.drop (64 * j)).length = k := by rw [List.length_drop, hlen.out]; exact hk1
      obtain ⟨y, hy⟩ : ∃ y, zs.drop (64 * j) = y := ⟨_, rfl⟩
      have hsp := splice_all ks y (by rw [← HKS.out, ← hy, hdl]; simp)
      have hkl : ks.length = k := by rw [← HKS.out]; simp
      have HY := Lib.hid hy
      rw [hy] at hfr hdl
      have HDL := Lib.hid hdl
      have HSP := Lib.hid hsp
      have HKL := Lib.hid hkl
      have HBL := Lib.hid hblk
      have HB := Lib.hid hb
      have hkL : k ≤ L := by omega
      clear hdl hsp hkl hblk hb hk1 hy HKS
      by_cases hck : c = L - k
      all_goals
        first | rw [if_pos hck] at hfr | rw [if_neg hck] at hfr
        have HF := Lib.hid hfr
        clear hfr
        go_wp2_with (with_reducible refine at_any ?_; refine at_dst 38 rfl ?_; refine wpList_copy_ints rfl (.tmp 30) (.tmp 37) 22 22 rfl 5 Tryd.underlying22 size_u8 _ _ _ _ _ _ rfl rfl wr.heap.size 0 .u8 ks 5 (BlkI.new _ _ _ _) k (by omega) w.heap.size y (HF.out.alloc HB.out.size _) (fun _ => rfl) (by rw [HKL.out]; omega) wr.heap.size wr ((Below.refl _ _).alloc (Nat.le_refl _) _) (Nat.le_refl _) ?_; intro w7 HK7 hb7)
        go_ret2
        have hcn : (cutN zs j).length = j := by simp [cutN]
        have hkk := HK7.out
        rw [HSP.out] at hkk
        have hr2 := hkk.rd
        rw [HDL.out] at hr2
        have hr1 := (HBL.out.below hb7 HBL.out.lt).rdA (s := 64) (bs := cutN zs j) (by rw [cutL_full, cutN_flat]) (cutN_len zs j (by rw [hlen.out]; exact hq1))
        rw [hcn] at hr1
        exact ⟨some ⟨w.heap.size, 0, none⟩, j, some ⟨wr.heap.size, 0, none⟩, k, by rw [hcn, HK.out]; rfl, by rw [hcn]; exact hr1, by rw [HK.out, HY.out]; exact hr2, by rw [HK.out]; exact Nat.le_refl _, HB.out.trans (hb7.mono HB.out.size)⟩
end Go.Proofs.YtmeefnhmkffdlaaDoor
/-
  What the program's (writing).hash returns, and that it leaves older memory as it was.
  Conditions: the arguments lie in their types' ranges.
-/
set_option maxRecDepth 100000
set_option linter.unusedSimpArgs false
namespace Go.Proofs.YtmeefnhmkffdlaaDoor
open Go.ChangeShapes Go.WideShapes Go.ChangeAt Go.RowKit
set_option linter.unusedVariables false
theorem zero_b64h : ∀ W, (zeroValue 81).run Tryd.prog W = .ok (.agg (intsA .u8 (List.replicate 64 0))) W := (zero_of_info (n := 64) (by kernel_rfl)).1
theorem RdA.onlyW {w w' : World} {A : Option Addr} {n g : Nat} {bs : List (List Int)} {t : TypeId} {s : List Int} {A' : Option Addr} {r c : Nat} {m : Int} (h : RdA .u8 64 w w.heap.size A n bs) (hk : Blk w g t (wrV s A' r c m)) (ho : Only g w w') : RdA .u8 64 w' w'.heap.size A n bs := by
  refine ⟨h.1, h.2.1, fun hn => ?_⟩
  obtain ⟨b, off, e, hlt, hc⟩ := h.2.2 hn
  have hne : b ≠ g := by
    rintro rfl
    obtain ⟨b1, off1, e1, _, h1⟩ := h.at_ hn
    rw [e] at e1
    injection e1 with e1
    injection e1 with e2 e3
    have hl : (bs.getD 0 []).length = 64 := h.2.1 _ (by
      have : 0 < bs.length := by rw [h.1]; exact hn
      simp [List.getD, List.getElem?_eq_getElem this])
    obtain ⟨x, hx⟩ : ∃ x, bs.getD 0 [] = x := ⟨_, rfl⟩
    rw [hx] at h1 hl
    cases x with
    | nil => simp at hl
    | cons y ys =>
    have h0 := h1 0 (.int .u8 y) rfl
    rw [← e2, hk.cell] at h0
    exact wrV_kind _ _ _ _ _ _ _ h0
  refine ⟨b, off, e, Nat.lt_of_lt_of_le hlt ho.size, fun j u hu => ?_⟩
  rw [World.cell?_of_block (w := w) (w' := w') (a := ⟨b, off + j, none⟩) (ho.block b hlt hne)]
  exact hc j u hu
/-- What hash keeps: the writer, the blocks, its result's place. -/
def Hs (w0 : World) (g g2 : Nat) (A : Option Addr) (c : Nat) (s r : List Int) (n : Int) (A4 : Option Addr) (BS : List (List Int)) (Z : List Int) (w : World) : Prop :=
  Wrt w0 g A c s r n w ∧ RdA .u8 64 w w.heap.size A4 BS.length BS ∧ BlkI w g2 25 .u8 Z ∧ g2 ≠ g
theorem Hs.below {w0 w w' : World} {g g2 : Nat} {A : Option Addr} {c : Nat} {s r : List Int} {n : Int} {A4 : Option Addr} {BS : List (List Int)} {Z : List Int} (h : Hs w0 g g2 A c s r n A4 BS Z w) (hb : Below w.heap.size w w') : Hs w0 g g2 A c s r n A4 BS Z w' :=
  ⟨h.1.below hb, (h.2.1.below hb).mono hb.size, h.2.2.1.below hb h.2.2.1.lt, h.2.2.2⟩
theorem Hs.only {w0 w w' : World} {g g2 : Nat} {A : Option Addr} {c : Nat} {s s' r : List Int} {n : Int} {A4 : Option Addr} {BS : List (List Int)} {Z : List Int} (h : Hs w0 g g2 A c s r n A4 BS Z w) (ho : Only g w w') (hk : Blk w' g 88 (wrV s' A r.length c n)) : Hs w0 g g2 A c s' r n A4 BS Z w' :=
  ⟨h.1.only ho hk, h.2.1.onlyW h.1.1 ho, Blk.only h.2.2.1 ho h.2.2.2, h.2.2.2⟩
theorem Wrt.blk {w0 w : World} {g : Nat} {A : Option Addr} {c : Nat} {s r : List Int} {n : Int} (h : Wrt w0 g A c s r n w) : Blk w g 88 (wrV s A r.length c n) := h.1
theorem Hs.wrt {w0 w : World} {g g2 : Nat} {A : Option Addr} {c : Nat} {s r : List Int} {n : Int} {A4 : Option Addr} {BS : List (List Int)} {Z : List Int} (h : Hs w0 g g2 A c s r n A4 BS Z w) : Wrt w0 g A c s r n w := h.1
theorem Hs.res {w0 w : World} {g g2 : Nat} {A : Option Addr} {c : Nat} {s r : List Int} {n : Int} {A4 : Option Addr} {BS : List (List Int)} {Z : List Int} (h : Hs w0 g g2 A c s r n A4 BS Z w) : BlkI w g2 25 .u8 Z := h.2.2.1
set_option maxHeartbeats 2000000 in
theorem qhash_c (w0 : World) (g : Nat) (A : Option Addr) (c : Nat) (s r : List Int) (n : Int) (hl : s.length = 8) (hs : WIn s) (hri : ∀ z ∈ r, 0 ≤ z ∧ z < 256) (n0 : 0 ≤ n) (n1 : n < 2305843009213693952) (hn : (r.length : Int) = n % 64) (w : World) (hw : Wrt w0 g A c s r n w) (hkst : Kst w0) :
    Calls Tryd.prog 48 #[.pointer (some ⟨g, 0, none⟩)] w fun e w' => e = .returned (.agg (intsA .u8 (finL s r n))) ∧ Below w0.heap.size w0 w' := by
  have htl := tailL_len r n
  have htz := zer_le r.length
  have hti := tailL_in r n hri n0 n1
  have HTL := Lib.hid (fun W h => ptail_c A c r.length r n W h hw.cap n0 n1 hn)
  obtain ⟨T, hT⟩ : ∃ T, tailL r n = T := ⟨_, rfl⟩
  obtain ⟨q, hq⟩ : ∃ q, T.length / 64 = q := ⟨_, rfl⟩
  obtain ⟨BS, hBS⟩ : ∃ BS, cutN T q = BS := ⟨_, rfl⟩
  have hR : finL s r n = hashL (takesL s BS) := by unfold finL; rw [hT, hq, hBS]
  rw [hR]
  rw [hT] at htl hti HTL
  have hbi := cutN_in T q hti
  have hbl := cutN_length T q
  have hb64 := cutN_len T q (by omega)
  rw [hBS] at hbi hbl hb64
  have HC1 := Lib.hid (fun A c W h1 h2 => pcut_c A c T.length T W h1 h2 (by omega))
  rw [hq, hBS] at HC1
  have HXL := Lib.hid (fun i => takesL_len s (BS.take i) hl)
  have HXI := Lib.hid (fun i => takesL_in s (BS.take i) hs)
  have HXN := Lib.hid (fun i (h : i < BS.length) => takesL_next s BS i h)
  have HBI := Lib.hid hbi
  have HB64 := Lib.hid hb64
  have HW := Lib.hid hw
  have hq1 : q ≤ 10000 := by omega
  have hqT : 64 * q ≤ 1000000 := by omega
  have HBL := Lib.hid hbl
  have HHL := Lib.hid (hashL_len (takesL s BS))
  have HJ := Lib.hid (fun W => qjoined_c (takesL s BS) (takesL_len s BS hl) (takesL_in s BS hs) W)
  have HX0 := Lib.hid (show takesL s (BS.take 0) = s from rfl)
  have HXA := Lib.hid (show takesL s (BS.take BS.length) = takesL s BS by rw [List.take_length])
  have HKS := Lib.hid hkst
  have SXS := Lib.hid (sized (takesL s BS) (takesL_len s BS hl))
  obtain ⟨Z, hZ⟩ : ∃ Z : List Int, List.replicate 32 0 = Z := ⟨_, rfl⟩
  have HZ0 := Lib.hid zero_hash
  rw [hZ] at HZ0
  have HZL := Lib.hid (show Z.length = 32 by rw [← hZ]; simp)
  obtain ⟨Y, hY⟩ : ∃ Y : List Int, List.replicate 64 0 = Y := ⟨_, rfl⟩
  have HY0 := Lib.hid zero_b64h
  rw [hY] at HY0
  have HYL := Lib.hid (show Y.length = 64 by rw [← hY]; simp)
  have HTlen : Hid (T.length ≤ 1000000) := Lib.hid (by omega)
  have HSL := Lib.hid hl
  clear htl htz hti hq hBS hR hbi hbl hb64 hw hkst hZ hY hT hri hs hn
  go_enter Tryd.func48, Tryd.ntmps48
  go_wp2_with (with_reducible refine at_any ?_; refine at_dst 2 rfl ?_; refine wpList_alloc_ints rfl 25 rfl .u8 Z HZ0.out ?_; intro w1 hk1 hs1 hb1)
  have hW1 := HW.out.below hb1
  have hZ1 := hk1.out
  have hne : w.heap.size ≠ g := by have := HW.out.lt; omega
  have HGE : Hid (w0.heap.size ≤ w.heap.size) := Lib.hid HW.out.size
  obtain ⟨g2, hg2⟩ : ∃ g, w.heap.size = g := ⟨_, rfl⟩
  rw [hg2] at hZ1 hne HGE
  rw [hg2]
  clear hk1 hs1 hb1 hg2
  refine wp_region_held_drew (S := Wrt w0 g A c s r n) (by kernel_rfl) (hW1.drew) (fun hH => ?_)
  refine held_v 0 (some 10) rfl rfl (by kernel_rfl) (by kernel_rfl) (by kernel_rfl) (fun _ _ _ _ h => h) (by kernel_rfl) (.pointer (some ⟨g, 0, none⟩)) (fun W h => by go_simp) hH ?_
  try simp only [Act.put, List.setIfInBounds_toArray, List.set_cons_zero, List.set_cons_succ]
  refine held_v 1 (some 11) rfl rfl (by kernel_rfl) (by kernel_rfl) (by kernel_rfl) (fun _ _ _ _ h => h) (by kernel_rfl) (.pointer (some ⟨g, 0, none⟩)) (fun W h => by go_simp) hH ?_
  try simp only [Act.put, List.setIfInBounds_toArray, List.set_cons_zero, List.set_cons_succ]
  refine held_v 2 (some 12) rfl rfl (by kernel_rfl) (by kernel_rfl) (by kernel_rfl) (fun _ _ _ _ h => h) (by kernel_rfl) (.pointer (some ⟨g, 0, none⟩)) (fun W h => by go_simp) hH ?_
  try simp only [Act.put, List.setIfInBounds_toArray, List.set_cons_zero, List.set_cons_succ]
  refine held_v 3 (some 13) rfl rfl (by kernel_rfl) (by kernel_rfl) (by kernel_rfl) (fun _ _ _ _ h => h) (by kernel_rfl) (.pointer (some ⟨g, 8, none⟩)) (fun W h => by go_simp) hH ?_
  try simp only [Act.put, List.setIfInBounds_toArray, List.set_cons_zero, List.set_cons_succ]
  refine held_v 4 (some 14) rfl rfl (by kernel_rfl) (by kernel_rfl) (by kernel_rfl) (fun _ _ _ _ h => h) (by kernel_rfl) (.slice A r.length c) (fun W h => by have c8 := h.cell8 HSL.out; go_simp) hH ?_
  try simp only [Act.put, List.setIfInBounds_toArray, List.set_cons_zero, List.set_cons_succ]
  refine held_v 5 (some 15) rfl rfl (by kernel_rfl) (by kernel_rfl) (by kernel_rfl) (fun _ _ _ _ h => h) (by kernel_rfl) (.pointer (some ⟨g, 0, none⟩)) (fun W h => by go_simp) hH ?_
  try simp only [Act.put, List.setIfInBounds_toArray, List.set_cons_zero, List.set_cons_succ]
  refine held_v 6 (some 16) rfl rfl (by kernel_rfl) (by kernel_rfl) (by kernel_rfl) (fun _ _ _ _ h => h) (by kernel_rfl) (.pointer (some ⟨g, 0, none⟩)) (fun W h => by go_simp) hH ?_
  try simp only [Act.put, List.setIfInBounds_toArray, List.set_cons_zero, List.set_cons_succ]
  refine held_v 7 (some 17) rfl rfl (by kernel_rfl) (by kernel_rfl) (by kernel_rfl) (fun _ _ _ _ h => h) (by kernel_rfl) (.pointer (some ⟨g, 0, none⟩)) (fun W h => by go_simp) hH ?_
  try simp only [Act.put, List.setIfInBounds_toArray, List.set_cons_zero, List.set_cons_succ]
  refine held_v 8 (some 18) rfl rfl (by kernel_rfl) (by kernel_rfl) (by kernel_rfl) (fun _ _ _ _ h => h) (by kernel_rfl) (.pointer (some ⟨g, 9, none⟩)) (fun W h => by go_simp) hH ?_
  try simp only [Act.put, List.setIfInBounds_toArray, List.set_cons_zero, List.set_cons_succ]
  refine held_v 9 (some 19) rfl rfl (by kernel_rfl) (by kernel_rfl) (by kernel_rfl) (fun _ _ _ _ h => h) (by kernel_rfl) (.int .u64 n) (fun W h => by have c9 := h.cell9 HSL.out; go_simp) hH ?_
  try simp only [Act.put, List.setIfInBounds_toArray, List.set_cons_zero, List.set_cons_succ]
  refine wpAnyH_ready (rs := [10]) (by kernel_rfl) (by decide) ?_
  refine AllReadyH.cons rfl (fun K hK => ?_) AllReadyH.nil
  refine step_call (some 20) rfl (by kernel_rfl) _ _ (by kernel_rfl) _ (HTL.out w1.drew hH.rd) ?_
  rintro e w3 ⟨A3, c3, rfl, hrd3, hc3, hb3⟩
  have hW3 := hH.below hb3
  have hZ3 : BlkI w3 g2 25 .u8 Z := hZ1.drew.below hb3 hZ1.lt
  refine ⟨_, rfl, ?_⟩
  refine hK.out _ _ hW3 (fun hH3 => ?_)
  clear hK K
  try simp only [Act.put, List.setIfInBounds_toArray, List.set_cons_zero, List.set_cons_succ]
  refine held_v 11 (some 9) rfl rfl (by kernel_rfl) (by kernel_rfl) (by kernel_rfl) (fun _ _ _ _ h => h) (by kernel_rfl) (.tuple #[.slice A3 T.length c3, .bool true]) (fun W h => by go_simp) hH3 ?_
  try simp only [Act.put, List.setIfInBounds_toArray, List.set_cons_zero, List.set_cons_succ]
  refine held_v 12 (some 21) rfl rfl (by kernel_rfl) (by kernel_rfl) (by kernel_rfl) (fun _ _ _ _ h => h) (by kernel_rfl) (.slice A3 T.length c3) (fun W h => by go_simp) hH3 ?_
  try simp only [Act.put, List.setIfInBounds_toArray, List.set_cons_zero, List.set_cons_succ]
  refine held_v 13 (some 22) rfl rfl (by kernel_rfl) (by kernel_rfl) (by kernel_rfl) (fun _ _ _ _ h => h) (by kernel_rfl) (.bool true) (fun W h => by go_simp) hH3 ?_
  try simp only [Act.put, List.setIfInBounds_toArray, List.set_cons_zero, List.set_cons_succ]
  refine held_v 14 (some 3) rfl rfl (by kernel_rfl) (by kernel_rfl) (by kernel_rfl) (fun _ _ _ _ h => h) (by kernel_rfl) (.slice A3 T.length c3) (fun W h => by go_simp) hH3 ?_
  try simp only [Act.put, List.setIfInBounds_toArray, List.set_cons_zero, List.set_cons_succ]
  refine held_v 15 (some 4) rfl rfl (by kernel_rfl) (by kernel_rfl) (by kernel_rfl) (fun _ _ _ _ h => h) (by kernel_rfl) (.bool true) (fun W h => by go_simp) hH3 ?_
  try simp only [Act.put, List.setIfInBounds_toArray, List.set_cons_zero, List.set_cons_succ]
  refine wpAnyH_done (by kernel_rfl) ?_ _
  have HRD3 := Lib.hid hrd3
  have HW3 := Lib.hid hW3
  have HZ3 := Lib.hid hZ3
  clear hW1 hZ1 hH hrd3 hb3 hW3 hZ3 hH3
  go_wp2_with (go_at_call 55; (with_reducible refine (HC1.out A3 c3 w3 HRD3.out hc3).mono ?_); rintro e w4 ⟨A4, c4, A5, c5, rfl, hrd4, hrd5, hc5, hb4⟩; have HRD4 := Lib.hid hrd4; have HW4 := Lib.hid (HW3.out.below hb4); have HZ4 := Lib.hid (HZ3.out.below hb4 HZ3.out.lt); clear hrd4 hrd5 hc5)
  have HI : Hs w0 g g2 A c (takesL s (BS.take 0)) r n A4 BS Z w4 := by rw [HX0.out]; exact ⟨HW4.out, HRD4.out, HZ4.out, hne⟩
  have hlen : BS.length ≤ 10000 := by rw [HBL.out]; exact hq1
  obtain ⟨m, hm⟩ : ∃ m, BS.length = m := ⟨_, rfl⟩
  have HM := Lib.hid hm
  rw [hm] at hlen
  rw [hm]
  clear HRD3 HW3 HZ3 HRD4 HW4 HZ4 hb4 hm hc3
  go_loopw [30] (fun v wr => ∃ i : Nat, i ≤ m ∧ v = .int .i64 i ∧ Hs w0 g g2 A c (takesL s (BS.take i)) r n A4 BS Z wr) (fun v _ => m - (intOf v).toNat)
  case atStart => exact ⟨0, by omega, rfl, HI⟩
  case round =>
    clear HI
    obtain ⟨i, hi, rfl, HI⟩ := hrel
    by_cases hlt : i < m
    · have hil : i < BS.length := by rw [HM.out]; exact hlt
      obtain ⟨b0, off, hA4, hb0, hrg⟩ := HI.2.1.at_ hil
      have hmem : BS.getD i [] ∈ BS := by simp [List.getD, List.getElem?_eq_getElem hil]
      have hbl := HB64.out _ hmem
      have hbi := HBI.out _ hmem
      have hnx := HXN.out i hil
      have hxl := HXL.out i
      have hxi := HXI.out i
      obtain ⟨x, hx⟩ : ∃ x, takesL s (BS.take i) = x := ⟨_, rfl⟩
      obtain ⟨b, hb⟩ : ∃ b, BS.getD i [] = b := ⟨_, rfl⟩
      rw [hx] at hnx hxl hxi HI
      rw [hb] at hnx hbl hbi hrg
      have HNX := Lib.hid hnx
      have HRG := Lib.hid hrg
      have HII := Lib.hid HI
      have SB := Lib.hid (show (Tryd.prog.info? 81).map (·.size) = some b.length by rw [hbl]; exact size_blk)
      have LB := Lib.hid (show Y.length = b.length by rw [hbl, HYL.out])
      have HTK := Lib.hid (fun W h k => qtake_c g A r.length c x b n hxl hxi hbl hbi W h k)
      have q0 : (0 : Int) ≤ (i : Int) ∧ (i : Int) < (m : Int) := by omega
      subst hA4
      clear hnx hrg hxl hxi hbl hbi hmem hx hb HI
      go_wp2_with (first
        | (with_reducible refine at_any ?_; refine at_dst 33 rfl ?_; refine wpList_load_at rfl 81 (.tmp 32) rfl b0 (off + i * 64) rfl .u8 b HRG.out _ Tryd.underlying81 rfl SB.out ?_)
        | (with_reducible refine at_any ?_; refine at_dst 8 rfl ?_; refine wpList_alloc_ints rfl 81 rfl .u8 Y HY0.out ?_; intro w5 hk5 hs5 hb5; have HI5 := Lib.hid (HII.out.below hb5))
        | (with_reducible refine at_any ?_; refine at_store 8 rfl ?_; refine wpList_store_ints rfl 81 (.tmp 8) (.tmp 33) rfl wr.heap.size rfl 81 .u8 Y b hk5.out rfl LB.out SB.out ?_; intro w6 hk6 hs6 hb6 ho6; have HI6 := Lib.hid (HII.out.below (hb5.trans (hb6 _ (Nat.le_refl _)))))
        | (with_reducible refine at_any ?_; refine at_dst 35 rfl ?_; refine wpList_load_ints rfl 81 (.tmp 8) rfl wr.heap.size rfl 81 .u8 b hk6.out _ Tryd.underlying81 rfl SB.out ?_)
        | (go_at_call 56; (with_reducible refine (HTK.out w6 HI6.out.wrt.blk (HKS.out.below HI6.out.wrt.bel)).mono ?_); rintro e w7 ⟨rfl, hk7, ho7⟩; have HI7 := Lib.hid (HI6.out.only ho7 hk7)))
      rw [← HNX.out] at HI7
      go_roundw
      case rel => exact ⟨i + 1, by omega, by go_num, HI7.out⟩
      case measure => simp [intOf]; omega
    · obtain rfl : i = m := by omega
      have hi2 := HI
      rw [← HM.out, HXA.out] at hi2
      have HI2 := Lib.hid hi2
      obtain ⟨X, hX⟩ : ∃ X, takesL s BS = X := ⟨_, rfl⟩
      obtain ⟨R, hRR⟩ : ∃ R, hashL X = R := ⟨_, rfl⟩
      rw [hX] at HI2 HJ SXS HHL
      rw [hRR] at HJ HHL
      have HRX := Lib.hid (show hashL (takesL s BS) = R by rw [hX, hRR])
      have SR := Lib.hid (show (Tryd.prog.info? 25).map (·.size) = some R.length by rw [HHL.out]; exact size_hash)
      have ZR := Lib.hid (show Z.length = R.length by rw [HHL.out, HZL.out])
      clear hi2 HI hX hRR HXN HXL HXI HXA HX0
      go_wp2_with (first
        | (with_reducible refine at_any ?_; refine at_dst 42 rfl ?_; refine wpList_load_at rfl 70 (.tmp 41) rfl g 0 rfl .u32 X (wrV_range HI2.out.wrt.blk) _ Tryd.underlying70 rfl SXS.out ?_)
        | (go_at_call 57; (with_reducible refine (HJ.out _).mono ?_); rintro e w7 ⟨rfl, hb7⟩; have HI7 := Lib.hid (HI2.out.below hb7))
        | (with_reducible refine at_any ?_; refine at_store 2 rfl ?_; refine wpList_store_ints rfl 25 (.tmp 2) (.tmp 43) rfl g2 rfl 25 .u8 Z R HI7.out.res rfl ZR.out SR.out ?_; intro w9 hk9 hs9 hb9 ho9)
        | (refine bodyPost_cell 2 25 rfl g2 rfl 25 .u8 R hk9.out _ Tryd.underlying25 rfl SR.out rfl ?_))
      exact ⟨by rw [HRX.out], HI7.out.wrt.bel.trans (hb9 _ HGE.out)⟩
end Go.Proofs.YtmeefnhmkffdlaaDoor
/-
  What a state and a rest make of more bytes: in pieces, and at a block's end.
  Conditions: none beyond those that each theorem names.
-/
set_option maxRecDepth 100000
namespace Go.Proofs.YtmeefnhmkffdlaaDoor
open Go.ChangeShapes Go.WideShapes Go.ChangeAt Go.RowKit
theorem more_parts (z b : List Int) : (z ++ b).length / 64 = z.length / 64 + (z.drop (64 * (z.length / 64)) ++ b).length / 64 := by
  rw [List.length_append, List.length_append, List.length_drop]; omega
theorem more_split (z b : List Int) : z ++ b = z.take (64 * (z.length / 64)) ++ (z.drop (64 * (z.length / 64)) ++ b) := by
  rw [← List.append_assoc, List.take_append_drop]
theorem nextS_more (s r a b : List Int) : nextS s r (a ++ b) = nextS (nextS s r a) (nextR r a) b := by
  unfold nextS nextR
  rw [← List.append_assoc]
  obtain ⟨z, hz⟩ : ∃ z, r ++ a = z := ⟨_, rfl⟩
  rw [hz, more_parts z b, ← takesL_append, ← cutN_take z, ← cutN_append _ _ _ _ (by rw [List.length_take]; omega), ← more_split]
theorem nextR_more (r a b : List Int) : nextR r (a ++ b) = nextR (nextR r a) b := by
  unfold nextR
  rw [← List.append_assoc]
  obtain ⟨z, hz⟩ : ∃ z, r ++ a = z := ⟨_, rfl⟩
  rw [hz]
  have h := more_parts z b
  have e := more_split z b
  obtain ⟨m, hm⟩ : ∃ m, z.drop (64 * (z.length / 64)) ++ b = m := ⟨_, rfl⟩
  rw [hm] at e h
  rw [h, hm, e, List.drop_append, List.drop_eq_nil_of_le (by rw [List.length_take]; omega), List.nil_append, List.length_take]
  congr 1
  omega
theorem nextS_few (s r y : List Int) (h : (r ++ y).length < 64) : nextS s r y = s := by
  unfold nextS
  rw [show (r ++ y).length / 64 = 0 by omega]
  rfl
theorem nextR_few (r y : List Int) (h : (r ++ y).length < 64) : nextR r y = r ++ y := by
  unfold nextR
  rw [show (r ++ y).length / 64 = 0 by omega]
  rfl
theorem nextS_full (s r y : List Int) (h : (r ++ y).length = 64) : nextS s r y = takeL s (r ++ y) := by
  unfold nextS
  rw [show (r ++ y).length / 64 = 1 by omega]
  have : cutN (r ++ y) 1 = [r ++ y] := by
    simp only [cutN, List.range_one, List.map_cons, List.map_nil, Nat.mul_zero, List.drop_zero]
    rw [List.take_of_length_le (by omega)]
  rw [this]
  rfl
theorem nextR_full (r y : List Int) (h : (r ++ y).length = 64) : nextR r y = [] := by
  unfold nextR
  rw [show (r ++ y).length / 64 = 1 by omega, List.drop_eq_nil_of_le (by omega)]
theorem nextS_nil (s r : List Int) (h : r.length < 64) : nextS s r [] = s := nextS_few s r [] (by simpa using h)
theorem nextR_nil (r : List Int) (h : r.length < 64) : nextR r [] = r := by rw [nextR_few r [] (by simpa using h), List.append_nil]
theorem nextS_len (s r b : List Int) (hl : s.length = 8) : (nextS s r b).length = 8 := takesL_len _ _ hl
theorem nextS_in (s r b : List Int) (hs : WIn s) : WIn (nextS s r b) := takesL_in _ _ hs
theorem nextR_len (r b : List Int) : (nextR r b).length = (r.length + b.length) % 64 := by unfold nextR; rw [List.length_drop, List.length_append]; omega
theorem nextR_in (r b : List Int) (hr : ∀ z ∈ r, 0 ≤ z ∧ z < 256) (hb : ∀ z ∈ b, 0 ≤ z ∧ z < 256) : ∀ z ∈ nextR r b, 0 ≤ z ∧ z < 256 := fun z h => by
  have := List.mem_of_mem_drop h
  rcases List.mem_append.1 this with h1 | h1
  · exact hr z h1
  · exact hb z h1
end Go.Proofs.YtmeefnhmkffdlaaDoor
/-
  What the program's (writing).write does: the bytes are taken, older memory stays.
  Conditions: the arguments lie in their types' ranges.
-/
set_option maxRecDepth 100000
set_option linter.unusedSimpArgs false
namespace Go.Proofs.YtmeefnhmkffdlaaDoor
open Go.ChangeShapes Go.WideShapes Go.ChangeAt Go.RowKit
set_option linter.unusedVariables false
theorem size_u64w : (Tryd.prog.info? 23).map (·.size) = some 1 := by kernel_rfl
section
variable {P : Program} {w w' : World} {ops : Array Oper} {rest : List Oper} {o : Oper} {a : Act} {Q : Exit → Act → World → Prop}
theorem wpList_min (hgd : o.guard = none) (x y : Operand) (t : TypeId) (ho : o.op = .call { callee := .builtin .min, args := #[x, y], argTypes := #[t, t] }) (f j q : Int) (hx : a.eval x = .int .i64 f) (hy : a.eval y = .int .i64 j) (hq : (if j < f then j else f) = q)
    (h : wpList P ops Q rest (a.put o.dst (.int .i64 q)) w) : wpList P ops Q (o :: rest) a w := by
  refine wpList_plain hgd fun K hK => ?_
  unfold Oper.wp execOp
  simp only [ho, resolve, invoke, builtin, Sem.run_bind, Sem.run_pure, Result.andThen_ok, List.map_toArray, List.map_cons, List.map_nil, hx, hy, run_min_int2, hq]
  exact hK _ _ h
end
theorem Rd.range {w : World} {B n b off : Nat} {k : IntKind} {zs : List Int} (h : Rd k w B (some ⟨b, off, none⟩) n zs) : w.rangeAt b off (zs.map (Value.int k)) := fun j u hu => by
  have := h.news j u hu
  rwa [add_flat] at this
theorem Rd.keepB {k : IntKind} {w w' : World} {B n : Nat} {A : Option Addr} {zs : List Int} (h : Rd k w B A n zs) (hb : Below B w w') : Rd k w' B A n zs := h.below hb
/-- The bytes so far, and what is still to be taken. -/
def Wq (w0 : World) (g : Nat) (s r zs : List Int) (N : Int) (k : Nat) (p : Value) (w : World) : Prop :=
  ∃ Ak ck A' c', p = .slice Ak (zs.length - k) ck ∧ zs.length - k ≤ ck ∧ Rd .u8 w w0.heap.size Ak (zs.length - k) (zs.drop k) ∧ Wrt w0 g A' c' (nextS s r (zs.take k)) (nextR r (zs.take k)) N w
def RetN (w0 : World) (g : Nat) (s r : List Int) (n : Int) (e : Ending) (w' : World) : Prop := e = .returned (.tuple #[]) ∧ ∃ A c, Wrt w0 g A c s r n w'
theorem Wrt.blk' {w0 w : World} {g : Nat} {A : Option Addr} {c u : Nat} {s r : List Int} {n : Int} (h : Wrt w0 g A c s r n w) (hu : r.length = u) : Blk w g 88 (wrV s A u c n) := by subst hu; exact h.1
theorem Wrt.own {w0 w : World} {g : Nat} {A : Option Addr} {c : Nat} {s r : List Int} {n : Int} (h : Wrt w0 g A c s r n w) : OwnI w w0.heap.size 5 .u8 (.slice A r.length c) r := h.2.1
theorem Wrt.ge {w0 w : World} {g : Nat} {A : Option Addr} {c : Nat} {s r : List Int} {n : Int} (h : Wrt w0 g A c s r n w) : w0.heap.size ≤ g := h.2.2.2
/-- The rest has grown, and is stored. -/
theorem Wrt.more {w0 w w1 w2 : World} {g : Nat} {A A' : Option Addr} {c c' u : Nat} {s r r' : List Int} {n : Int} (h : Wrt w0 g A c s r n w) (hs : s.length = 8) (hu : r'.length = u) (hown : OwnI w1 w0.heap.size 5 .u8 (.slice A' u c') r') (hg : w.grownBy w1 (Value.slice A r.length c).ownBlock)
    (hk : Blk w2 g 88 ((wrV s A r.length c n).setIfInBounds 8 (.slice A' u c'))) (ho : Only g w1 w2) : Wrt w0 g A' c' s r' n w2 ∧ Below w0.heap.size w w2 := by
  subst hu
  rw [wrV_set8 s hs] at hk
  have hb1 : Blk w1 g 88 (wrV s A r.length c n) := h.1.grown h.2.1 (by decide) hg
  have hl1 : Below w0.heap.size w w1 := h.2.1.below_ (Below.refl _ _) h.size hg
  have hl2 : Below w0.heap.size w1 w2 := ho.below h.2.2.2 (Nat.le_trans h.size hl1.size)
  exact ⟨⟨hk, hown.only hb1 (by decide) ho, h.bel.trans (hl1.trans hl2), h.2.2.2⟩, hl1.trans hl2⟩
/-- The rest is emptied. -/
theorem Wrt.empty {w0 w w2 : World} {g : Nat} {A : Option Addr} {c : Nat} {s r : List Int} {n : Int} (h : Wrt w0 g A c s r n w) (hs : s.length = 8) (hr : 0 < r.length)
    (hk : Blk w2 g 88 ((wrV s A r.length c n).setIfInBounds 8 (.slice A 0 c))) (ho : Only g w w2) : Wrt w0 g A c s [] n w2 ∧ Below w0.heap.size w w2 := by
  rw [wrV_set8 s hs] at hk
  have hl2 : Below w0.heap.size w w2 := ho.below h.2.2.2 h.size
  exact ⟨⟨hk, (h.2.1.zero hr).only h.1 (by decide) ho, h.bel.trans hl2, h.2.2.2⟩, hl2⟩
theorem Wrt.bytes {w0 w w2 : World} {g : Nat} {A : Option Addr} {c : Nat} {s r : List Int} {n m : Int} (h : Wrt w0 g A c s r n w) (hs : s.length = 8) (hk : Blk w2 g 88 ((wrV s A r.length c n).setIfInBounds 9 (.int .u64 m))) (ho : Only g w w2) : Wrt w0 g A c s r m w2 := by
  rw [wrV_set9 s hs] at hk
  exact h.only ho hk
theorem Wrt.head {w0 w : World} {g : Nat} {A : Option Addr} {c : Nat} {s r : List Int} {n : Int} (h : Wrt w0 g A c s r n w) (hr : 0 < r.length) : ∃ b, A = some ⟨b, 0, none⟩ := by
  obtain ⟨g', cap, hv, _, _⟩ := World.ownsRow.form (show w.ownsRow w0.heap.size 5 1 (.slice A r.length c) r.length (r.map (Value.int .u8)) from h.2.1) hr
  exact ⟨g', by injection hv⟩
theorem take_more (zs : List Int) (k q : Nat) : zs.take (k + q) = zs.take k ++ (zs.drop k).take q := List.take_add
set_option maxHeartbeats 4000000 in
theorem qwr_c (w0 : World) (g : Nat) (A : Option Addr) (c : Nat) (s r zs : List Int) (n : Int) (hl : s.length = 8) (hs : WIn s) (hri : ∀ z ∈ r, 0 ≤ z ∧ z < 256) (hr : r.length ≤ 63) (Ap : Option Addr) (m cp : Nat) (hzi : ∀ z ∈ zs, 0 ≤ z ∧ z < 256) (n0 : 0 ≤ n) (n1 : n + m < 2305843009213693952)
    (w : World) (hw : Wrt w0 g A c s r n w) (hp : Rd .u8 w w0.heap.size Ap m zs) (hmc : m ≤ cp) (hm : m ≤ 1000000) (hkst : Kst w0) :
    Calls Tryd.prog 53 #[.pointer (some ⟨g, 0, none⟩), .slice Ap m cp] w (RetN w0 g (nextS s r zs) (nextR r zs) (n + m)) := by
  obtain ⟨i0, hi, hz0, hz1, hzb⟩ := info_parts info_u8'
  have hpl := hp.len
  have w1e : IntKind.u64.wrap (m : Int) = m := by rw [IntKind.wrap_u64]; omega
  obtain ⟨N, hN⟩ : ∃ N, n + (m : Int) = N := ⟨_, rfl⟩
  have w2e : IntKind.u64.wrap (n + (m : Int)) = N := by rw [IntKind.wrap_u64]; omega
  rw [hN]
  have c9 := hw.cell9 hl
  have HW := Lib.hid hw
  have HP := Lib.hid hp
  have SV := Lib.hid (wrV_size s hl A r.length c n)
  have HL := Lib.hid hl
  have HPL := Lib.hid hpl
  have HKS := Lib.hid hkst
  have HSL := Lib.hid (fun k => nextS_len s r (zs.take k) hl)
  have HSI := Lib.hid (fun k => nextS_in s r (zs.take k) hs)
  have HRL := Lib.hid (fun k => nextR_len r (zs.take k))
  have HRI := Lib.hid (fun k => nextR_in r (zs.take k) hri (fun z h => hzi z (List.mem_of_mem_take h)))
  have HZI := Lib.hid hzi
  have HNM := Lib.hid (fun k q => (show nextS s r (zs.take (k + q)) = nextS (nextS s r (zs.take k)) (nextR r (zs.take k)) ((zs.drop k).take q) ∧ nextR r (zs.take (k + q)) = nextR (nextR r (zs.take k)) ((zs.drop k).take q) by rw [take_more]; exact ⟨nextS_more _ _ _ _, nextR_more _ _ _⟩))
  have HST := Lib.hid (show nextS s r (zs.take 0) = s ∧ nextR r (zs.take 0) = r from ⟨nextS_nil s r (by omega), nextR_nil r (by omega)⟩)
  have HZA := Lib.hid (show zs.take m = zs by rw [← hpl, List.take_length])
  clear hw hp hl hs hri hr hzi hpl hN hkst n1
  go_enter Tryd.func53, Tryd.ntmps53
  go_wp2_with (with_reducible refine at_any ?_; refine at_store 16 rfl ?_; refine wpList_store_cell rfl 23 (.tmp 16) (.tmp 13) rfl g 9 rfl 88 (wrV s A r.length c n) HW.out.blk (.int .u64 N) rfl (by rw [SV.out]; omega) size_u64w rfl rfl ?_; intro w1 hk1 ho1)
  have hW1 := HW.out.bytes HL.out hk1.out ho1
  have HQ : Wq w0 g s r zs N 0 (.slice Ap m cp) w1 := by
    refine ⟨Ap, cp, A, c, by rw [Nat.sub_zero, HPL.out], by rw [Nat.sub_zero, HPL.out]; exact hmc, ?_, ?_⟩
    · rw [Nat.sub_zero, HPL.out, List.drop_zero]
      exact HP.out.below (ho1.below HW.out.ge HW.out.size)
    · rw [HST.out.1, HST.out.2]; exact hW1
  clear hk1 ho1 hW1 c9 w2e
  try simp only [Act.put]
  go_loopw [1] (fun p wr => ∃ k : Nat, k ≤ m ∧ Wq w0 g s r zs N k p wr) (fun p _ => lenV p)
  case atStart => exact ⟨0, by omega, HQ⟩
  case round =>
    clear HQ
    obtain ⟨k, hk, Ak, ck, A', c', rfl, hck, hrd, hW⟩ := hrel
    rw [HPL.out] at hck hrd ⊢
    by_cases hlt : k < m
    · obtain ⟨j, hj⟩ : ∃ j, m - k = j := ⟨_, rfl⟩
      rw [hj] at hck hrd ⊢
      have hsl := HSL.out k
      have hsi := HSI.out k
      have hrl := HRL.out k
      have hri := HRI.out k
      have hnm := HNM.out k
      obtain ⟨σ, hσ⟩ : ∃ x, nextS s r (zs.take k) = x := ⟨_, rfl⟩
      obtain ⟨ρ, hρ⟩ : ∃ x, nextR r (zs.take k) = x := ⟨_, rfl⟩
      rw [hσ] at hsl hsi hW hnm
      rw [hρ] at hrl hri hW hnm
      obtain ⟨v, hv⟩ : ∃ v, ρ.length = v := ⟨_, rfl⟩
      rw [hv] at hrl
      have hv63 : v ≤ 63 := by omega
      obtain ⟨f, hf⟩ : ∃ f, 64 - v = f := ⟨_, rfl⟩
      obtain ⟨q, hq⟩ : ∃ q, min f j = q := ⟨_, rfl⟩
      have hq1 : 1 ≤ q := by omega
      have hqj : q ≤ j := by omega
      have hqf : q ≤ f := by omega
      have e26 : IntKind.i64.wrap (64 - (v : Int)) = (f : Int) := by rw [IntWalk.i64_in _ (by omega)]; omega
      have HMIN := Lib.hid (show (if (j : Int) < (f : Int) then (j : Int) else (f : Int)) = (q : Int) by split <;> omega)
      obtain ⟨b0, off0, rfl, hb0, _⟩ := hrd.at_ (by omega)
      have hup := hrd.upto hqj
      have hdn := hrd.from_ (cap := ck) hqj hck
      have hnk := hnm q
      obtain ⟨y, hy⟩ : ∃ y, (zs.drop k).take q = y := ⟨_, rfl⟩
      rw [hy] at hup hnk
      have hyl := hup.len
      have hyi : ∀ z ∈ y, 0 ≤ z ∧ z < 256 := by rw [← hy]; intro z h; exact HZI.out z (List.mem_of_mem_drop (List.mem_of_mem_take h))
      obtain ⟨u, hu⟩ : ∃ u, v + q = u := ⟨_, rfl⟩
      have hul : (ρ ++ y).length = u := by rw [List.length_append, hv, hyl]; exact hu
      have hu64 : u ≤ 64 := by omega
      have c8 := hW.cell8 hsl
      rw [hv] at c8
      have q0 : (0 : Int) < (j : Int) := by omega
      have q2 : (0 : Int) ≤ (q : Int) := by omega
      have q3 : (q : Int) ≤ (ck : Int) := by omega
      have q4 : (q : Int) ≤ (j : Int) := by omega
      have q5 : q ≤ ck := by omega
      have q6 : q ≤ j := hqj
      have HWk := Lib.hid hW
      have HUP := Lib.hid hup
      have HDN := Lib.hid hdn
      have HNK := Lib.hid hnk
      have HYI := Lib.hid hyi
      have HUL := Lib.hid hul
      have HVL := Lib.hid hv
      have HSLk := Lib.hid hsl
      have HSIk := Lib.hid hsi
      have HRIk := Lib.hid hri
      have HYL := Lib.hid hyl
      have HDD := Lib.hid (show (zs.drop k).drop q = zs.drop (k + q) by rw [List.drop_drop])
      have HJK := Lib.hid (show k + j = m by omega)
      have HKQ := Lib.hid (show j - q = zs.length - (k + q) by rw [HPL.out]; omega)
      clear hrd hW hup hdn hnm hnk hyi hul hsl hsi hrl hri hy hσ hρ hf hq hj hyl hv
      go_wp2_with (with_reducible refine at_any ?_; refine at_dst 29 rfl ?_; refine wpList_min rfl (.tmp 26) (.tmp 28) 3 rfl (f : Int) (j : Int) (q : Int) rfl rfl HMIN.out ?_)
      have hWd := HWk.out.drew
      refine wp_region_held_drew (S := AnyW) (by kernel_rfl) trivial (fun hH => ?_)
      refine wpAnyH_letter #[false, false, false, false, false, false, false, false, false, false, false, false, false, false] (by kernel_rfl) (fun _ _ d _ _ h => by cases d <;> exact h) (fun QL HQ1 HQ2 => ?_)
      refine held_v 0 (some 30) rfl rfl (by kernel_rfl) (by kernel_rfl) (by kernel_rfl) (fun c a v w h => HQ2.out c a _ v w h) (by kernel_rfl) (.pointer (some ⟨g, 0, none⟩)) (fun W h => by go_simp) hH ?_
      try simp only [Act.put, List.setIfInBounds_toArray, List.set_cons_zero, List.set_cons_succ]
      refine held_v 1 (some 31) rfl rfl (by kernel_rfl) (by kernel_rfl) (by kernel_rfl) (fun c a v w h => HQ2.out c a _ v w h) (by kernel_rfl) (.pointer (some ⟨g, 0, none⟩)) (fun W h => by go_simp) hH ?_
      try simp only [Act.put, List.setIfInBounds_toArray, List.set_cons_zero, List.set_cons_succ]
      refine held_v 2 (some 32) rfl rfl (by kernel_rfl) (by kernel_rfl) (by kernel_rfl) (fun c a v w h => HQ2.out c a _ v w h) (by kernel_rfl) (.pointer (some ⟨g, 0, none⟩)) (fun W h => by go_simp) hH ?_
      try simp only [Act.put, List.setIfInBounds_toArray, List.set_cons_zero, List.set_cons_succ]
      refine held_v 3 (some 33) rfl rfl (by kernel_rfl) (by kernel_rfl) (by kernel_rfl) (fun c a v w h => HQ2.out c a _ v w h) (by kernel_rfl) (.pointer (some ⟨g, 0, none⟩)) (fun W h => by go_simp) hH ?_
      try simp only [Act.put, List.setIfInBounds_toArray, List.set_cons_zero, List.set_cons_succ]
      refine held_v 4 (some 34) rfl rfl (by kernel_rfl) (by kernel_rfl) (by kernel_rfl) (fun c a v w h => HQ2.out c a _ v w h) (by kernel_rfl) (.pointer (some ⟨g, 8, none⟩)) (fun W h => by go_simp) hH ?_
      try simp only [Act.put, List.setIfInBounds_toArray, List.set_cons_zero, List.set_cons_succ]
      refine held_v 6 (some 36) rfl rfl (by kernel_rfl) (by kernel_rfl) (by kernel_rfl) (fun c a v w h => HQ2.out c a _ v w h) (by kernel_rfl) (.slice (some ⟨b0, off0, none⟩) j ck) (fun W h => by go_simp) hH ?_
      try simp only [Act.put, List.setIfInBounds_toArray, List.set_cons_zero, List.set_cons_succ]
      refine held_v 7 (some 37) rfl rfl (by kernel_rfl) (by kernel_rfl) (by kernel_rfl) (fun c a v w h => HQ2.out c a _ v w h) (by kernel_rfl) (.int .i64 (q : Int)) (fun W h => by go_simp) hH ?_
      try simp only [Act.put, List.setIfInBounds_toArray, List.set_cons_zero, List.set_cons_succ]
      refine held_v 8 (some 38) rfl rfl (by kernel_rfl) (by kernel_rfl) (by kernel_rfl) (fun c a v w h => HQ2.out c a _ v w h) (by kernel_rfl) (.slice (some ⟨b0, off0, none⟩) q ck) (fun W h => by go_simp) hH ?_
      try simp only [Act.put, List.setIfInBounds_toArray, List.set_cons_zero, List.set_cons_succ]
      refine wpAnyH_ready (rs := [5]) (by kernel_rfl) (by decide) ?_
      refine AllReadyH.cons rfl (fun K hK => ?_) AllReadyH.nil
      refine step_v (some 35) rfl (by kernel_rfl) (.slice A' v c') (by go_simp) ?_
      refine hK.out _ _ hH (fun _ => ?_)
      clear hK K
      try simp only [Act.put, List.setIfInBounds_toArray, List.set_cons_zero, List.set_cons_succ]
      refine wpAnyH_ready (rs := [9]) (by kernel_rfl) (by decide) ?_
      refine AllReadyH.cons rfl (fun K hK => ?_) AllReadyH.nil
      refine step_append_d wr.drew (some 39) rfl rfl (.tmp 35) (.tmp 38) 22 rfl w0.heap.size 5 i0 _ 1 .u8 Tryd.underlying22 hi hz0 hz1 hzb rfl (.slice A' v c') ρ (by kernel_rfl) (by have := hWd.own; rw [HVL.out] at this; exact this) w0.heap.size (some ⟨b0, off0, none⟩) q ck y (by kernel_rfl) HUP.out.drew (by rw [HVL.out]; simp [maxLen]; omega) (by rw [HVL.out]; omega) hWd.size ?_
      intro v6 w6 hown6 hg6 hat6
      obtain ⟨A6, c6, rfl, hc6, _⟩ := hown6.form
      rw [HUL.out] at hown6 hc6 hat6 ⊢
      have HK6 : Blk w6 g 88 (wrV σ A' v c' N) := by
        have h1 := hWd.blk.grown hWd.own (by decide) (by rw [HVL.out]; exact hg6)
        rwa [HVL.out] at h1
      have HO6 := Lib.hid hown6
      have HG6 := Lib.hid hg6
      clear hown6 hg6 hat6
      refine hK.out _ _ hH (fun hH => ?_)
      clear hK K
      try simp only [Act.put, List.setIfInBounds_toArray, List.set_cons_zero, List.set_cons_succ]
      refine held_v 10 (some 40) rfl rfl (by kernel_rfl) (by kernel_rfl) (by kernel_rfl) (fun c a v w h => HQ2.out c a _ v w h) (by kernel_rfl) (.pointer (some ⟨g, 0, none⟩)) (fun W h => by go_simp) hH ?_
      try simp only [Act.put, List.setIfInBounds_toArray, List.set_cons_zero, List.set_cons_succ]
      refine held_v 11 (some 41) rfl rfl (by kernel_rfl) (by kernel_rfl) (by kernel_rfl) (fun c a v w h => HQ2.out c a _ v w h) (by kernel_rfl) (.pointer (some ⟨g, 0, none⟩)) (fun W h => by go_simp) hH ?_
      try simp only [Act.put, List.setIfInBounds_toArray, List.set_cons_zero, List.set_cons_succ]
      refine held_v 12 (some 42) rfl rfl (by kernel_rfl) (by kernel_rfl) (by kernel_rfl) (fun c a v w h => HQ2.out c a _ v w h) (by kernel_rfl) (.pointer (some ⟨g, 8, none⟩)) (fun W h => by go_simp) hH ?_
      try simp only [Act.put, List.setIfInBounds_toArray, List.set_cons_zero, List.set_cons_succ]
      refine wpAnyH_ready (rs := [13]) (by kernel_rfl) (by decide) ?_
      refine AllReadyH.cons rfl (fun K hK => ?_) AllReadyH.nil
      refine step_store_cell none rfl (by kernel_rfl) 22 (.tmp 42) (.tmp 39) rfl g 8 (by kernel_rfl) 88 (wrV σ A' v c' N) HK6 (.slice A6 u c6) (by kernel_rfl) (by rw [wrV_size σ HSLk.out]; omega) size_sl rfl rfl ?_
      intro w7 hk7 ho7
      have hm7 := hWd.more HSLk.out HUL.out HO6.out (by rw [HVL.out]; exact HG6.out) (by rw [HVL.out]; exact hk7.out) ho7
      refine hK.out _ _ hH (fun hH => ?_)
      clear hK K
      try simp only [Act.put, List.setIfInBounds_toArray, List.set_cons_zero, List.set_cons_succ]
      refine wpAnyH_done (by kernel_rfl) ?_ _
      refine HQ1.out _ _ ?_
      clear HQ1 HQ2
      obtain ⟨hW7, hb7⟩ := hm7
      have d8 := hW7.cell8 HSLk.out
      rw [HUL.out] at d8
      have HW7 := Lib.hid hW7
      have HDN7 := Lib.hid (HDN.out.drew.below hb7)
      clear hk7 ho7 HK6 HO6 HG6 hWd hH c8 HWk HUP HDN hW7 hb7 e26
      have HU := Lib.hid hu
      have hkm : k + q ≤ m := by have := HJK.out; omega
      have hrel : ∀ (w9 : World) (σ' ρ' : List Int) (A9 : Option Addr) (c9 : Nat), Below w0.heap.size w7 w9 → nextS σ ρ y = σ' → nextR ρ y = ρ' → Wrt w0 g A9 c9 σ' ρ' N w9 → ∀ Aq : Option Addr, (if ck = q then some ⟨b0, off0, none⟩ else (some (⟨b0, off0, none⟩ : Addr)).map (·.add (q * 1))) = Aq → ∃ k : Nat, k ≤ m ∧ Wq w0 g s r zs N k (.slice Aq (j - q) (ck - q)) w9 := by
        intro w9 σ' ρ' A9 c9 hb9 hs9 hr9 hW9 Aq hA
        have h1 := HDN7.out.below hb9
        rw [hA, HDD.out, HKQ.out] at h1
        refine ⟨k + q, hkm, Aq, ck - q, A9, c9, by rw [HKQ.out], by rw [← HKQ.out]; omega, h1, ?_⟩
        rw [HNK.out.1, HNK.out.2, hs9, hr9]
        exact hW9
      have HREL := Lib.hid hrel
      have hif1 : ck = q → (if ck = q then some ⟨b0, off0, none⟩ else (some (⟨b0, off0, none⟩ : Addr)).map (·.add (q * 1))) = some ⟨b0, off0, none⟩ := fun h => if_pos h
      have hif2 : ¬ ck = q → (if ck = q then some ⟨b0, off0, none⟩ else (some (⟨b0, off0, none⟩ : Addr)).map (·.add (q * 1))) = some ⟨b0, off0 + q, none⟩ := fun h => by rw [if_neg h, Option.map_some, Nat.mul_one, add_flat]
      have HI1 := Lib.hid hif1
      have HI2 := Lib.hid hif2
      clear hrel hif1 hif2
      by_cases h64 : u = 64
      · have t64 : ((u : Int) == 64) = true := by rw [beq_iff_eq]; omega
        obtain ⟨b6, rfl⟩ := HW7.out.head (by rw [HUL.out]; omega)
        obtain ⟨T, hT⟩ : ∃ T, ρ ++ y = T := ⟨_, rfl⟩
        have hTi : ∀ z ∈ T, 0 ≤ z ∧ z < 256 := by
          rw [← hT]; intro z hz
          rcases List.mem_append.1 hz with h | h
          · exact HRIk.out z h
          · exact HYI.out z h
        have HFS := Lib.hid (nextS_full σ ρ y (by rw [HUL.out]; exact h64))
        have HFR := Lib.hid (nextR_full ρ y (by rw [HUL.out]; exact h64))
        rw [hT] at HW7 HUL HFS
        have HTL := Lib.hid (show T.length = 64 by rw [HUL.out]; exact h64)
        have HTK := Lib.hid (fun W h k => qtake_c g (some ⟨b6, 0, none⟩) u c6 σ T N HSLk.out HSIk.out HTL.out hTi W h k)
        have HRG := Lib.hid (HW7.out.rd.range)
        have SB := Lib.hid (show (Tryd.prog.info? 81).map (·.size) = some T.length by rw [HTL.out]; exact size_blk)
        obtain ⟨τ, hτ⟩ : ∃ τ, takeL σ T = τ := ⟨_, rfl⟩
        have HSτ := Lib.hid (show τ.length = 8 by rw [← hτ]; exact takeL_len σ T HSLk.out)
        rw [hτ] at HTK HFS
        have hu64i : (64 : Int) ≤ (u : Int) := by omega
        have hu64n : 64 ≤ u := by omega
        have hc0 : ¬ c6 = 0 := by omega
        have hat := fun W => run_arrayAt (P := Tryd.prog) W 81 _ 64 (some ⟨b6, 0, none⟩) u c6 Tryd.underlying81 hu64n
        clear hT hτ hTi h64
        by_cases hcq : ck = q
        all_goals
          go_wp2_with (first
            | (with_reducible refine at_any ?_; refine at_dst 60 rfl ?_; refine wpList_load_at rfl 81 (.tmp 59) rfl b6 0 rfl .u8 T HRG.out _ Tryd.underlying81 rfl SB.out ?_)
            | (go_at_call 56; (with_reducible refine (HTK.out w7 (HW7.out.blk' HUL.out) (HKS.out.below HW7.out.bel)).mono ?_); rintro e w8 ⟨rfl, hk8, ho8⟩; have e8 := hk8.cell 8; rw [wrV_rest τ HSτ.out] at e8; have f8 := hk8.frozen 8; have HO8 := Lib.hid ho8; have HB8 := Lib.hid hk8; clear ho8 hk8)
            | (with_reducible refine at_any ?_; refine at_store 71 rfl ?_; refine wpList_store_cell rfl 22 (.tmp 71) (.tmp 68) rfl g 8 rfl 88 (wrV τ (some ⟨b6, 0, none⟩) u c6 N) HB8.out (.slice (some ⟨b6, 0, none⟩) 0 c6) rfl (by rw [wrV_size τ HSτ.out]; omega) size_sl rfl rfl ?_; intro w9 hk9 ho9))
          try simp only [Act.put]
          go_roundw
          case rel =>
            have hW8 : Wrt w0 g (some ⟨b6, 0, none⟩) c6 τ T N w8 := HW7.out.only HO8.out (by rw [HUL.out]; exact HB8.out)
            obtain ⟨hW9, hb9⟩ := hW8.empty HSτ.out (by rw [HTL.out]; omega) (by rw [HUL.out]; exact hk9.out) ho9
            have hb79 : Below w0.heap.size w7 w9 := (HO8.out.below HW7.out.ge HW7.out.size).trans hb9
            first
              | (have h := HREL.out w9 τ [] _ c6 hb79 HFS.out HFR.out hW9 _ (HI1.out hcq); rw [show ck - q = 0 by omega] at h; exact h)
              | exact HREL.out w9 τ [] _ c6 hb79 HFS.out HFR.out hW9 _ (HI2.out hcq)
          case measure => simp only [lenV]; omega
      · have t64 : ((u : Int) == 64) = false := by rw [beq_eq_false_iff_ne]; omega
        have HFS := Lib.hid (nextS_few σ ρ y (by rw [HUL.out]; omega))
        have HFR := Lib.hid (nextR_few ρ y (by rw [HUL.out]; omega))
        by_cases hcq : ck = q
        · go_wp2
          go_roundw
          case rel =>
            have h := HREL.out w7 σ (ρ ++ y) A6 c6 (Below.refl _ _) HFS.out HFR.out HW7.out _ (HI1.out hcq)
            rw [show ck - q = 0 by omega] at h
            exact h
          case measure => simp only [lenV]; omega
        · go_wp2
          go_roundw
          case rel => exact HREL.out w7 σ (ρ ++ y) A6 c6 (Below.refl _ _) HFS.out HFR.out HW7.out _ (HI2.out hcq)
          case measure => simp only [lenV]; omega
    · obtain rfl : k = m := by omega
      rw [Nat.sub_self] at hrd ⊢
      have HWk := Lib.hid hW
      rw [HZA.out] at HWk
      clear hrd hW
      go_wp2
      go_end0
      exact ⟨rfl, A', c', HWk.out⟩
end Go.Proofs.YtmeefnhmkffdlaaDoor
/-
  What the program's sha.New, Right, Same, and bytes.Equal return, and that they leave memory as it was.
  Conditions: the arguments lie in their types' ranges.
-/
set_option maxRecDepth 100000
set_option linter.unusedSimpArgs false
namespace Go.Proofs.YtmeefnhmkffdlaaDoor
open Go.ChangeShapes Go.WideShapes Go.ChangeAt Go.RowKit
set_option linter.unusedVariables false
set_option maxHeartbeats 1000000 in
theorem qnew_c (w : World) : Calls Tryd.prog 46 #[] w fun e w' => e = .returned (.agg (wrV startL none 0 0 0)) ∧ Below w.heap.size w w' := by
  have ZS := Lib.hid (show (wrV Z8 none 0 0 0).size = (wrV startL none 0 0 0).size by rw [wrV_size _ rfl, wrV_size _ rfl])
  have SS := Lib.hid (sizedW startL rfl none 0 0 0)
  have OS := Lib.hid (wrV_ones startL none 0 0 0)
  have CS := Lib.hid (fun W => cstart_c W)
  have hsl : startL.length = 8 := rfl
  obtain ⟨S, hS⟩ : ∃ S, startL = S := ⟨_, rfl⟩
  rw [hS] at ZS SS OS CS hsl ⊢
  have HSL := Lib.hid hsl
  clear hS hsl
  go_enter Tryd.func46, Tryd.ntmps46
  go_wp2_with (first
    | (with_reducible refine at_any ?_; refine at_dst 0 rfl ?_; refine wpList_alloc_any rfl 77 rfl (wrV Z8 none 0 0 0) zero_wr ?_; intro w1 hk1 hs1 hb1)
    | (go_at_call 52; (with_reducible refine (CS.out _).mono ?_); rintro e w4 ⟨rfl, hb4⟩; have hk4 := Lib.hid (hk1.out.below hb4 hk1.out.lt); have bl4 := Lib.hid (hb1.trans (hb4.mono hb1.size)))
    | (with_reducible refine at_any ?_; refine at_dst 2 rfl ?_; refine wpList_val rfl (.agg (wrV S none 0 0 0)) (build_new _ S HSL.out rfl rfl) ?_)
    | (with_reducible refine at_any ?_; refine at_store 0 rfl ?_; refine wpList_store_any rfl 77 (.tmp 0) (.tmp 2) rfl w.heap.size rfl 77 (wrV Z8 none 0 0 0) (wrV S none 0 0 0) hk4.out rfl ZS.out SS.out OS.out ?_; intro w9 hk9 hs9 hb9 ho9)
    | (refine bodyPost_any 0 77 rfl w.heap.size rfl 77 (wrV S none 0 0 0) hk9.out _ Tryd.underlying77 rfl SS.out rfl ?_))
  exact bl4.out.trans (hb9 _ (Nat.le_refl _))
end Go.Proofs.YtmeefnhmkffdlaaDoor
/-
  What the program's package sha returns (Sum, Write, Finish), and that it leaves memory as it was.
  Conditions: the arguments lie in their types' ranges; what is hashed is small; the table of constants holds what the program's text lays.
-/
set_option maxRecDepth 100000
set_option linter.unusedSimpArgs false
namespace Go.Proofs.YtmeefnhmkffdlaaDoor
open Go.ChangeShapes Go.WideShapes Go.ChangeAt Go.RowKit
set_option linter.unusedVariables false
/-- Rows that are small, and of bytes. -/
def RowsOk (rs : List Row) : Prop := rs.length ≤ 20 ∧ ∀ r ∈ rs, r.zs.length ≤ 1000 ∧ ∀ z ∈ r.zs, 0 ≤ z ∧ z < 256
theorem joinL_in (rs : List Row) (h : RowsOk rs) (i : Nat) : ∀ z ∈ joinL (rs.take i), 0 ≤ z ∧ z < 256 := by
  intro z hz
  unfold joinL at hz
  obtain ⟨l, hl, hzl⟩ := List.mem_flatten.1 hz
  obtain ⟨r, hr, rfl⟩ := List.mem_map.1 hl
  exact (h.2 r (List.mem_of_mem_take hr)).2 z hzl
theorem joinL_take_le (rs : List Row) (i : Nat) : (joinL (rs.take i)).length ≤ (joinL rs).length := by
  have h : joinL rs = joinL (rs.take i) ++ joinL (rs.drop i) := by
    unfold joinL
    rw [← List.flatten_append, ← List.map_append, List.take_append_drop]
  rw [h, List.length_append]
  omega
theorem joinL_small (rs : List Row) (h : RowsOk rs) : (joinL rs).length ≤ 20000 := by
  have h1 := joinL_len rs 1000 fun r hr => (h.2 r hr).1
  have h2 := h.1
  omega
set_option maxHeartbeats 2000000 in
theorem qwa_c (w0 : World) (g : Nat) (A : Option Addr) (c : Nat) (s r : List Int) (n : Int) (hl : s.length = 8) (hs : WIn s) (hri : ∀ z ∈ r, 0 ≤ z ∧ z < 256) (hr : r.length ≤ 63) (n0 : 0 ≤ n) (Ar : Option Addr) (m cr : Nat) (rs : List Row) (hrr : RdRows w0 w0.heap.size Ar m rs) (hk : RowsOk rs)
    (n1 : n + (joinL rs).length < 2305843009213693952) (w : World) (hw : Wrt w0 g A c s r n w) (hkst : Kst w0) :
    Calls Tryd.prog 47 #[.pointer (some ⟨g, 0, none⟩), .slice Ar m cr] w (RetN w0 g (nextS s r (joinL rs)) (nextR r (joinL rs)) (n + (joinL rs).length)) := by
  have HR := Lib.hid hrr
  have hm20 : m ≤ 20 := by rw [← hrr.1]; exact hk.1
  have HM := Lib.hid hrr.1
  have HK := Lib.hid hk
  have HKS := Lib.hid hkst
  have HJ := Lib.hid (fun i => joinL_take_le rs i)
  have HJI := Lib.hid (fun i => joinL_in rs hk i)
  have HN1 := Lib.hid n1
  have HSL := Lib.hid (fun i => nextS_len s r (joinL (rs.take i)) hl)
  have HSI := Lib.hid (fun i => nextS_in s r (joinL (rs.take i)) hs)
  have HRL := Lib.hid (fun i => nextR_len r (joinL (rs.take i)))
  have HRI := Lib.hid (fun i => nextR_in r (joinL (rs.take i)) hri (joinL_in rs hk i))
  have HMO := Lib.hid (fun i b => And.intro (nextS_more s r (joinL (rs.take i)) b) (nextR_more r (joinL (rs.take i)) b))
  have HW0 : Wrt w0 g A c (nextS s r (joinL (rs.take 0))) (nextR r (joinL (rs.take 0))) (n + ((joinL (rs.take 0)).length : Int)) w := by
    rw [List.take_zero, show joinL [] = [] from rfl, nextS_nil s r (by omega), nextR_nil r (by omega), List.length_nil, Int.natCast_zero, Int.add_zero]
    exact hw
  clear hrr hk hkst n1 hw hl hs hri hr
  go_enter Tryd.func47, Tryd.ntmps47
  go_wp2
  go_loopw [8] (fun v wr => ∃ (i : Nat) (A' : Option Addr) (c' : Nat), i ≤ m ∧ v = .int .i64 i ∧ Wrt w0 g A' c' (nextS s r (joinL (rs.take i))) (nextR r (joinL (rs.take i))) (n + ((joinL (rs.take i)).length : Int)) wr) (fun v _ => m - (intOf v).toNat)
  case atStart => exact ⟨0, A, c, by omega, rfl, HW0⟩
  case round =>
    clear HW0
    obtain ⟨i, A', c', hi, rfl, hW⟩ := hrel
    by_cases hlt : i < m
    · obtain ⟨b0, off, hAr, hb0, hcell⟩ := (HR.out.below hW.bel).2.1 (by omega)
      obtain ⟨R, hRi⟩ : ∃ R, rs[i]? = some R := ⟨_, List.getElem?_eq_getElem (by rw [HM.out]; exact hlt)⟩
      have hmem := List.mem_of_getElem? hRi
      have c0 := hcell i R hRi
      obtain ⟨hrd, hcap⟩ := (HR.out.below hW.bel).2.2 R hmem
      obtain ⟨hzl, hzi⟩ := HK.out.2 R hmem
      have hnx := joinL_next rs i R hRi
      have hle := HJ.out (i + 1)
      have hsl := HSL.out i
      have hsi := HSI.out i
      have hrl := HRL.out i
      have hri := HRI.out i
      have hmo := HMO.out i R.zs
      rw [← hnx] at hmo
      have hn1 := HN1.out
      obtain ⟨J, hJ⟩ : ∃ J, joinL (rs.take i) = J := ⟨_, rfl⟩
      obtain ⟨J1, hJ1⟩ : ∃ J, joinL (rs.take (i + 1)) = J := ⟨_, rfl⟩
      rw [hJ] at hnx hsl hsi hrl hri hmo hW
      rw [hJ1] at hnx hle hmo
      obtain ⟨σ, hσ⟩ : ∃ x, nextS s r J = x := ⟨_, rfl⟩
      obtain ⟨ρ, hρ⟩ : ∃ x, nextR r J = x := ⟨_, rfl⟩
      rw [hσ] at hsl hsi hmo hW
      rw [hρ] at hrl hri hmo hW
      obtain ⟨N, hN⟩ : ∃ N, n + (J.length : Int) = N := ⟨_, rfl⟩
      rw [hN] at hW
      obtain ⟨⟨RA, Rn, Rc, Rz⟩, hre⟩ : ∃ X : Row, R = X := ⟨_, rfl⟩
      subst hre
      dsimp only at c0 hrd hcap hzl hzi hnx hmo
      have hrzl := hrd.len
      have hJl : J1.length = J.length + Rn := by rw [hnx, List.length_append, hrzl]
      have HWR := Lib.hid (fun W h1 h2 => qwr_c w0 g A' c' σ ρ Rz N hsl hsi hri (by omega) RA Rn Rc hzi (by omega) (by omega) W h1 h2 hcap (by omega) HKS.out)
      have HRD := Lib.hid hrd
      have HWk := Lib.hid hW
      have HMOk := Lib.hid hmo
      have HNE := Lib.hid (show N + (Rn : Int) = n + ((joinL (rs.take (i + 1))).length : Int) by rw [hJ1]; omega)
      have HJ1 := Lib.hid hJ1
      have q0 : (0 : Int) ≤ (i : Int) ∧ (i : Int) < (m : Int) := by omega
      subst hAr
      clear hrd hW hmo hnx hle hsl hsi hrl hri hσ hρ hN hJ hJ1 hJl hzl hzi hmem hRi hcell hrzl hn1
      go_wp2_with (go_at_call 53; (with_reducible refine (HWR.out _ HWk.out HRD.out).mono ?_); rintro e w1 ⟨rfl, A1, c1, hW1⟩; rw [← HMOk.out.1, ← HMOk.out.2, ← HJ1.out, HNE.out] at hW1; have HW1 := Lib.hid hW1; clear hW1)
      go_roundw
      case rel => exact ⟨i + 1, A1, c1, by omega, by go_num, HW1.out⟩
      case measure => simp [intOf]; omega
    · obtain rfl : i = m := by omega
      rw [List.take_of_length_le (by rw [HM.out]; exact Nat.le_refl _)] at hW
      have HWk := Lib.hid hW
      clear hW
      go_wp2
      go_end0
      exact ⟨rfl, A', c', HWk.out⟩
/-! ### Sum, Write, Finish -/
theorem sha_all (J : List Int) : finL (nextS startL [] J) (nextR [] J) (0 + (J.length : Int)) = shaL J := by
  rw [Int.zero_add]
  exact sha_fin J
set_option maxHeartbeats 1000000 in
theorem qsum_c (A : Option Addr) (n c : Nat) (rs : List Row) (w : World) (hr : RdRows w w.heap.size A n rs) (hnc : n ≤ c) (hk : RowsOk rs) (hkst : Kst w) :
    Calls Tryd.prog 39 #[.slice A n c] w fun e w' => e = .returned (.agg (intsA .u8 (shaL (joinL rs)))) ∧ Below w.heap.size w w' := by
  have hJl := joinL_small rs hk
  have hJi : ∀ z ∈ joinL rs, 0 ≤ z ∧ z < 256 := by
    have := joinL_in rs hk rs.length
    rwa [List.take_length] at this
  have HR := Lib.hid hr
  have HKS := Lib.hid hkst
  have HWA := Lib.hid (fun w0 g A3 c3 h W hw k => qwa_c w0 g A3 c3 startL [] 0 rfl startL_in (by simp) (by simp) (by omega) A n c rs h hk (by omega) W hw k)
  have HHA := Lib.hid (fun w0 g A4 c4 W hw k => qhash_c w0 g A4 c4 (nextS startL [] (joinL rs)) (nextR [] (joinL rs)) (0 + ((joinL rs).length : Int)) (nextS_len _ _ _ rfl) (nextS_in _ _ _ startL_in) (nextR_in _ _ (by simp) hJi) (by omega) (by omega) (by rw [nextR_len, List.length_nil, Nat.zero_add]; omega) W hw k)
  rw [sha_all] at HHA
  have HNW := Lib.hid (fun W => qnew_c W)
  have HBG := Lib.hid (fun W => qbegin_c startL [] rfl none 0 0 0 (by omega) (by omega) W Rd.none_)
  obtain ⟨Z, hZ⟩ : ∃ Z : List Int, List.replicate 32 0 = Z := ⟨_, rfl⟩
  have HZ0 := Lib.hid zero_hash
  rw [hZ] at HZ0
  have hRl := shaL_len (joinL rs)
  obtain ⟨R, hR⟩ : ∃ R, shaL (joinL rs) = R := ⟨_, rfl⟩
  rw [hR] at HHA hRl ⊢
  have SR := Lib.hid (show (Tryd.prog.info? 25).map (·.size) = some R.length by rw [hRl]; exact size_hash)
  have ZR := Lib.hid (show Z.length = R.length by rw [hRl, ← hZ]; simp)
  obtain ⟨σ, hσ⟩ : ∃ x, nextS startL [] (joinL rs) = x := ⟨_, rfl⟩
  obtain ⟨ρ, hρ⟩ : ∃ x, nextR [] (joinL rs) = x := ⟨_, rfl⟩
  obtain ⟨N, hN⟩ : ∃ x : Int, 0 + ((joinL rs).length : Int) = x := ⟨_, rfl⟩
  rw [hσ, hρ, hN] at HWA HHA
  obtain ⟨V, hV⟩ : ∃ V, wrV startL none 0 0 0 = V := ⟨_, rfl⟩
  rw [hV] at HNW HBG
  clear hr hk hkst hJl hJi hZ hR hRl hσ hρ hN hV
  go_enter Tryd.func39, Tryd.ntmps39
  go_wp2_with (first
    | (with_reducible refine at_any ?_; refine at_dst 2 rfl ?_; refine wpList_alloc_ints rfl 25 rfl .u8 Z HZ0.out ?_; intro w1 hk1 hs1 hb1)
    | (go_at_call 46; (with_reducible refine (HNW.out _).mono ?_); rintro e w2 ⟨rfl, hb2⟩; have hk2 := Lib.hid (hk1.out.below hb2 hk1.out.lt); have bl2 := Lib.hid (hb1.trans (hb2.mono hb1.size)))
    | (go_at_call 45; (with_reducible refine (HBG.out _).mono ?_); rintro e w3 ⟨g, A3, c3, rfl, hW3⟩; have HW3 := Lib.hid hW3; clear hW3)
    | (go_at_call 47; (with_reducible refine (HWA.out w2 g A3 c3 ((HR.out.below bl2.out).monoB bl2.out.size) w3 HW3.out (HKS.out.below bl2.out)).mono ?_); rintro e w4 ⟨rfl, A4, c4, hW4⟩; have HW4 := Lib.hid hW4; clear hW4)
    | (go_at_call 48; (with_reducible refine (HHA.out w2 g A4 c4 w4 HW4.out (HKS.out.below bl2.out)).mono ?_); rintro e w5 ⟨rfl, hb5⟩; have hk5 := Lib.hid (hk2.out.below hb5 hk2.out.lt); have bl5 := Lib.hid (bl2.out.trans (hb5.mono bl2.out.size)))
    | (with_reducible refine at_any ?_; refine at_store 2 rfl ?_; refine wpList_store_ints rfl 25 (.tmp 2) (.tmp 10) rfl w.heap.size rfl 25 .u8 Z R hk5.out rfl ZR.out SR.out ?_; intro w9 hk9 hs9 hb9 ho9)
    | (refine bodyPost_cell 2 25 rfl w.heap.size rfl 25 .u8 R hk9.out _ Tryd.underlying25 rfl SR.out rfl ?_))
  exact bl5.out.trans (hb9 _ (Nat.le_refl _))
end Go.Proofs.YtmeefnhmkffdlaaDoor
/-
  What the program's stream.Block returns, and that it leaves memory as it was.
  Conditions: the arguments lie in their types' ranges; the table of constants holds what the program's text lays.
-/
set_option maxRecDepth 100000
set_option linter.unusedSimpArgs false
namespace Go.Proofs.YtmeefnhmkffdlaaDoor
open Go.ChangeShapes Go.WideShapes Go.ChangeAt Go.RowKit
set_option linter.unusedVariables false
theorem qput64_c (x : Int) (h0 : 0 ≤ x) (h1 : x < 18446744073709551616) (w : World) : Calls Tryd.prog 38 #[.int .u64 x] w fun e w' => e = .returned (.agg (intsA .u8 (put8L x))) ∧ Below w.heap.size w w' :=
  (put64_c x h0 h1 w).mono fun _ _ ⟨h, h2, _⟩ => ⟨h, h2⟩
set_option maxHeartbeats 2000000 in
theorem qblock_c (s : List Int) (d i : Int) (hl : s.length = 32) (hs : ∀ z ∈ s, 0 ≤ z ∧ z < 256) (d0 : 0 ≤ d) (d1 : d < 18446744073709551616) (i0 : 0 ≤ i) (i1 : i < 18446744073709551616) (w : World) (hkst : Kst w) :
    Calls Tryd.prog 35 #[.agg (intsA .u8 s), .int .u64 d, .int .u64 i] w fun e w' => e = .returned (.agg (intsA .u8 (blkL s d i))) ∧ Below w.heap.size w w' := by
  have HPD := Lib.hid (fun W => qput64_c d d0 d1 W)
  have HPI := Lib.hid (fun W => qput64_c i i0 i1 W)
  have hin := blkIn_in s d i hs d0 d1 i0 i1
  have hxl : (put8L d).length = 8 := rfl
  have hyl : (put8L i).length = 8 := rfl
  have hX : ∀ z ∈ put8L d, 0 ≤ z ∧ z < 256 := put8L_in d d0 d1
  have hY : ∀ z ∈ put8L i, 0 ≤ z ∧ z < 256 := put8L_in i i0 i1
  have hj : blkL s d i = shaL (s ++ put8L d ++ put8L i) := rfl
  have hRl := blkL_len s d i
  obtain ⟨X, hXe⟩ : ∃ X, put8L d = X := ⟨_, rfl⟩
  obtain ⟨Y, hYe⟩ : ∃ Y, put8L i = Y := ⟨_, rfl⟩
  obtain ⟨R, hRe⟩ : ∃ R, blkL s d i = R := ⟨_, rfl⟩
  rw [hXe] at HPD hxl hX hj
  rw [hYe] at HPI hyl hY hj
  rw [hRe] at hj hRl ⊢
  obtain ⟨Z, hZ⟩ : ∃ Z : List Int, List.replicate 32 0 = Z := ⟨_, rfl⟩
  obtain ⟨V, hV⟩ : ∃ V : List Int, List.replicate 8 0 = V := ⟨_, rfl⟩
  have HZ0 := Lib.hid zero_hash
  have HV0 := Lib.hid zero_b8s
  rw [hZ] at HZ0
  rw [hV] at HV0
  have hZl : Z.length = 32 := by rw [← hZ]; simp
  have hVl : V.length = 8 := by rw [← hV]; simp
  have SR := Lib.hid (show (Tryd.prog.info? 25).map (·.size) = some R.length by rw [hRl]; exact size_hash)
  have SRA := Lib.hid (show (Tryd.prog.info? 25).map (·.size) = some (intsA .u8 R).size by rw [intsA_size, hRl]; exact size_hash)
  have ZRA := Lib.hid (show (intsA .u8 Z).size = (intsA .u8 R).size by rw [intsA_size, intsA_size, hRl, hZl])
  have SX := Lib.hid (show (Tryd.prog.info? 60).map (·.size) = some X.length by rw [hxl]; exact size_b8s)
  have SY := Lib.hid (show (Tryd.prog.info? 60).map (·.size) = some Y.length by rw [hyl]; exact size_b8s)
  have VX := Lib.hid (show V.length = X.length by rw [hxl, hVl])
  have VY := Lib.hid (show V.length = Y.length by rw [hyl, hVl])
  have HSM := Lib.hid (fun (g3 g7 g8 : Nat) A W h (k : Kst W) => qsum_c A 3 3 [⟨some ⟨g3, 0, none⟩, 32, 32, s⟩, ⟨some ⟨g7, 0, none⟩, 8, 8, X⟩, ⟨some ⟨g8, 0, none⟩, 8, 8, Y⟩] W h (Nat.le_refl _)
    ⟨by simp, fun r hr => by
      simp only [List.mem_cons, List.not_mem_nil, or_false] at hr
      rcases hr with rfl | rfl | rfl
      · exact ⟨by dsimp only; omega, hs⟩
      · exact ⟨by dsimp only; omega, hX⟩
      · exact ⟨by dsimp only; omega, hY⟩⟩ k)
  have HJ := Lib.hid (show ∀ g3 g7 g8 : Nat, shaL (joinL [⟨some ⟨g3, 0, none⟩, 32, 32, s⟩, ⟨some ⟨g7, 0, none⟩, 8, 8, X⟩, ⟨some ⟨g8, 0, none⟩, 8, 8, Y⟩]) = R from fun _ _ _ => by rw [hj]; simp [joinL])
  have HSL := Lib.hid hl
  have HXL := Lib.hid hxl
  have HYL := Lib.hid hyl
  have HKS := Lib.hid hkst
  clear hin hxl hyl hX hY hj hRl hXe hYe hRe hZ hV hZl hVl hl hs hkst
  go_enter Tryd.func35, Tryd.ntmps35
  go_wp2_with (first
    | (with_reducible refine at_any ?_; refine at_dst 3 rfl ?_; refine wpList_box_ints rfl 25 (.tmp 0) rfl .u8 s rfl ?_; intro w1 hk1 hs1 hb1; have F1 := Lib.hid (Fx.box hk1.out hb1); clear hk1 hs1 hb1)
    | (with_reducible refine at_any ?_; refine at_dst 6 rfl ?_; refine wpList_alloc_ints rfl 25 rfl .u8 Z HZ0.out ?_; intro w2 hk2 hs2 hb2; have U1 := Lib.hid (Fx.under_new F1.out rfl); have F2 := Lib.hid (Fx.new F1.out hk2.out hb2); clear hk2 hs2 F1 hb2)
    | (go_at_call 38; (with_reducible refine (HPD.out _).mono ?_); rintro e w3 ⟨rfl, hb3⟩; have F3 := Lib.hid (F2.out.below hb3); clear F2 hb3)
    | (go_at_call 38; (with_reducible refine (HPI.out _).mono ?_); rintro e w4 ⟨rfl, hb4⟩; have F4 := Lib.hid (F3.out.below hb4); clear F3 hb4)
    | (with_reducible refine at_any ?_; refine at_dst 7 rfl ?_; refine wpList_alloc_ints rfl 60 rfl .u8 V HV0.out ?_; intro w5 hk5 hs5 hb5; have U4 := Lib.hid (Fx.under_new F4.out rfl); have F5 := Lib.hid (Fx.new F4.out hk5.out hb5); clear hk5 hs5 F4 hb5)
    | (with_reducible refine at_any ?_; refine at_dst 8 rfl ?_; refine wpList_alloc_ints rfl 60 rfl .u8 V HV0.out ?_; intro w6 hk6 hs6 hb6; have U5 := Lib.hid (Fx.under_new F5.out rfl); have F6 := Lib.hid (Fx.new F5.out hk6.out hb6); clear hk6 hs6 F5 hb6)
    | (with_reducible refine at_any ?_; refine at_store 7 rfl ?_; refine wpList_store_ints rfl 60 (.tmp 7) (.tmp 10) rfl w4.heap.size rfl 60 .u8 V X (Fx.snd F6.out) rfl VX.out SX.out ?_; intro w7 hk7 hs7 hb7 ho7; have F7 := Lib.hid (Fx.put2 F6.out U5.out U4.out hk7.out hs7.out hb7 ho7); have U7 := Lib.hid (Fx.under_put U5.out (intsA .u8 X)); clear hk7 hs7 hb7 ho7 F6 U5)
    | (with_reducible refine at_any ?_; refine at_store 8 rfl ?_; refine wpList_store_ints rfl 60 (.tmp 8) (.tmp 12) rfl w5.heap.size rfl 60 .u8 V Y (Fx.fst F7.out) rfl VY.out SY.out ?_; intro w8 hk8 hs8 hb8 ho8; have F8 := Lib.hid (Fx.put1 F7.out U7.out hk8.out hs8.out hb8 ho8); clear hk8 hs8 hb8 ho8 F7))
  have hB : Blk4 w w5.heap.size w4.heap.size w1.heap.size w.heap.size Y X Z s w8 := F8.out
  have h7 : w4.heap.size < w5.heap.size := U7.out.1
  have h6 : w1.heap.size < w4.heap.size := U4.out.1
  have h3 : w.heap.size < w1.heap.size := U1.out.1
  clear F8 U7 U4 U1
  obtain ⟨g8, hg8⟩ : ∃ g, w5.heap.size = g := ⟨_, rfl⟩
  obtain ⟨g7, hg7⟩ : ∃ g, w4.heap.size = g := ⟨_, rfl⟩
  obtain ⟨g6, hg6⟩ : ∃ g, w1.heap.size = g := ⟨_, rfl⟩
  obtain ⟨g3, hg3⟩ : ∃ g, w.heap.size = g := ⟨_, rfl⟩
  have h0 : w.heap.size ≤ g3 := by omega
  rw [hg8, hg7, hg6, hg3] at hB
  rw [hg8, hg7] at h7
  rw [hg6, hg7] at h6
  rw [hg3, hg6] at h3
  rw [hg8, hg7, hg6, hg3]
  clear hg8 hg7 hg6 hg3
  refine wp_region_held_drew (S := Blk4W w g8 g7 g6 g3 Y X s) (by kernel_rfl) (hB.drew.any) (fun hS => ?_)
  have hH := hB.drew
  refine held_v 0 (some 13) rfl rfl (by kernel_rfl) (by kernel_rfl) (by kernel_rfl) (fun _ _ _ _ h => h) (by kernel_rfl) (.slice (some ⟨g3, 0, none⟩) 32 32) (fun W h => by go_simp) hS ?_
  try simp only [Act.put, List.setIfInBounds_toArray, List.set_cons_zero, List.set_cons_succ]
  refine held_v 1 (some 14) rfl rfl (by kernel_rfl) (by kernel_rfl) (by kernel_rfl) (fun _ _ _ _ h => h) (by kernel_rfl) (.slice (some ⟨g7, 0, none⟩) 8 8) (fun W h => by go_simp) hS ?_
  try simp only [Act.put, List.setIfInBounds_toArray, List.set_cons_zero, List.set_cons_succ]
  refine held_v 2 (some 15) rfl rfl (by kernel_rfl) (by kernel_rfl) (by kernel_rfl) (fun _ _ _ _ h => h) (by kernel_rfl) (.slice (some ⟨g8, 0, none⟩) 8 8) (fun W h => by go_simp) hS ?_
  try simp only [Act.put, List.setIfInBounds_toArray, List.set_cons_zero, List.set_cons_succ]
  refine wpAnyH_ready (rs := [3]) (by kernel_rfl) (by decide) ?_
  refine AllReadyH.cons rfl (fun K hK => ?_) AllReadyH.nil
  refine step_run (some 16) rfl (by kernel_rfl) _ (exec_build3 _ _ _ g3 g7 g8 32 8 8 rfl (by kernel_rfl) (by kernel_rfl) (by kernel_rfl)) ?_
  have hrow := rows3 hH.c3 hH.c7 hH.c8 HSL.out HXL.out HYL.out
  have hH9 := hH.below ((Below.refl _ _).alloc (Nat.le_refl _) (.cells (row3 g3 g7 g8 32 8 8) 22))
  refine hK.out _ _ hH9.any (fun hS => ?_)
  clear hK K
  try simp only [Act.put, List.setIfInBounds_toArray, List.set_cons_zero, List.set_cons_succ]
  refine wpAnyH_ready (rs := [4]) (by kernel_rfl) (by decide) ?_
  refine AllReadyH.cons rfl (fun K hK => ?_) AllReadyH.nil
  refine step_call (some 17) rfl (by kernel_rfl) _ _ (by kernel_rfl) _ (HSM.out g3 g7 g8 _ _ hrow (HKS.out.below hH9.bel)) ?_
  rintro e w10 ⟨rfl, hb10⟩
  rw [HJ.out g3 g7 g8]
  have hH10 := hH9.below hb10
  refine ⟨_, rfl, ?_⟩
  refine hK.out _ _ hH10.any (fun hS => ?_)
  clear hK K
  try simp only [Act.put, List.setIfInBounds_toArray, List.set_cons_zero, List.set_cons_succ]
  refine wpAnyH_ready (rs := [5]) (by kernel_rfl) (by decide) ?_
  refine AllReadyH.cons rfl (fun K hK => ?_) AllReadyH.nil
  refine step_store none rfl (by kernel_rfl) 25 (.tmp 6) (.tmp 17) rfl g6 (by kernel_rfl) 25 (intsA .u8 Z) (intsA .u8 R) hH10.c6 (by kernel_rfl) ZRA.out SRA.out (all_oneCell_toArray (ints_one .u8 R)) ?_
  intro w11 hk11 hs11 hb11 ho11
  have hH11 := hH10.put6 h6 h7 h3 h0 hk11.out hs11.out hb11 ho11
  refine hK.out _ _ hH11.any (fun hS => ?_)
  clear hK K
  try simp only [Act.put, List.setIfInBounds_toArray, List.set_cons_zero, List.set_cons_succ]
  refine wpAnyH_done (by kernel_rfl) ?_ _
  go_wp2_with (refine bodyPost_cell 6 25 rfl g6 rfl 25 .u8 R hH11.c6 _ Tryd.underlying25 rfl SR.out rfl ?_)
  exact hH11.bel
end Go.Proofs.YtmeefnhmkffdlaaDoor
/-
  What the program's stream.Bit and Bytes return, and that they leave memory as it was.
  Conditions: the arguments lie in their types' ranges; the table of constants holds what the program's text lays.
-/
set_option maxRecDepth 100000
set_option linter.unusedSimpArgs false
namespace Go.Proofs.YtmeefnhmkffdlaaDoor
open Go.ChangeShapes Go.WideShapes Go.ChangeAt Go.RowKit
set_option linter.unusedVariables false
theorem and_one (x : Int) (h0 : 0 ≤ x) (h1 : x < 256) : bits .and .u64 x 1 = x % 2 := by
  have h : ∀ a : Fin 256, bits .and .u64 ((a : Nat) : Int) 1 = ((a : Nat) : Int) % 2 := by decide +kernel
  have := h ⟨x.toNat, by omega⟩
  rw [show ((⟨x.toNat, by omega⟩ : Fin 256) : Nat) = x.toNat from rfl, Int.toNat_of_nonneg h0] at this
  exact this
theorem rd_len {k : IntKind} {w : World} {g L : Nat} {t : TypeId} {zs : List Int} (h : BlkI w g t k zs) (hl : zs.length = L) : Rd k w w.heap.size (some ⟨g, 0, none⟩) L zs := by
  subst hl
  exact h.rd
def RetBy (w : World) (zs : List Int) (n : Nat) (e : Ending) (w' : World) : Prop := ∃ A c, e = .returned (.slice A n c) ∧ n ≤ c ∧ c ≤ maxLen ∧ Rd .u8 w' w'.heap.size A n zs ∧ Below w.heap.size w w'
end Go.Proofs.YtmeefnhmkffdlaaDoor
/-
  What the landed tape's (reading).octet returns: the byte that has the next bit; and what it leaves of the block that was hashed last.
  Conditions: the source's fields lie in their types' ranges; it has a next bit; the table of constants holds what the text lays.
-/
set_option maxRecDepth 100000
set_option linter.unusedSimpArgs false
namespace Go.Proofs.YtmeefnhmkffdlaaDoor
open Go.ChangeShapes Go.WideShapes Go.ChangeAt Go.RowKit
set_option linter.unusedVariables false
theorem size_bool : (Tryd.prog.info? 4).map (·.size) = some 1 := by kernel_rfl
theorem only_drewN (g : Nat) (w : World) (n : Nat) : Only g w (w.drewN n) := Only.of_below (below_drewN (Below.refl _ _) n)
theorem blk_drewN {w : World} {g : Nat} {t : TypeId} {cs : Array Value} (h : Blk w g t cs) (n : Nat) : Blk (w.drewN n) g t cs := h.below (below_drewN (Below.refl _ _) n) h.lt
set_option maxHeartbeats 4000000 in
theorem qoct1_c (g : Nat) (s : Src) (A : Option Addr) (c : Nat) (b : List Int) (h : Bool) (ok : s.Ok) (hk : s.kind = 1) (hlt : s.at_ < 8 * (s.tape.length : Int)) (hbk : BkA s b h) (w : World) (hg : Blk w g 50 (rdV s A c b h)) (hrd : Rd .u8 w w.heap.size A s.tape.length s.tape) :
    Calls Tryd.prog 32 #[.pointer (some ⟨g, 0, none⟩)] w (RetOct w g s A c) := by
  have hS : RdS g s A c w := ⟨b, h, hg, hbk.1⟩
  have c0 := hS.kind
  have c1 := hS.tape
  have c36 := hS.at_ ok.sl
  have tl := ok.tl
  obtain ⟨j, hj⟩ : ∃ j : Nat, (s.at_ / 8).toNat = j := ⟨_, rfl⟩
  have a0 := ok.a0
  have a1 := ok.a1
  have e1 : s.at_ / 8 = (j : Int) := by omega
  have hjl : j < s.tape.length := by omega
  obtain ⟨b0, off, hA, hb0, hcell⟩ := hrd.2 (by omega)
  have cj := hcell j hjl
  have hoc : octS s = s.tape.getD j 0 := by unfold octS; rw [if_neg (by omega), hj]
  obtain ⟨x, hx⟩ : ∃ x, s.tape.getD j 0 = x := ⟨_, rfl⟩
  rw [hx] at cj hoc
  rw [hk] at c0
  have HEND : Hid (∀ n, RetOct w g s A c (.returned (.int .u8 x)) (w.drewN n)) := Lib.hid fun n => ⟨b, h, by rw [hoc], blk_drewN hg n, ⟨hbk.1, hbk.2.1, fun hk2 => by rw [hk] at hk2; cases hk2⟩, only_drewN g w n⟩
  obtain ⟨L, hL⟩ : ∃ L, s.tape.length = L := ⟨_, rfl⟩
  obtain ⟨at_, hat⟩ : ∃ a, s.at_ = a := ⟨_, rfl⟩
  rw [hL] at c1 hjl tl
  rw [hat] at c36 e1 a0 a1
  have q0 : (0 : Int) ≤ (j : Int) ∧ (j : Int) < (L : Int) := by omega
  have e2 : IntKind.u64.wrap (at_.tdiv 8) = (j : Int) := by rw [Int.tdiv_eq_ediv_of_nonneg a0, e1, IntKind.wrap_u64]; omega
  subst hA
  clear hS hj hx hoc hcell hrd hg hbk hk hlt hL hat hb0 e1 ok
  go_enter Tryd.func32, Tryd.ntmps32
  go_wp2
  go_quiet (fail)
  go_wp2
  go_ret
  exact HEND.out _
set_option maxHeartbeats 4000000 in
/-- Of a stream: no block is hashed. -/
theorem qoct3_c (g : Nat) (s : Src) (A : Option Addr) (c : Nat) (b : List Int) (ok : s.Ok) (hk : s.kind = 2) (hn : s.at_ % 256 ≠ 0) (hbk : BkA s b true) (w : World) (hg : Blk w g 50 (rdV s A c b true)) :
    Calls Tryd.prog 32 #[.pointer (some ⟨g, 0, none⟩)] w (RetOct w g s A c) := by
  obtain ⟨h, hh⟩ : ∃ h, h = true := ⟨_, rfl⟩
  rw [← hh] at hg hbk
  have hS : RdS g s A c w := ⟨b, h, hg, hbk.1⟩
  have c0 := hS.kind
  have a0 := ok.a0
  have a1 := ok.a1
  rw [hk] at c0
  have hRl := blkL_len s.seed s.dom (s.at_ / 256)
  have hRi := blkL_in s.seed s.dom (s.at_ / 256)
  obtain ⟨j, hj⟩ : ∃ j : Nat, (s.at_ % 256 / 8).toNat = j := ⟨_, rfl⟩
  have e1 : s.at_ % 256 / 8 = (j : Int) := by omega
  have hj32 : j < 32 := by omega
  have hoc : octS s = (blkL s.seed s.dom (s.at_ / 256)).getD j 0 := by unfold octS; rw [if_pos hk, hj]
  have HBLK := Lib.hid (fun W k => qblock_c s.seed s.dom (s.at_ / 256) ok.sl ok.si ok.d0 ok.d1 (by omega) (by omega) W k)
  have hbR := hbk.2.2 hk hh hn
  have c69 := (hg.cell 69).trans (rdV_hashed s ok.sl A c b hbk.1 h)
  rw [hh] at c69 hg
  obtain ⟨R, hR⟩ : ∃ R, blkL s.seed s.dom (s.at_ / 256) = R := ⟨_, rfl⟩
  rw [hR] at hRl hRi hoc HBLK
  obtain ⟨x, hx⟩ : ∃ x, R.getD j 0 = x := ⟨_, rfl⟩
  rw [hx] at hoc
  have HEND : Hid (∀ hh W, Blk W g 50 (rdV s A c R hh) → Only g w W → ∀ n, RetOct w g s A c (.returned (.int .u8 x)) (W.drewN n)) := Lib.hid fun hh W hB hO n => ⟨R, hh, by rw [hoc], blk_drewN hB n, ⟨hRl, hRi, fun _ => hR.symm⟩, hO.trans (only_drewN g W n)⟩
  have C36 := Lib.hid (fun (hh : Bool) (W : World) (hB : Blk W g 50 (rdV s A c R hh)) => (hB.cell 36).trans (rdV_at s ok.sl A c R hh))
  have CJ := Lib.hid (fun (hh : Bool) (W : World) (hB : Blk W g 50 (rdV s A c R hh)) => (show W.cell? ⟨g, 37 + j, none⟩ = some (.int .u8 x) by rw [hB.cell, rdV_blk s ok.sl A c R hh j (by omega), hx]))
  have E1 := Lib.hid e1
  rw [hbR, hR] at hg
  have KV := Lib.hid hg
  have KO : Hid (Only g w w) := Lib.hid (Only.refl g w)
  have c36a := C36.out _ _ hg
  have t1 : (s.at_ % 256 == 0) = false := by rw [beq_eq_false_iff_ne]; exact hn
  obtain ⟨at_, hat⟩ : ∃ a, s.at_ = a := ⟨_, rfl⟩
  rw [hat] at a0 a1 C36 E1 c36a t1
  clear hS hj hx hoc hg hbk hk hn hat e1 hRl hRi HBLK ok hbR hR hh
  go_enter Tryd.func32, Tryd.ntmps32
  go_wp2
  clear c36a
  have c36 := C36.out _ _ KV.out
  have cj := CJ.out _ _ KV.out
  have q0 : ((j : Nat) : Int) < 32 := by omega
  have e2 : IntKind.u64.wrap ((at_.tmod 256).tdiv 8) = (j : Int) := by rw [Int.tmod_eq_emod_of_nonneg a0, Int.tdiv_eq_ediv_of_nonneg (by omega), E1.out, IntKind.wrap_u64]; omega
  go_quiet (fail)
  go_wp2
  go_ret
  exact HEND.out _ _ KV.out KO.out _

set_option maxHeartbeats 8000000 in
/-- Of a stream: a block is hashed. -/
theorem qoct2_c (g : Nat) (s : Src) (A : Option Addr) (c : Nat) (b : List Int) (h : Bool) (ok : s.Ok) (hk : s.kind = 2) (hn : h = false ∨ s.at_ % 256 = 0) (hbk : BkA s b h) (w : World) (hg : Blk w g 50 (rdV s A c b h)) (hkst : Kst w) :
    Calls Tryd.prog 32 #[.pointer (some ⟨g, 0, none⟩)] w (RetOct w g s A c) := by
  have hS : RdS g s A c w := ⟨b, h, hg, hbk.1⟩
  have c0 := hS.kind
  have a0 := ok.a0
  have a1 := ok.a1
  rw [hk] at c0
  have hRl := blkL_len s.seed s.dom (s.at_ / 256)
  have hRi := blkL_in s.seed s.dom (s.at_ / 256)
  obtain ⟨j, hj⟩ : ∃ j : Nat, (s.at_ % 256 / 8).toNat = j := ⟨_, rfl⟩
  have e1 : s.at_ % 256 / 8 = (j : Int) := by omega
  have hj32 : j < 32 := by omega
  have hoc : octS s = (blkL s.seed s.dom (s.at_ / 256)).getD j 0 := by unfold octS; rw [if_pos hk, hj]
  have HBLK := Lib.hid (fun W k => qblock_c s.seed s.dom (s.at_ / 256) ok.sl ok.si ok.d0 ok.d1 (by omega) (by omega) W k)
  have OKA1 := ok.a1
  have c69 := (hg.cell 69).trans (rdV_hashed s ok.sl A c b hbk.1 h)
  have c36a := hS.at_ ok.sl
  obtain ⟨R, hR⟩ : ∃ R, blkL s.seed s.dom (s.at_ / 256) = R := ⟨_, rfl⟩
  rw [hR] at hRl hRi hoc HBLK
  obtain ⟨x, hx⟩ : ∃ x, R.getD j 0 = x := ⟨_, rfl⟩
  rw [hx] at hoc
  have HEND : Hid (∀ hh W, Blk W g 50 (rdV s A c R hh) → Only g w W → ∀ n, RetOct w g s A c (.returned (.int .u8 x)) (W.drewN n)) := Lib.hid fun hh W hB hO n => ⟨R, hh, by rw [hoc], blk_drewN hB n, ⟨hRl, hRi, fun _ => hR.symm⟩, hO.trans (only_drewN g W n)⟩
  have C36 := Lib.hid (fun (hh : Bool) (W : World) (hB : Blk W g 50 (rdV s A c R hh)) => (hB.cell 36).trans (rdV_at s ok.sl A c R hh))
  have CJ := Lib.hid (fun (hh : Bool) (W : World) (hB : Blk W g 50 (rdV s A c R hh)) => (show W.cell? ⟨g, 37 + j, none⟩ = some (.int .u8 x) by rw [hB.cell, rdV_blk s ok.sl A c R hh j (by omega), hx]))
  have E1 := Lib.hid e1
  have HPUT := Lib.hid (rdV_put s ok.sl A c b R hbk.1 hRl h)
  have HSET := Lib.hid (rdV_set69 s ok.sl A c R hRl h true)
  have LR := Lib.hid (show 37 + (intsA .u8 R).size ≤ (rdV s A c b h).size by rw [intsA_size, hRl, rdV_size s ok.sl A c b hbk.1]; omega)
  have L69 := Lib.hid (show 69 < (rdV s A c R h).size by rw [rdV_size s ok.sl A c R hRl]; omega)
  have SR := Lib.hid (show (Tryd.prog.info? 25).map (·.size) = some (intsA .u8 R).size by rw [intsA_size, hRl]; exact size_hash)
  have OR := Lib.hid (all_oneCell_toArray (ints_one .u8 R))
  have HRL := Lib.hid hRl
  have HSL := Lib.hid ok.sl
  have SSD := Lib.hid (show (Tryd.prog.info? 25).map (·.size) = some (s.seed.map (Value.int .u8)).length by rw [List.length_map, ok.sl]; exact size_hash)
  have HKS := Lib.hid hkst
  have HQ := Lib.hid (show IntKind.u64.wrap (s.at_ / 256) = s.at_ / 256 by rw [IntKind.wrap_u64]; omega)
  have HQD := Lib.hid (show s.at_.tdiv 256 = s.at_ / 256 from Int.tdiv_eq_ediv_of_nonneg a0)
  have HSS := Lib.hid hS
  have F0 : Fx [.blk g 50 (rdV s A c b h)] w := ⟨hg, trivial⟩
  obtain ⟨V, hV⟩ : ∃ V, rdV s A c b h = V := ⟨_, rfl⟩
  rw [hV] at F0 HPUT LR
  have HF0 := Lib.hid F0
  obtain ⟨at_, hat⟩ : ∃ a, s.at_ = a := ⟨_, rfl⟩
  have HAT := Lib.hid hat
  have a2 := a0
  rw [hat] at a2 c36a E1
  have AA := Lib.hid a0
  clear hS hj hx hoc hg hbk hk hat e1 hRl hRi ok hR hV F0 hkst a0 a1
  have hn2 : h = false ∨ (h = true ∧ (at_ % 256 == 0) = true) := by
    rcases hn with h1 | h1
    · exact .inl h1
    · cases h
      · exact .inl rfl
      · exact .inr ⟨rfl, by rw [beq_iff_eq, ← HAT.out]; exact h1⟩
  clear hn
  have a3 : at_ < 18446744073709551616 := by rw [← HAT.out]; exact OKA1
  rcases hn2 with hh | ⟨hh, t1⟩
  all_goals
    rw [hh] at c69
    go_enter Tryd.func32, Tryd.ntmps32
    go_wp2
    have F0 := HF0.out.drew
    refine wp_region_held_drew (S := RdS g s A c) (by kernel_rfl) (HSS.out.drew) (fun hH => ?_)
    refine wpAnyH_letter #[false, false, false, false, false, false, false, false, false, false, false, false, false, false, false, false, false, false, false, false, false] (by kernel_rfl) (fun _ _ d _ _ h => by cases d <;> exact h) (fun QL HQ1 HQ2 => ?_)
    refine held_v 0 (some 36) rfl (by kernel_rfl) (by kernel_rfl) (by kernel_rfl) (by kernel_rfl) (fun c a v w h => HQ2.out c a _ v w h) (by kernel_rfl) (.pointer (some ⟨g, 0, none⟩)) (fun W h => by kernel_rfl) hH ?_
    try simp only [Act.put, List.setIfInBounds_toArray, List.set_cons_zero, List.set_cons_succ]
    refine held_v 1 (some 37) rfl (by kernel_rfl) (by kernel_rfl) (by kernel_rfl) (by kernel_rfl) (fun c a v w h => HQ2.out c a _ v w h) (by kernel_rfl) (.pointer (some ⟨g, 0, none⟩)) (fun W h => by kernel_rfl) hH ?_
    try simp only [Act.put, List.setIfInBounds_toArray, List.set_cons_zero, List.set_cons_succ]
    refine held_v 2 (some 38) rfl (by kernel_rfl) (by kernel_rfl) (by kernel_rfl) (by kernel_rfl) (fun c a v w h => HQ2.out c a _ v w h) (by kernel_rfl) (.pointer (some ⟨g, 0, none⟩)) (fun W h => by go_simp) hH ?_
    try simp only [Act.put, List.setIfInBounds_toArray, List.set_cons_zero, List.set_cons_succ]
    refine held_v 3 (some 39) rfl (by kernel_rfl) (by kernel_rfl) (by kernel_rfl) (by kernel_rfl) (fun c a v w h => HQ2.out c a _ v w h) (by kernel_rfl) (.pointer (some ⟨g, 0, none⟩)) (fun W h => by kernel_rfl) hH ?_
    try simp only [Act.put, List.setIfInBounds_toArray, List.set_cons_zero, List.set_cons_succ]
    refine held_v 4 (some 40) rfl (by kernel_rfl) (by kernel_rfl) (by kernel_rfl) (by kernel_rfl) (fun c a v w h => HQ2.out c a _ v w h) (by kernel_rfl) (.pointer (some ⟨g, 3, none⟩)) (fun W h => by kernel_rfl) hH ?_
    try simp only [Act.put, List.setIfInBounds_toArray, List.set_cons_zero, List.set_cons_succ]
    refine held_load_at 5 (some 41) rfl (by kernel_rfl) (by kernel_rfl) (by kernel_rfl) (by kernel_rfl) (fun c a v w h => HQ2.out c a _ v w h) (by kernel_rfl) 25 (.tmp 40) rfl g 3 (by kernel_rfl) (s.seed.map (Value.int .u8)) (fun W h => h.seed) _ Tryd.underlying25 rfl SSD.out hH ?_
    try simp only [Act.put, List.setIfInBounds_toArray, List.set_cons_zero, List.set_cons_succ]
    refine held_v 6 (some 42) rfl (by kernel_rfl) (by kernel_rfl) (by kernel_rfl) (by kernel_rfl) (fun c a v w h => HQ2.out c a _ v w h) (by kernel_rfl) (.pointer (some ⟨g, 0, none⟩)) (fun W h => by kernel_rfl) hH ?_
    try simp only [Act.put, List.setIfInBounds_toArray, List.set_cons_zero, List.set_cons_succ]
    refine held_v 7 (some 43) rfl (by kernel_rfl) (by kernel_rfl) (by kernel_rfl) (by kernel_rfl) (fun c a v w h => HQ2.out c a _ v w h) (by kernel_rfl) (.pointer (some ⟨g, 0, none⟩)) (fun W h => by go_simp) hH ?_
    try simp only [Act.put, List.setIfInBounds_toArray, List.set_cons_zero, List.set_cons_succ]
    refine held_v 8 (some 44) rfl (by kernel_rfl) (by kernel_rfl) (by kernel_rfl) (by kernel_rfl) (fun c a v w h => HQ2.out c a _ v w h) (by kernel_rfl) (.pointer (some ⟨g, 0, none⟩)) (fun W h => by kernel_rfl) hH ?_
    try simp only [Act.put, List.setIfInBounds_toArray, List.set_cons_zero, List.set_cons_succ]
    refine held_v 9 (some 45) rfl (by kernel_rfl) (by kernel_rfl) (by kernel_rfl) (by kernel_rfl) (fun c a v w h => HQ2.out c a _ v w h) (by kernel_rfl) (.pointer (some ⟨g, 35, none⟩)) (fun W h => by kernel_rfl) hH ?_
    try simp only [Act.put, List.setIfInBounds_toArray, List.set_cons_zero, List.set_cons_succ]
    refine held_v 10 (some 46) rfl (by kernel_rfl) (by kernel_rfl) (by kernel_rfl) (by kernel_rfl) (fun c a v w h => HQ2.out c a _ v w h) (by kernel_rfl) (.int .u64 s.dom) (fun W h => by have p := h.dom HSL.out; go_simp) hH ?_
    try simp only [Act.put, List.setIfInBounds_toArray, List.set_cons_zero, List.set_cons_succ]
    refine held_v 11 (some 47) rfl (by kernel_rfl) (by kernel_rfl) (by kernel_rfl) (by kernel_rfl) (fun c a v w h => HQ2.out c a _ v w h) (by kernel_rfl) (.pointer (some ⟨g, 0, none⟩)) (fun W h => by kernel_rfl) hH ?_
    try simp only [Act.put, List.setIfInBounds_toArray, List.set_cons_zero, List.set_cons_succ]
    refine held_v 12 (some 48) rfl (by kernel_rfl) (by kernel_rfl) (by kernel_rfl) (by kernel_rfl) (fun c a v w h => HQ2.out c a _ v w h) (by kernel_rfl) (.pointer (some ⟨g, 0, none⟩)) (fun W h => by go_simp) hH ?_
    try simp only [Act.put, List.setIfInBounds_toArray, List.set_cons_zero, List.set_cons_succ]
    refine held_v 13 (some 49) rfl (by kernel_rfl) (by kernel_rfl) (by kernel_rfl) (by kernel_rfl) (fun c a v w h => HQ2.out c a _ v w h) (by kernel_rfl) (.pointer (some ⟨g, 0, none⟩)) (fun W h => by kernel_rfl) hH ?_
    try simp only [Act.put, List.setIfInBounds_toArray, List.set_cons_zero, List.set_cons_succ]
    refine held_v 14 (some 50) rfl (by kernel_rfl) (by kernel_rfl) (by kernel_rfl) (by kernel_rfl) (fun c a v w h => HQ2.out c a _ v w h) (by kernel_rfl) (.pointer (some ⟨g, 36, none⟩)) (fun W h => by kernel_rfl) hH ?_
    try simp only [Act.put, List.setIfInBounds_toArray, List.set_cons_zero, List.set_cons_succ]
    refine held_v 15 (some 51) rfl (by kernel_rfl) (by kernel_rfl) (by kernel_rfl) (by kernel_rfl) (fun c a v w h => HQ2.out c a _ v w h) (by kernel_rfl) (.int .u64 s.at_) (fun W h => by have p := h.at_ HSL.out; go_simp) hH ?_
    try simp only [Act.put, List.setIfInBounds_toArray, List.set_cons_zero, List.set_cons_succ]
    refine held_v 16 (some 52) rfl (by kernel_rfl) (by kernel_rfl) (by kernel_rfl) (by kernel_rfl) (fun c a v w h => HQ2.out c a _ v w h) (by kernel_rfl) (.int .u64 (s.at_ / 256)) (fun W h => by have p := HQ.out; have p2 := HQD.out; go_simp) hH ?_
    try simp only [Act.put, List.setIfInBounds_toArray, List.set_cons_zero, List.set_cons_succ]
    refine wpAnyH_ready (rs := [17]) (by kernel_rfl) (by decide) ?_
    refine AllReadyH.cons rfl (fun K hK => ?_) AllReadyH.nil
    refine step_call (some 53) (by kernel_rfl) (by kernel_rfl) _ _ (by kernel_rfl) _ (HBLK.out _ (HKS.out.below (Below.refl _ _).drew)) ?_
    rintro e w41 ⟨rfl, hbw41⟩
    have ex42 := F0.below hbw41
    refine ⟨_, rfl, ?_⟩
    refine hK.out _ _ (hH.below hbw41) (fun hw41 => ?_)
    clear hK K
    try simp only [Act.put, List.setIfInBounds_toArray, List.set_cons_zero, List.set_cons_succ]
    refine held_v 18 (some 54) rfl (by kernel_rfl) (by kernel_rfl) (by kernel_rfl) (by kernel_rfl) (fun c a v w h => HQ2.out c a _ v w h) (by kernel_rfl) (.pointer (some ⟨g, 0, none⟩)) (fun W h => by go_simp) hw41 ?_
    try simp only [Act.put, List.setIfInBounds_toArray, List.set_cons_zero, List.set_cons_succ]
    refine held_v 19 (some 55) rfl (by kernel_rfl) (by kernel_rfl) (by kernel_rfl) (by kernel_rfl) (fun c a v w h => HQ2.out c a _ v w h) (by kernel_rfl) (.pointer (some ⟨g, 37, none⟩)) (fun W h => by kernel_rfl) hw41 ?_
    try simp only [Act.put, List.setIfInBounds_toArray, List.set_cons_zero, List.set_cons_succ]
    refine wpAnyH_ready (rs := [20]) (by kernel_rfl) (by decide) ?_
    refine AllReadyH.cons rfl (fun K hK => ?_) AllReadyH.nil
    refine step_store_off none (by kernel_rfl) (by kernel_rfl) 25 (.tmp 55) (.tmp 53) rfl g 37 (by kernel_rfl) 50 V (intsA .u8 R) ex42.1 (by kernel_rfl) LR.out SR.out OR.out ?_
    intro w43 hkw43 how43
    have HKN : Hid (Blk w43 g 50 (rdV s A c R h)) := Lib.hid (by have hh := hkw43.out; rw [HPUT.out] at hh; exact hh)
    have HON : Hid (Only g w w43) := Lib.hid ((Only.of_below (w := w.drew) hbw41).of_drew.trans how43)
    refine hK.out _ _ (⟨R, h, HKN.out, HRL.out⟩) (fun hw43 => ?_)
    clear hK K
    try simp only [Act.put, List.setIfInBounds_toArray, List.set_cons_zero, List.set_cons_succ]
    refine wpAnyH_done (by kernel_rfl) ?_ _
    refine HQ1.out _ _ ?_
    clear HQ1 HQ2
    clear c69 c36a
    go_wp2_with (with_reducible refine at_any ?_; refine at_store 58 rfl ?_; refine wpList_store_cell rfl 4 (.tmp 58) (.const (.bool true)) rfl g 69 rfl 50 (rdV s A c R h) HKN.out (.bool true) rfl L69.out size_bool rfl rfl ?_; intro w9 hk9 ho9)
    have KV := Lib.hid (show Blk w9 g 50 (rdV s A c R true) by have hh := hk9.out; rw [HSET.out] at hh; exact hh)
    have KO := Lib.hid (HON.out.trans ho9)
    have a0 := a2
    have c36 := (C36.out _ _ KV.out).trans (by rw [HAT.out])
    have cj := CJ.out _ _ KV.out
    have q0 : ((j : Nat) : Int) < 32 := by omega
    have e2 : IntKind.u64.wrap ((at_.tmod 256).tdiv 8) = (j : Int) := by rw [Int.tmod_eq_emod_of_nonneg a0, Int.tdiv_eq_ediv_of_nonneg (by omega), E1.out, IntKind.wrap_u64]; omega
    go_quiet (fail)
    go_wp2
    go_ret
    exact HEND.out _ _ KV.out KO.out _
end Go.Proofs.YtmeefnhmkffdlaaDoor
/-
  What the landed tape's (reading).bit and number return, and leave.
  Conditions: the source's fields lie in their types' ranges; it has so many bits; the table of constants holds what the text lays.
-/
set_option maxRecDepth 100000
set_option linter.unusedSimpArgs false
namespace Go.Proofs.YtmeefnhmkffdlaaDoor
open Go.ChangeShapes Go.WideShapes Go.ChangeAt Go.RowKit
set_option linter.unusedVariables false
theorem Only.of_drew_l {g : Nat} {w w' : World} (h : Only g w.drew w') : Only g w w' := h.of_drew
theorem qoctet_c (g : Nat) (s : Src) (A : Option Addr) (c : Nat) (b : List Int) (h : Bool) (ok : s.Ok) (hk : s.kind = 2 ∨ s.kind = 1 ∧ s.at_ < 8 * (s.tape.length : Int)) (hbk : BkA s b h) (w : World) (hg : Blk w g 50 (rdV s A c b h)) (hrd : Rd .u8 w w.heap.size A s.tape.length s.tape) (hkst : Kst w) :
    Calls Tryd.prog 32 #[.pointer (some ⟨g, 0, none⟩)] w (RetOct w g s A c) := by
  rcases hk with hk | ⟨hk, hlt⟩
  · by_cases hn : h = false ∨ s.at_ % 256 = 0
    · exact qoct2_c g s A c b h ok hk hn hbk w hg hkst
    · have h1 : h = true := by
        cases h
        · exact absurd (.inl rfl) hn
        · rfl
      subst h1
      exact qoct3_c g s A c b ok hk (fun h => hn (.inr h)) hbk w hg
  · exact qoct1_c g s A c b h ok hk hlt hbk w hg hrd
theorem octS_in (s : Src) (ok : s.Ok) : 0 ≤ octS s ∧ octS s < 256 := by
  unfold octS
  split
  · exact bytN_in s.seed s.dom (s.at_ / 256) _
  · rw [List.getD_eq_getElem?_getD]
    rcases h : s.tape[(s.at_ / 8).toNat]? with _ | z
    · simp
    · exact ok.ti z (List.mem_of_getElem? h)
set_option maxHeartbeats 4000000 in
theorem qbitr_c (g : Nat) (s : Src) (A : Option Addr) (c : Nat) (b : List Int) (h : Bool) (ok : s.Ok) (hk : s.kind = 2 ∨ s.kind = 1 ∧ s.at_ < 8 * (s.tape.length : Int)) (hnx : s.at_ + 1 < 18446744073709551616) (hbk : BkA s b h) (w : World) (hg : Blk w g 50 (rdV s A c b h)) (hrd : Rd .u8 w w.heap.size A s.tape.length s.tape) (hkst : Kst w) :
    Calls Tryd.prog 30 #[.pointer (some ⟨g, 0, none⟩)] w (RetNum w g (bitS s s.at_) (s.to (s.at_ + 1)) A c) := by
  have HOC := Lib.hid (fun W g1 g2 g3 => qoctet_c g s A c b h ok hk hbk W g1 g2 g3)
  have hx := octS_in s ok
  have hbit := bitS_oct s
  have a0 := ok.a0
  have a1 := ok.a1
  have HG0 := Lib.hid (blk_drewN hg 1)
  have HRD0 := Lib.hid (hrd.below (w' := w.drew) (Below.refl _ _).drew)
  have HKS0 := Lib.hid (hkst.below (Below.refl _ _).drew)
  have HSS : Hid (RdS g s A c w) := Lib.hid ⟨b, h, hg, hbk.1⟩
  obtain ⟨q, hq⟩ : ∃ q, (7 - s.at_ % 8).toNat = q := ⟨_, rfl⟩
  have e2 : 7 - s.at_ % 8 = (q : Int) := by omega
  have hq7 : q ≤ 7 := by omega
  rw [hq] at hbit
  obtain ⟨x, hxe⟩ : ∃ x, octS s = x := ⟨_, rfl⟩
  rw [hxe] at hx hbit
  have p0 := Wd.pow_pos2 q
  have y0 : 0 ≤ x / 2 ^ q := Int.ediv_nonneg hx.1 (by omega)
  have y1 : x / 2 ^ q < 256 := by have := Int.ediv_le_self (2 ^ q) hx.1; omega
  have HQM := Lib.hid (show min q 8 = q by omega)
  have HOX : Hid (octS s = x) := Lib.hid hxe
  have hYE : ∃ y, x / 2 ^ q = y := ⟨_, rfl⟩
  obtain ⟨y, hy⟩ := hYE
  rw [hy] at y0 y1 hbit
  have HM3 := Lib.hid (show octS s / 2 ^ q = y by rw [HOX.out, hy])
  have HM5 := Lib.hid (and_one y y0 y1)
  have HM4 := Lib.hid (show IntKind.u64.wrap y = y by rw [IntKind.wrap_u64]; omega)
  have HSL := Lib.hid ok.sl
  have HXE : Hid (∀ e W, RetOct w g s A c e W → RetOct w g s A c e W) := Lib.hid fun _ _ h => h
  obtain ⟨at_, hat⟩ : ∃ a, s.at_ = a := ⟨_, rfl⟩
  have HAT := Lib.hid hat
  rw [hat] at a0 a1 e2 hnx
  have HM1 := Lib.hid (show at_.tmod 8 = at_ % 8 from Int.tmod_eq_emod_of_nonneg a0)
  have HM2 := Lib.hid (show IntKind.u64.wrap (q : Int) = (q : Int) by rw [IntKind.wrap_u64]; omega)
  have HEND : Hid (∀ b2 h2 W, BkB s b2 → Blk W g 50 (rdV (s.to (at_ + 1)) A c b2 h2) → Only g w W → RetNum w g (bitS s s.at_) (s.to (s.at_ + 1)) A c (.returned (.int .u64 (y % 2))) W) := Lib.hid fun b2 h2 W hB hK hO => ⟨b2, h2, by rw [hbit], by rw [hat]; exact hK, hB.next, hO⟩
  have HST := Lib.hid (fun b2 h2 => rdV_set36 s ok.sl A c b2 h2 (at_ + 1))
  have HSZ := Lib.hid (fun b2 (hb : b2.length = 32) h2 => rdV_size s ok.sl A c b2 hb h2)
  have HC36 := Lib.hid (fun b2 h2 => rdV_at s ok.sl A c b2 h2)
  rw [hat] at HC36
  have HNX := Lib.hid (show IntKind.u64.wrap (at_ + 1) = at_ + 1 by rw [IntKind.wrap_u64]; omega)
  clear hq hxe hy hat hg hrd hkst hbk hbit ok hk p0
  go_enter Tryd.func30, Tryd.ntmps30
  go_wp2
  refine wp_region_held_drew (S := RdS g s A c) (by kernel_rfl) (HSS.out.drew) (fun hH => ?_)
  refine wpAnyH_letter #[false, false, false, false, false, false, false, false, false, false, false, false, false] (by kernel_rfl) (fun _ _ d _ _ h => by cases d <;> exact h) (fun QL HQ1 HQ2 => ?_)
  refine held_v 0 (some 4) rfl (by kernel_rfl) (by kernel_rfl) (by kernel_rfl) (by kernel_rfl) (fun c a v w h => HQ2.out c a _ v w h) (by kernel_rfl) (.pointer (some ⟨g, 0, none⟩)) (fun W h => by kernel_rfl) hH ?_
  try simp only [Act.put, List.setIfInBounds_toArray, List.set_cons_zero, List.set_cons_succ]
  refine held_v 2 (some 6) rfl (by kernel_rfl) (by kernel_rfl) (by kernel_rfl) (by kernel_rfl) (fun c a v w h => HQ2.out c a _ v w h) (by kernel_rfl) (.pointer (some ⟨g, 0, none⟩)) (fun W h => by kernel_rfl) hH ?_
  try simp only [Act.put, List.setIfInBounds_toArray, List.set_cons_zero, List.set_cons_succ]
  refine held_v 3 (some 7) rfl (by kernel_rfl) (by kernel_rfl) (by kernel_rfl) (by kernel_rfl) (fun c a v w h => HQ2.out c a _ v w h) (by kernel_rfl) (.pointer (some ⟨g, 0, none⟩)) (fun W h => by go_simp) hH ?_
  try simp only [Act.put, List.setIfInBounds_toArray, List.set_cons_zero, List.set_cons_succ]
  refine held_v 4 (some 8) rfl (by kernel_rfl) (by kernel_rfl) (by kernel_rfl) (by kernel_rfl) (fun c a v w h => HQ2.out c a _ v w h) (by kernel_rfl) (.pointer (some ⟨g, 0, none⟩)) (fun W h => by kernel_rfl) hH ?_
  try simp only [Act.put, List.setIfInBounds_toArray, List.set_cons_zero, List.set_cons_succ]
  refine held_v 5 (some 9) rfl (by kernel_rfl) (by kernel_rfl) (by kernel_rfl) (by kernel_rfl) (fun c a v w h => HQ2.out c a _ v w h) (by kernel_rfl) (.pointer (some ⟨g, 36, none⟩)) (fun W h => by kernel_rfl) hH ?_
  try simp only [Act.put, List.setIfInBounds_toArray, List.set_cons_zero, List.set_cons_succ]
  refine held_v 6 (some 10) rfl (by kernel_rfl) (by kernel_rfl) (by kernel_rfl) (by kernel_rfl) (fun c a v w h => HQ2.out c a _ v w h) (by kernel_rfl) (.int .u64 at_) (fun W h => by have p := h.at_ HSL.out; rw [HAT.out] at p; go_simp) hH ?_
  try simp only [Act.put, List.setIfInBounds_toArray, List.set_cons_zero, List.set_cons_succ]
  refine held_v 7 (some 11) rfl (by kernel_rfl) (by kernel_rfl) (by kernel_rfl) (by kernel_rfl) (fun c a v w h => HQ2.out c a _ v w h) (by kernel_rfl) (.int .u64 (at_ % 8)) (fun W h => by have p := HM1.out; go_simp) hH ?_
  try simp only [Act.put, List.setIfInBounds_toArray, List.set_cons_zero, List.set_cons_succ]
  refine held_v 8 (some 12) rfl (by kernel_rfl) (by kernel_rfl) (by kernel_rfl) (by kernel_rfl) (fun c a v w h => HQ2.out c a _ v w h) (by kernel_rfl) (.int .u64 q) (fun W h => by have p := HM2.out; go_simp) hH ?_
  try simp only [Act.put, List.setIfInBounds_toArray, List.set_cons_zero, List.set_cons_succ]
  refine wpAnyH_ready (rs := [1]) (by kernel_rfl) (by decide) ?_
  refine AllReadyH.cons rfl (fun K hK => ?_) AllReadyH.nil
  refine step_call (some 5) (by kernel_rfl) (by kernel_rfl) _ _ (by kernel_rfl) _ (HOC.out w.drew HG0.out HRD0.out HKS0.out) ?_
  rintro e w41 ⟨b2, h2, rfl, hk2, hbk2, ho2⟩
  have HK2 := Lib.hid hk2
  have HB2 := Lib.hid hbk2
  have HO2 : Hid (Only g w w41) := Lib.hid ho2.of_drew_l
  clear hk2 hbk2 ho2
  refine ⟨_, rfl, ?_⟩
  refine hK.out _ _ (⟨b2, h2, HK2.out, HB2.out.1⟩) (fun hw41 => ?_)
  clear hK K
  try simp only [Act.put, List.setIfInBounds_toArray, List.set_cons_zero, List.set_cons_succ]
  refine held_v 9 (some 13) rfl (by kernel_rfl) (by kernel_rfl) (by kernel_rfl) (by kernel_rfl) (fun c a v w h => HQ2.out c a _ v w h) (by kernel_rfl) (.int .u8 y) (fun W h => by have p := HM3.out; go_simp) hw41 ?_
  try simp only [Act.put, List.setIfInBounds_toArray, List.set_cons_zero, List.set_cons_succ]
  refine held_v 10 (some 14) rfl (by kernel_rfl) (by kernel_rfl) (by kernel_rfl) (by kernel_rfl) (fun c a v w h => HQ2.out c a _ v w h) (by kernel_rfl) (.int .u64 y) (fun W h => by have p := HM4.out; go_simp) hw41 ?_
  try simp only [Act.put, List.setIfInBounds_toArray, List.set_cons_zero, List.set_cons_succ]
  refine held_v 11 (some 15) rfl (by kernel_rfl) (by kernel_rfl) (by kernel_rfl) (by kernel_rfl) (fun c a v w h => HQ2.out c a _ v w h) (by kernel_rfl) (.int .u64 (y % 2)) (fun W h => by have p := HM5.out; go_simp) hw41 ?_
  try simp only [Act.put, List.setIfInBounds_toArray, List.set_cons_zero, List.set_cons_succ]
  refine held_v 12 (some 3) rfl (by kernel_rfl) (by kernel_rfl) (by kernel_rfl) (by kernel_rfl) (fun c a v w h => HQ2.out c a _ v w h) (by kernel_rfl) (.int .u64 (y % 2)) (fun W h => by kernel_rfl) hw41 ?_
  try simp only [Act.put, List.setIfInBounds_toArray, List.set_cons_zero, List.set_cons_succ]
  refine wpAnyH_done (by kernel_rfl) ?_ _
  refine HQ1.out _ _ ?_
  clear HQ1 HQ2
  have KV := Lib.hid HK2.out
  have L36 := Lib.hid (show 36 < (rdV s A c b2 h2).size by rw [HSZ.out _ HB2.out.1]; omega)
  have c36 := (HK2.out.cell 36).trans (HC36.out b2 h2)
  go_wp2_with (with_reducible refine at_any ?_; refine at_store 24 rfl ?_; refine wpList_store_cell rfl 23 (.tmp 24) (.tmp 21) rfl g 36 rfl 50 _ KV.out (.int .u64 (at_ + 1)) rfl L36.out size_u64s rfl rfl ?_; intro w9 hk9 ho9; have K9 := Lib.hid hk9.out; rw [HST.out] at K9; have O9 := Lib.hid (HO2.out.trans ho9); clear hk9 ho9)
  go_ret
  exact HEND.out _ _ _ HB2.out K9.out O9.out
/-- A source that is read, behind so many bits. -/
def NumI (w : World) (g : Nat) (s : Src) (A : Option Addr) (c : Nat) (w' : World) : Prop := ∃ b h, Blk w' g 50 (rdV s A c b h) ∧ BkA s b h ∧ Only g w w'
theorem or_one (x b : Int) (x0 : 0 ≤ x) (x1 : x < 9223372036854775808) (b0 : 0 ≤ b) (b1 : b < 2) : bits .or .u64 (x * 2) b = 2 * x + b := by
  have h := Wd.u64_or_add x b 1 x0 b0 (by omega) (by omega)
  rw [show (2 : Int) ^ 1 = 2 from rfl] at h
  rw [h]
  omega
set_option maxHeartbeats 4000000 in
theorem qnumr_c (w0 : World) (g : Nat) (s : Src) (A : Option Addr) (c : Nat) (b : List Int) (h : Bool) (ok : s.Ok) (K : Nat) (hK : K ≤ 64) (hk : s.kind = 2 ∨ s.kind = 1 ∧ s.at_ + (K : Int) ≤ 8 * (s.tape.length : Int)) (hnx : s.at_ + (K : Int) < 18446744073709551616) (hbk : BkA s b h) (w : World) (hg : Blk w g 50 (rdV s A c b h)) (hrd : Rd .u8 w0 w0.heap.size A s.tape.length s.tape) (hkst : Kst w0) (hbl : Below w0.heap.size w0 w) (hg0 : w0.heap.size ≤ g) :
    Calls Tryd.prog 27 #[.pointer (some ⟨g, 0, none⟩), .int .i64 K] w (RetNum w g (numS s s.at_ K) (s.to (s.at_ + K)) A c) := by
  have a0 := ok.a0
  have HBT : Hid (∀ (i : Nat), i < K → ∀ W, NumI w g (s.to (s.at_ + i)) A c W → Calls Tryd.prog 30 #[.pointer (some ⟨g, 0, none⟩)] W fun e w' => e = .returned (.int .u64 (bitS s (s.at_ + i))) ∧ NumI w g (s.to (s.at_ + ((i + 1 : Nat) : Int))) A c w') := Lib.hid fun i hi W hI => by
    obtain ⟨b2, h2, hK2, hB2, hO2⟩ := hI
    have hbl2 : Below w0.heap.size w0 W := hbl.trans (hO2.below hg0 hbl.size)
    have hc := qbitr_c g (s.to (s.at_ + i)) A c b2 h2 (ok.to_ _ (by omega) (by omega)) (by
      rcases hk with h3 | ⟨h3, h4⟩
      · exact .inl h3
      · exact .inr ⟨h3, show s.at_ + (i : Int) < 8 * (s.tape.length : Int) by omega⟩) (show s.at_ + (i : Int) + 1 < 18446744073709551616 by omega) hB2 W hK2 ((hrd.below hbl2).mono hbl2.size) (hkst.below hbl2)
    refine hc.mono ?_
    rintro e w' ⟨b3, h3, he, hk3, hb3, ho3⟩
    refine ⟨he, b3, h3, ?_, ?_, hO2.trans ho3⟩
    · rw [show s.at_ + ((i + 1 : Nat) : Int) = (s.to (s.at_ + i)).at_ + 1 from (show s.at_ + ((i + 1 : Nat) : Int) = s.at_ + (i : Int) + 1 by omega)]
      exact hk3
    · rw [show s.at_ + ((i + 1 : Nat) : Int) = (s.to (s.at_ + i)).at_ + 1 from (show s.at_ + ((i + 1 : Nat) : Int) = s.at_ + (i : Int) + 1 by omega)]
      exact hb3
  have HI0 : NumI w g (s.to (s.at_ + ((0 : Nat) : Int))) A c w := by
    rw [Int.natCast_zero, Int.add_zero]
    exact ⟨b, h, hg, hbk, Only.refl g w⟩
  have HI := Lib.hid HI0
  have HEND : Hid (∀ W, NumI w g (s.to (s.at_ + K)) A c W → RetNum w g (numS s s.at_ K) (s.to (s.at_ + K)) A c (.returned (.int .u64 (numS s s.at_ K))) W) := Lib.hid fun W ⟨b2, h2, h3, h4, h5⟩ => ⟨b2, h2, rfl, h3, h4, h5⟩
  have HIN := Lib.hid (fun i => numS_in s s.at_ i)
  have HNX := Lib.hid (fun i => numS_succ s s.at_ i)
  have HPW := Lib.hid (fun (i : Nat) (h : i ≤ 63) => pow2_le i h)
  clear HI0 hg hrd hkst hbl hg0 hbk hk hnx ok a0
  go_enter Tryd.func27, Tryd.ntmps27
  go_wp2
  go_loopw [5, 7] (fun v cc wr => ∃ i : Nat, i ≤ K ∧ v = .int .u64 (numS s s.at_ i) ∧ cc = .int .i64 i ∧ NumI w g (s.to (s.at_ + i)) A c wr) (fun _ cc _ => K - (intOf cc).toNat)
  case atStart => exact ⟨0, by omega, rfl, rfl, HI.out⟩
  case round =>
    clear HI
    obtain ⟨i, hi, rfl, rfl, hF⟩ := hrel
    by_cases hlt : i < K
    · obtain ⟨x0, x1⟩ := HIN.out i
      have hnx := HNX.out i
      have hpw := HPW.out i (by omega)
      obtain ⟨b0, b1⟩ := bitS_in s (s.at_ + i)
      have HB := Lib.hid (fun W => HBT.out i hlt W)
      have HF := Lib.hid hF
      obtain ⟨X, hX⟩ : ∃ x, numS s s.at_ i = x := ⟨_, rfl⟩
      obtain ⟨b, hb⟩ : ∃ x, bitS s (s.at_ + i) = x := ⟨_, rfl⟩
      rw [hX, hb] at hnx
      rw [hX] at x0 x1
      rw [hb] at b0 b1 HB
      rw [hX]
      have HNXi := Lib.hid hnx
      have hxb : X < 9223372036854775808 := by omega
      have HOR := Lib.hid (or_one X b x0 hxb b0 b1)
      have e4 : IntKind.u64.wrap (2 * X) = 2 * X := by rw [IntKind.wrap_u64]; omega
      clear hnx hX hb hF hpw HBT
      go_wp2_with (go_at_call 30; (with_reducible refine (HB.out _ HF.out).mono ?_); rintro e w5 ⟨rfl, hI5⟩; have HI5 := Lib.hid hI5; clear hI5)
      go_roundw
      case rel => exact ⟨i + 1, by omega, by rw [HNXi.out, HOR.out], by go_num, HI5.out⟩
      case measure => simp [intOf]; omega
    · obtain rfl : i = K := by omega
      have HF := Lib.hid hF
      clear hF HIN HNX HPW HBT
      go_wp2
      go_ret
      exact HEND.out _ HF.out
end Go.Proofs.YtmeefnhmkffdlaaDoor
/-
  What the landed tape's calls return (Right, Left, Take, Tape, Stream, Same), and that memory is left as it was.
  Conditions: the arguments lie in their types' ranges; the table of constants holds what the text lays.
-/
set_option maxRecDepth 100000
set_option linter.unusedSimpArgs false
namespace Go.Proofs.YtmeefnhmkffdlaaDoor
open Go.ChangeShapes Go.WideShapes Go.ChangeAt Go.RowKit
set_option linter.unusedVariables false
theorem qhas_c (L : Nat) (b : Int) (tl : L ≤ 140737488355328) (A : Option Addr) (c : Nat) (w : World) : Calls Tryd.prog 25 #[.slice A L c, .int .u64 b] w fun e w' => e = .returned (.bool (decide (b ≤ 8 * (L : Int)))) ∧ w = w' := by
  have e1 : IntKind.u64.wrap ((L : Int) * 8) = L * 8 := by rw [IntKind.wrap_u64]; omega
  rw [Int.mul_comm 8]
  by_cases h1 : b ≤ (L : Int) * 8
  all_goals
    first | rw [decide_eq_true h1] | rw [decide_eq_false h1]
    go_enter Tryd.func25, Tryd.ntmps25
    go_wp2
    go_ret
    exact ⟨rfl, rfl⟩
set_option maxHeartbeats 4000000 in
theorem qsright_c (s : Src) (ok : s.Ok) (A : Option Addr) (c : Nat) (w : World) : Calls Tryd.prog 16 #[.agg (srcV s A c)] w fun e w' => e = .returned (.bool (rightS s)) ∧ Below w.heap.size w w' := by
  have HC := Lib.hid (fun (W : World) (g : Nat) (h : Blk W g 27 (srcV s A c)) => And.intro ((h.cell 0).trans (srcV_kind s A c)) (And.intro ((h.cell 1).trans (srcV_tape s A c)) (And.intro ((h.cell 2).trans (srcV_bits s A c)) ((h.cell 36).trans (srcV_at s ok.sl A c)))))
  have k0 := ok.k0
  have k1 := ok.k1
  have tl := ok.tl
  have b0 := ok.b0
  have b1 := ok.b1
  have a0 := ok.a0
  have a1 := ok.a1
  have hR : rightS s = if s.kind = 1 then decide (s.bits ≤ 8 * (s.tape.length : Int)) && decide (s.at_ ≤ s.bits) else decide (s.kind = 2) && decide (s.at_ ≤ 4611686018427387904) := rfl
  obtain ⟨V, hV⟩ : ∃ V, srcV s A c = V := ⟨_, rfl⟩
  obtain ⟨kd, hkd⟩ : ∃ x, s.kind = x := ⟨_, rfl⟩
  obtain ⟨L, hL⟩ : ∃ x, s.tape.length = x := ⟨_, rfl⟩
  obtain ⟨bt, hbt⟩ : ∃ x, s.bits = x := ⟨_, rfl⟩
  obtain ⟨at_, hat⟩ : ∃ x, s.at_ = x := ⟨_, rfl⟩
  rw [hV, hkd, hL, hbt, hat] at HC
  rw [hkd, hL, hbt, hat] at hR
  rw [hkd] at k0 k1
  rw [hL] at tl
  rw [hbt] at b0 b1
  rw [hat] at a0 a1
  rw [hV, hR]
  clear hV hkd hL hbt hat hR ok
  have HH := Lib.hid (fun W => qhas_c L bt tl A c W)
  by_cases hk : kd = 1
  · rw [if_pos hk]
    subst hk
    by_cases h1 : bt ≤ 8 * (L : Int)
    all_goals
      first | rw [decide_eq_true h1] at HH ⊢ | rw [decide_eq_false h1] at HH ⊢
      first | rw [Bool.true_and] | rw [Bool.false_and]
      go_enter Tryd.func16, Tryd.ntmps16
      go_wp2_with (first
        | (with_reducible refine at_any ?_; refine at_dst 1 rfl ?_; refine wpList_box_any rfl 27 (.tmp 0) rfl V rfl ?_; intro w1 hk1 hs1 hb1; have c0 := (HC.out _ _ hk1.out).1; have c1 := (HC.out _ _ hk1.out).2.1; have c2 := (HC.out _ _ hk1.out).2.2.1; have c3 := (HC.out _ _ hk1.out).2.2.2)
        | (go_at_call 25; (with_reducible refine (HH.out _).mono ?_); rintro e _ ⟨rfl, rfl⟩))
      go_ret
      exact ⟨rfl, hb1⟩
  · rw [if_neg hk]
    have t1 : (kd == 1) = false := by rw [beq_eq_false_iff_ne]; exact hk
    by_cases h1 : kd = 2
    all_goals
      first | rw [decide_eq_true h1] | rw [decide_eq_false h1]
      first | rw [Bool.true_and] | rw [Bool.false_and]
      first | subst h1 | (have t2 : (kd == 2) = false := by rw [beq_eq_false_iff_ne]; exact h1)
      go_enter Tryd.func16, Tryd.ntmps16
      go_wp2_with (with_reducible refine at_any ?_; refine at_dst 1 rfl ?_; refine wpList_box_any rfl 27 (.tmp 0) rfl V rfl ?_; intro w1 hk1 hs1 hb1; have c0 := (HC.out _ _ hk1.out).1; have c1 := (HC.out _ _ hk1.out).2.1; have c2 := (HC.out _ _ hk1.out).2.2.1; have c3 := (HC.out _ _ hk1.out).2.2.2)
      go_ret
      exact ⟨rfl, hb1⟩
set_option maxHeartbeats 4000000 in
theorem qsleft_c (s : Src) (ok : s.Ok) (A : Option Addr) (c : Nat) (w : World) : Calls Tryd.prog 26 #[.agg (srcV s A c)] w fun e w' => e = .returned (.int .u64 (leftS s)) ∧ Below w.heap.size w w' := by
  have HC := Lib.hid (fun (W : World) (g : Nat) (h : Blk W g 27 (srcV s A c)) => And.intro ((h.cell 0).trans (srcV_kind s A c)) (And.intro ((h.cell 2).trans (srcV_bits s A c)) ((h.cell 36).trans (srcV_at s ok.sl A c))))
  have HRT := Lib.hid (fun W => qsright_c s ok A c W)
  have SV := Lib.hid (sizedS s ok.sl A c)
  have k0 := ok.k0
  have k1 := ok.k1
  have b0 := ok.b0
  have b1 := ok.b1
  have a0 := ok.a0
  have a1 := ok.a1
  have hl := left_le ok
  have hL : leftS s = if rightS s = true then (if s.kind = 1 then s.bits - s.at_ else 4611686018427387904 - s.at_) else 0 := rfl
  obtain ⟨V, hV⟩ : ∃ V, srcV s A c = V := ⟨_, rfl⟩
  obtain ⟨kd, hkd⟩ : ∃ x, s.kind = x := ⟨_, rfl⟩
  obtain ⟨bt, hbt⟩ : ∃ x, s.bits = x := ⟨_, rfl⟩
  obtain ⟨at_, hat⟩ : ∃ x, s.at_ = x := ⟨_, rfl⟩
  obtain ⟨r, hr⟩ : ∃ x, rightS s = x := ⟨_, rfl⟩
  rw [hV, hkd, hbt, hat] at HC
  rw [hV, hr] at HRT
  rw [hV] at SV
  rw [hkd, hbt, hat, hr] at hL
  rw [hkd] at k0 k1
  rw [hbt] at b0 b1
  rw [hat] at a0 a1
  rw [hV]
  rw [hL] at hl
  rw [hL]
  clear hV hkd hbt hat hr hL ok
  cases r
  · rw [if_neg (by decide)]
    go_enter Tryd.func26, Tryd.ntmps26
    go_wp2_with (first
      | (with_reducible refine at_any ?_; refine at_dst 1 rfl ?_; refine wpList_box_any rfl 27 (.tmp 0) rfl V rfl ?_; intro w1 hk1 hs1 hb1)
      | (with_reducible refine at_any ?_; refine at_dst 3 rfl ?_; refine wpList_load_blk rfl 27 (.tmp 1) rfl w.heap.size rfl 27 V hk1.out _ Tryd.underlying27 rfl SV.out ?_)
      | (go_at_call 16; (with_reducible refine (HRT.out _).mono ?_); rintro e w2 ⟨rfl, hb2⟩))
    go_ret
    exact ⟨rfl, hb1.trans (hb2.mono hb1.size)⟩
  · rw [if_pos rfl] at hl ⊢
    by_cases hk : kd = 1
    all_goals
      first | rw [if_pos hk] at hl ⊢ | rw [if_neg hk] at hl ⊢
      first | subst hk | (have t1 : (kd == 1) = false := by rw [beq_eq_false_iff_ne]; exact hk)
      first | (have e1 : IntKind.u64.wrap (bt - at_) = bt - at_ := by rw [IntKind.wrap_u64]; omega) | (have e2 : IntKind.u64.wrap (4611686018427387904 - at_) = 4611686018427387904 - at_ := by rw [IntKind.wrap_u64]; omega)
      go_enter Tryd.func26, Tryd.ntmps26
      go_wp2_with (first
        | (with_reducible refine at_any ?_; refine at_dst 1 rfl ?_; refine wpList_box_any rfl 27 (.tmp 0) rfl V rfl ?_; intro w1 hk1 hs1 hb1)
        | (with_reducible refine at_any ?_; refine at_dst 3 rfl ?_; refine wpList_load_blk rfl 27 (.tmp 1) rfl w.heap.size rfl 27 V hk1.out _ Tryd.underlying27 rfl SV.out ?_)
        | (go_at_call 16; (with_reducible refine (HRT.out _).mono ?_); rintro e w2 ⟨rfl, hb2⟩; have k2 := hk1.out.below hb2 hk1.out.lt; have c0 := (HC.out _ _ k2).1; have c2 := (HC.out _ _ k2).2.1; have c3 := (HC.out _ _ k2).2.2))
      go_ret
      exact ⟨rfl, hb1.trans (hb2.mono hb1.size)⟩
set_option maxHeartbeats 4000000 in
theorem qstake_c (s : Src) (ok : s.Ok) (k : Int) (k0 : -9223372036854775808 ≤ k) (k1 : k < 9223372036854775808) (A : Option Addr) (c : Nat) (hc : s.tape.length ≤ c) (hcm : c ≤ maxLen) (w : World) (hrd : Rd .u8 w w.heap.size A s.tape.length s.tape) (hkst : Kst w) : Calls Tryd.prog 18 #[.agg (srcV s A c), .int .i64 k] w (RetTake w s k A) := by
  have HRT := Lib.hid (fun W => qsright_c s ok A c W)
  have HLT := Lib.hid (fun W => qsleft_c s ok A c W)
  have hll := left_le ok
  have SV := Lib.hid (sizedS s ok.sl A c)
  have OV := Lib.hid (srcV_ones s A c)
  have ZV := Lib.hid (srcV_same Src.zero s rfl ok.sl none A 0 c)
  have HZ0 := Lib.hid zero_src
  obtain ⟨Z, hZ⟩ : ∃ Z, srcV Src.zero none 0 = Z := ⟨_, rfl⟩
  rw [hZ] at ZV HZ0
  have hRd := Lib.hid hrd
  have HKS := Lib.hid hkst
  by_cases hbad : ¬ (rightS s = true ∧ 0 ≤ k ∧ k ≤ 64)
  · have hE : takeE s k = 1 := by unfold takeE; rw [if_neg hbad]
    have HEND : Hid (∀ w', Below w.heap.size w w' → RetTake w s k A (.returned (.tuple #[.int .u64 0, .agg (srcV s A c), .int .i64 1])) w') := Lib.hid (fun w' hb => ⟨A, c, by unfold takeV takeS; rw [hE]; rfl, (hRd.out.below hb).mono hb.size, hc, hcm, .inl rfl, hb⟩)
    obtain ⟨V, hV⟩ : ∃ V, srcV s A c = V := ⟨_, rfl⟩
    rw [hV] at HRT HLT SV OV ZV HEND
    rw [hV]
    have hcase : (rightS s = false) ∨ (rightS s = true ∧ k < 0) ∨ (rightS s = true ∧ ¬ k < 0 ∧ 64 < k) := by
      cases h : rightS s
      · exact .inl rfl
      · refine .inr ?_
        by_cases h0 : k < 0
        · exact .inl ⟨rfl, h0⟩
        · exact .inr ⟨rfl, h0, Decidable.byContradiction fun h7 => hbad ⟨h, by omega, by omega⟩⟩
    clear hZ hV hE hbad hll hrd hkst
    rcases hcase with hr | ⟨hr, h0⟩ | ⟨hr, h0, h6⟩
    all_goals
      rw [hr] at HRT
      go_enter Tryd.func18, Tryd.ntmps18
      go_wp2_with (first
        | (with_reducible refine at_any ?_; refine at_dst 2 rfl ?_; refine wpList_box_any rfl 27 (.tmp 0) rfl V rfl ?_; intro w1 hk1 hs1 hb1)
        | (with_reducible refine at_any ?_; refine at_dst 5 rfl ?_; refine wpList_alloc_any rfl 27 rfl Z HZ0.out ?_; intro w2 hk2 hs2 hb2; have k2 := Lib.hid (hk1.out.below hb2 hk1.out.lt); have bl2 := Lib.hid (hb1.trans (hb2.mono hb1.size)))
        | (with_reducible refine at_any ?_; refine at_dst 9 rfl ?_; refine wpList_load_blk rfl 27 (.tmp 2) rfl w.heap.size rfl 27 V k2.out _ Tryd.underlying27 rfl SV.out ?_)
        | (go_at_call 16; (with_reducible refine (HRT.out _).mono ?_); rintro e wz ⟨rfl, hbz⟩))
      have HB2 : Src2 w w.heap.size w1.heap.size V Z wz := ⟨hk2.out.below hbz hk2.out.lt, k2.out.below hbz k2.out.lt, bl2.out.trans (hbz.mono bl2.out.size), trivial⟩
      have h25 : w.heap.size < w1.heap.size := by rw [hs1.out]; omega
      obtain ⟨g2, hg2⟩ : ∃ g, w.heap.size = g := ⟨_, rfl⟩
      obtain ⟨g5, hg5⟩ : ∃ g, w1.heap.size = g := ⟨_, rfl⟩
      have h02 : w.heap.size ≤ g2 := by omega
      rw [hg2, hg5] at HB2 h25
      rw [hg2, hg5]
      clear hg2 hg5 hk1 hs1 hb1 hk2 hs2 hb2 k2 bl2 hbz
      have hS := HB2.keep.drew
      have HZ5 := HB2.old.drew
      refine wp_region_held_drew (S := (Fx [.blk g2 27 V, .bel w])) (by kernel_rfl) hS (fun hH => ?_)
      refine wpAnyH_letter #[false, false, false, false] (by kernel_rfl) (fun _ _ d _ _ h => by cases d <;> exact h) (fun QL HQ1 HQ2 => ?_)
      refine held_row 0 (some 20) rfl (by kernel_rfl) (by kernel_rfl) (by kernel_rfl) (by kernel_rfl) (fun c a v w h => HQ2.out c a _ v w h) (by kernel_rfl) 27 (.tmp 2) rfl g2 (by kernel_rfl) 27 V (fun _ h => h.1) _ Tryd.underlying27 rfl SV.out hH ?_
      try simp only [Act.put, List.setIfInBounds_toArray, List.set_cons_zero, List.set_cons_succ]
      refine held_v 1 (some 4) rfl (by kernel_rfl) (by kernel_rfl) (by kernel_rfl) (by kernel_rfl) (fun c a v w h => HQ2.out c a _ v w h) (by kernel_rfl) (.int .u64 0) (fun W h => by kernel_rfl) hH ?_
      try simp only [Act.put, List.setIfInBounds_toArray, List.set_cons_zero, List.set_cons_succ]
      refine wpAnyH_ready (rs := [2]) (by kernel_rfl) (by decide) ?_
      refine AllReadyH.cons rfl (fun K hK => ?_) AllReadyH.nil
      refine step_store none (by kernel_rfl) (by kernel_rfl) 27 (.tmp 5) (.tmp 20) rfl g5 (by kernel_rfl) 27 Z V HZ5.1 (by kernel_rfl) ZV.out SV.out OV.out ?_
      intro w41 hkw41 hsw41 hbw41 how41
      have ex42 : Fx [.blk g5 27 V] w41 := ⟨hkw41.out, trivial⟩
      refine hK.out _ _ (hH.store HZ5.1 ⟨Nat.ne_of_lt h25, Nat.le_trans h02 (Nat.le_of_lt h25), trivial⟩ hsw41.out hbw41 how41) (fun hw41 => ?_)
      clear hK K
      try simp only [Act.put, List.setIfInBounds_toArray, List.set_cons_zero, List.set_cons_succ]
      refine held_v 3 (some 6) rfl (by kernel_rfl) (by kernel_rfl) (by kernel_rfl) (by kernel_rfl) (fun c a v w h => HQ2.out c a _ v w h) (by kernel_rfl) (.int .i64 1) (fun W h => by kernel_rfl) hw41 ?_
      try simp only [Act.put, List.setIfInBounds_toArray, List.set_cons_zero, List.set_cons_succ]
      refine wpAnyH_done (by kernel_rfl) ?_ _
      refine HQ1.out _ _ ?_
      clear HQ1 HQ2
      go_wp2_with (refine bodyPost_mid 4 5 6 27 rfl g5 rfl (.int .u64 0) (.int .i64 1) rfl rfl 27 V ex42.1 _ Tryd.underlying27 rfl SV.out rfl ?_)
      exact HEND.out _ hw41.2.1
  · have hgood : rightS s = true ∧ 0 ≤ k ∧ k ≤ 64 := Decidable.of_not_not hbad
    obtain ⟨hr, kk0, kk1⟩ := hgood
    have ng0 : ¬ k < 0 := by omega
    have ng1 : ¬ 64 < k := by omega
    rw [hr] at HRT
    obtain ⟨K, rfl⟩ := Int.eq_ofNat_of_zero_le kk0
    have e3 : IntKind.u64.wrap (K : Int) = K := by rw [IntKind.wrap_u64]; omega
    clear k0 k1
    obtain ⟨lf, hlf⟩ : ∃ x, leftS s = x := ⟨_, rfl⟩
    rw [hlf] at HLT hll
    by_cases hmore : lf < (K : Int)
    · have hE : takeE s (K : Int) = 8 := by unfold takeE; rw [if_pos ⟨hr, kk0, kk1⟩, hlf, if_neg (by omega)]
      have HEND : Hid (∀ w', Below w.heap.size w w' → RetTake w s (K : Int) A (.returned (.tuple #[.int .u64 0, .agg (srcV s A c), .int .i64 8])) w') := Lib.hid (fun w' hb => ⟨A, c, by unfold takeV takeS; rw [hE]; rfl, (hRd.out.below hb).mono hb.size, hc, hcm, .inl rfl, hb⟩)
      obtain ⟨V, hV⟩ : ∃ V, srcV s A c = V := ⟨_, rfl⟩
      rw [hV] at HRT HLT SV OV ZV HEND
      rw [hV]
      clear hZ hV hE hbad hrd hlf hkst
      go_enter Tryd.func18, Tryd.ntmps18
      go_wp2_with (first
        | (with_reducible refine at_any ?_; refine at_dst 2 rfl ?_; refine wpList_box_any rfl 27 (.tmp 0) rfl V rfl ?_; intro w1 hk1 hs1 hb1)
        | (with_reducible refine at_any ?_; refine at_dst 5 rfl ?_; refine wpList_alloc_any rfl 27 rfl Z HZ0.out ?_; intro w2 hk2 hs2 hb2; have k2 := Lib.hid (hk1.out.below hb2 hk1.out.lt); have bl2 := Lib.hid (hb1.trans (hb2.mono hb1.size)))
        | (with_reducible refine at_any ?_; refine at_dst 9 rfl ?_; refine wpList_load_blk rfl 27 (.tmp 2) rfl w.heap.size rfl 27 V k2.out _ Tryd.underlying27 rfl SV.out ?_)
        | (go_at_call 16; (with_reducible refine (HRT.out _).mono ?_); rintro e wy ⟨rfl, hby⟩; have k2y := Lib.hid (k2.out.below hby k2.out.lt); have bly := Lib.hid (bl2.out.trans (hby.mono bl2.out.size)))
        | (with_reducible refine at_any ?_; refine at_dst 23 rfl ?_; refine wpList_load_blk rfl 27 (.tmp 2) rfl w.heap.size rfl 27 V k2y.out _ Tryd.underlying27 rfl SV.out ?_)
        | (go_at_call 26; (with_reducible refine (HLT.out _).mono ?_); rintro e wz ⟨rfl, hbz⟩))
      have HB2 : Src2 w w.heap.size w1.heap.size V Z wz := ⟨(hk2.out.below hby hk2.out.lt).below hbz (hk2.out.below hby hk2.out.lt).lt, k2y.out.below hbz k2y.out.lt, bly.out.trans (hbz.mono bly.out.size), trivial⟩
      have h25 : w.heap.size < w1.heap.size := by rw [hs1.out]; omega
      obtain ⟨g2, hg2⟩ : ∃ g, w.heap.size = g := ⟨_, rfl⟩
      obtain ⟨g5, hg5⟩ : ∃ g, w1.heap.size = g := ⟨_, rfl⟩
      have h02 : w.heap.size ≤ g2 := by omega
      rw [hg2, hg5] at HB2 h25
      rw [hg2, hg5]
      clear hg2 hg5 hk1 hs1 hb1 hk2 hs2 hb2 k2 bl2 hbz hby k2y bly
      have hS := HB2.keep.drew
      have HZ5 := HB2.old.drew
      refine wp_region_held_drew (S := (Fx [.blk g2 27 V, .bel w])) (by kernel_rfl) hS (fun hH => ?_)
      refine wpAnyH_letter #[false, false, false, false] (by kernel_rfl) (fun _ _ d _ _ h => by cases d <;> exact h) (fun QL HQ1 HQ2 => ?_)
      refine held_row 0 (some 26) rfl (by kernel_rfl) (by kernel_rfl) (by kernel_rfl) (by kernel_rfl) (fun c a v w h => HQ2.out c a _ v w h) (by kernel_rfl) 27 (.tmp 2) rfl g2 (by kernel_rfl) 27 V (fun _ h => h.1) _ Tryd.underlying27 rfl SV.out hH ?_
      try simp only [Act.put, List.setIfInBounds_toArray, List.set_cons_zero, List.set_cons_succ]
      refine held_v 1 (some 4) rfl (by kernel_rfl) (by kernel_rfl) (by kernel_rfl) (by kernel_rfl) (fun c a v w h => HQ2.out c a _ v w h) (by kernel_rfl) (.int .u64 0) (fun W h => by kernel_rfl) hH ?_
      try simp only [Act.put, List.setIfInBounds_toArray, List.set_cons_zero, List.set_cons_succ]
      refine wpAnyH_ready (rs := [2]) (by kernel_rfl) (by decide) ?_
      refine AllReadyH.cons rfl (fun K hK => ?_) AllReadyH.nil
      refine step_store none (by kernel_rfl) (by kernel_rfl) 27 (.tmp 5) (.tmp 26) rfl g5 (by kernel_rfl) 27 Z V HZ5.1 (by kernel_rfl) ZV.out SV.out OV.out ?_
      intro w41 hkw41 hsw41 hbw41 how41
      have ex42 : Fx [.blk g5 27 V] w41 := ⟨hkw41.out, trivial⟩
      refine hK.out _ _ (hH.store HZ5.1 ⟨Nat.ne_of_lt h25, Nat.le_trans h02 (Nat.le_of_lt h25), trivial⟩ hsw41.out hbw41 how41) (fun hw41 => ?_)
      clear hK K
      try simp only [Act.put, List.setIfInBounds_toArray, List.set_cons_zero, List.set_cons_succ]
      refine held_v 3 (some 6) rfl (by kernel_rfl) (by kernel_rfl) (by kernel_rfl) (by kernel_rfl) (fun c a v w h => HQ2.out c a _ v w h) (by kernel_rfl) (.int .i64 8) (fun W h => by kernel_rfl) hw41 ?_
      try simp only [Act.put, List.setIfInBounds_toArray, List.set_cons_zero, List.set_cons_succ]
      refine wpAnyH_done (by kernel_rfl) ?_ _
      refine HQ1.out _ _ ?_
      clear HQ1 HQ2
      go_wp2_with (refine bodyPost_mid 4 5 6 27 rfl g5 rfl (.int .u64 0) (.int .i64 8) rfl rfl 27 V ex42.1 _ Tryd.underlying27 rfl SV.out rfl ?_)
      exact HEND.out _ hw41.2.1
    · have hle : (K : Int) ≤ lf := by omega
      have hE : takeE s (K : Int) = 0 := by unfold takeE; rw [if_pos ⟨hr, kk0, kk1⟩, hlf, if_pos hle]
      have hat : s.at_ + lf < 18446744073709551616 := by
        rcases rightS_end hr with h | h
        · rw [hlf] at h; exact h.1
        · exact absurd ok h
      have a0 := ok.a0
      have hnum : takeV s (K : Int) = numS s s.at_ K := by unfold takeV; rw [if_pos hE, Int.toNat_natCast]
      have hsrc : takeS s (K : Int) = s.to (s.at_ + K) := by unfold takeS; rw [if_pos hE]
      have hkd : s.kind = 2 ∨ s.kind = 1 ∧ s.at_ + (K : Int) ≤ 8 * (s.tape.length : Int) := by
        unfold leftS at hlf
        rw [if_pos hr] at hlf
        unfold rightS at hr
        split at hr
        · rename_i h1
          rw [if_pos h1] at hlf
          simp at hr
          exact .inr ⟨h1, by omega⟩
        · simp at hr
          exact .inl hr.1
      have HNUM := Lib.hid (fun (g : Nat) (W : World) hg (hbl : Below w.heap.size w W) (hg0 : w.heap.size ≤ g) => qnumr_c w g s A c (List.replicate 32 0) false ok K (by omega) hkd (by omega) (BkA.zero s) W hg hrd hkst hbl hg0)
      have BR := Lib.hid (fun (a : Act) (o : Oper) (x : Operand) (W : World) h1 h2 => build_rd (a := a) (o := o) (x := x) W s ok.sl A c h1 h2)
      have SRV := Lib.hid (sizedR s ok.sl A c (List.replicate 32 0) (by simp) false)
      have ORV := Lib.hid (rdV_ones s A c (List.replicate 32 0) false)
      have ZRV := Lib.hid (show (rdV Src.zero none 0 (List.replicate 32 0) false).size = (rdV s A c (List.replicate 32 0) false).size by rw [rdV_size _ rfl _ _ _ (by simp), rdV_size _ ok.sl _ _ _ (by simp)])
      have HZR := Lib.hid zero_rdg
      have SV2 := Lib.hid (sizedS (s.to (s.at_ + K)) ok.sl A c)
      have OV2 := Lib.hid (srcV_ones (s.to (s.at_ + K)) A c)
      have ZV2 := Lib.hid (srcV_same Src.zero (s.to (s.at_ + K)) rfl ok.sl none A 0 c)
      have HSR := Lib.hid (fun (W : World) (g : Nat) (b : List Int) (h : Bool) (hk : Blk W g 50 (rdV (s.to (s.at_ + K)) A c b h)) => rdV_src hk)
      have HEND : Hid (∀ w', Below w.heap.size w w' → RetTake w s (K : Int) A (.returned (.tuple #[.int .u64 (numS s s.at_ K), .agg (srcV (s.to (s.at_ + K)) A c), .int .i64 0])) w') := Lib.hid (fun w' hb => ⟨A, c, by rw [hnum, hsrc, hE], (hRd.out.below hb).mono hb.size, hc, hcm, .inl rfl, hb⟩)
      rw [hZ] at ZV2
      obtain ⟨V, hV⟩ : ∃ V, srcV s A c = V := ⟨_, rfl⟩
      rw [hV] at HRT HLT SV OV ZV BR
      rw [hV]
      obtain ⟨X0, hX0⟩ : ∃ X, rdV s A c (List.replicate 32 0) false = X := ⟨_, rfl⟩
      rw [hX0] at BR SRV ORV ZRV HNUM
      obtain ⟨Y0, hY0⟩ : ∃ X, rdV Src.zero none 0 (List.replicate 32 0) false = X := ⟨_, rfl⟩
      rw [hY0] at ZRV HZR
      obtain ⟨V2, hV2⟩ : ∃ V, srcV (s.to (s.at_ + K)) A c = V := ⟨_, rfl⟩
      rw [hV2] at SV2 OV2 ZV2 HEND
      have HV2 := Lib.hid hV2
      obtain ⟨N, hN⟩ : ∃ x, numS s s.at_ K = x := ⟨_, rfl⟩
      rw [hN] at HEND HNUM
      clear hZ hV hE hbad hrd hlf hnum hsrc hkd hr hkst hX0 hY0 hV2 hN
      go_enter Tryd.func18, Tryd.ntmps18
      go_wp2_with (first
        | (with_reducible refine at_any ?_; refine at_dst 2 rfl ?_; refine wpList_box_any rfl 27 (.tmp 0) rfl V rfl ?_; intro w1 hk1 hs1 hb1)
        | (with_reducible refine at_any ?_; refine at_dst 5 rfl ?_; refine wpList_alloc_any rfl 27 rfl Z HZ0.out ?_; intro w2 hk2 hs2 hb2; have k2 := Lib.hid (hk1.out.below hb2 hk1.out.lt); have bl2 := Lib.hid (hb1.trans (hb2.mono hb1.size)))
        | (with_reducible refine at_any ?_; refine at_dst 9 rfl ?_; refine wpList_load_blk rfl 27 (.tmp 2) rfl w.heap.size rfl 27 V k2.out _ Tryd.underlying27 rfl SV.out ?_)
        | (go_at_call 16; (with_reducible refine (HRT.out _).mono ?_); rintro e wy ⟨rfl, hby⟩; have k2y := Lib.hid (k2.out.below hby k2.out.lt); have k5y := Lib.hid (hk2.out.below hby hk2.out.lt); have bly := Lib.hid (bl2.out.trans (hby.mono bl2.out.size)))
        | (with_reducible refine at_any ?_; refine at_dst 23 rfl ?_; refine wpList_load_blk rfl 27 (.tmp 2) rfl w.heap.size rfl 27 V k2y.out _ Tryd.underlying27 rfl SV.out ?_)
        | (go_at_call 26; (with_reducible refine (HLT.out _).mono ?_); rintro e wz ⟨rfl, hbz⟩; have k2z := Lib.hid (k2y.out.below hbz k2y.out.lt); have k5z := Lib.hid (k5y.out.below hbz k5y.out.lt); have blz := Lib.hid (bly.out.trans (hbz.mono bly.out.size)))
        | (with_reducible refine at_any ?_; refine at_dst 27 rfl ?_; refine wpList_load_blk rfl 27 (.tmp 2) rfl w.heap.size rfl 27 V k2z.out _ Tryd.underlying27 rfl SV.out ?_)
        | (with_reducible refine at_any ?_; refine at_dst 28 rfl ?_; refine wpList_val rfl (.agg X0) (BR.out _ _ _ _ rfl rfl) ?_)
        | (with_reducible refine at_any ?_; refine at_dst 7 rfl ?_; refine wpList_alloc_any rfl 50 rfl Y0 HZR.out ?_; intro w7 hk7 hs7 hb7; have k57 := Lib.hid (k5z.out.below hb7 k5z.out.lt); have bl7 := Lib.hid (blz.out.trans (hb7.mono blz.out.size)))
        | (with_reducible refine at_any ?_; refine at_store 7 rfl ?_; refine wpList_store_any rfl 50 (.tmp 7) (.tmp 28) rfl wz.heap.size rfl 50 Y0 X0 hk7.out rfl ZRV.out SRV.out ORV.out ?_; intro w8 hk8 hs8 hb8 ho8; have bl8 := Lib.hid (bl7.out.trans (hb8 _ blz.out.size)))
        | (go_at_call 27; (with_reducible refine (HNUM.out wz.heap.size w8 hk8.out bl8.out blz.out.size).mono ?_); rintro e w9 ⟨b9, h9, rfl, hk9, hb9, ho9⟩; have HK9 := Lib.hid hk9; have HO9 := Lib.hid ho9; clear hk9 hb9 ho9))
      have h57 : w1.heap.size < wz.heap.size := by
        have h1 := hs2.out
        have h2 := hby.size
        have h3 := hbz.size
        omega
      have h05 : w.heap.size ≤ w1.heap.size := hb1.size
      have HSRC := Lib.hid (fun (W : World) (hk : Blk W wz.heap.size 50 (rdV (s.to (s.at_ + K)) A c b9 h9)) => HSR.out W _ b9 h9 hk)
      rw [HV2.out] at HSRC
      have K9 := HK9.out
      have B9 : Below w.heap.size w w9 := bl8.out.trans (HO9.out.below blz.out.size bl8.out.size)
      have K5 : Blk w9 w1.heap.size 27 Z := Blk.only (Blk.other k57.out ho8 (Nat.ne_of_lt h57)) HO9.out (Nat.ne_of_lt h57)
      obtain ⟨X9, hX9⟩ : ∃ X, rdV (s.to (s.at_ + K)) A c b9 h9 = X := ⟨_, rfl⟩
      rw [hX9] at HSRC K9
      obtain ⟨g7, hg7⟩ : ∃ g, wz.heap.size = g := ⟨_, rfl⟩
      obtain ⟨g5, hg5⟩ : ∃ g, w1.heap.size = g := ⟨_, rfl⟩
      rw [hg7] at K9 HSRC
      rw [hg5] at K5 h05
      rw [hg7, hg5] at h57
      rw [hg7, hg5]
      have hS : Fx [.blk g7 50 X9, .bel w] w9.drew := Fx.drew ⟨K9, B9, trivial⟩
      have HZ5 : Fx [.blk g5 27 Z] w9.drew := Fx.drew ⟨K5, trivial⟩
      clear hg7 hg5 hX9 K9 K5 B9 HK9 HO9 hk1 hs1 hb1 hk2 hs2 hb2 k2 bl2 hby k2y k5y bly hbz k2z k5z blz hk7 hs7 hb7 k57 bl7 hk8 hs8 hb8 ho8 bl8
      refine wp_region_held_drew (S := (Fx [.blk g7 50 X9, .bel w])) (by kernel_rfl) hS (fun hH => ?_)
      refine wpAnyH_letter #[false, false, false, false, false, false] (by kernel_rfl) (fun _ _ d _ _ h => by cases d <;> exact h) (fun QL HQ1 HQ2 => ?_)
      refine held_v 0 (some 31) rfl (by kernel_rfl) (by kernel_rfl) (by kernel_rfl) (by kernel_rfl) (fun c a v w h => HQ2.out c a _ v w h) (by kernel_rfl) (.int .u64 N) (fun W h => by kernel_rfl) hH ?_
      try simp only [Act.put, List.setIfInBounds_toArray, List.set_cons_zero, List.set_cons_succ]
      refine held_v 1 (some 32) rfl (by kernel_rfl) (by kernel_rfl) (by kernel_rfl) (by kernel_rfl) (fun c a v w h => HQ2.out c a _ v w h) (by kernel_rfl) (.pointer (some ⟨g7, 0, none⟩)) (fun W h => by kernel_rfl) hH ?_
      try simp only [Act.put, List.setIfInBounds_toArray, List.set_cons_zero, List.set_cons_succ]
      refine held_load_arr 2 (some 33) rfl (by kernel_rfl) (by kernel_rfl) (by kernel_rfl) (by kernel_rfl) (fun c a v w h => HQ2.out c a _ v w h) (by kernel_rfl) 27 (.tmp 32) rfl g7 0 (by kernel_rfl) V2 (fun W h => HSRC.out W h.1) _ Tryd.underlying27 rfl SV2.out hH ?_
      try simp only [Act.put, List.setIfInBounds_toArray, List.set_cons_zero, List.set_cons_succ]
      refine held_v 3 (some 4) rfl (by kernel_rfl) (by kernel_rfl) (by kernel_rfl) (by kernel_rfl) (fun c a v w h => HQ2.out c a _ v w h) (by kernel_rfl) (.int .u64 N) (fun W h => by kernel_rfl) hH ?_
      try simp only [Act.put, List.setIfInBounds_toArray, List.set_cons_zero, List.set_cons_succ]
      refine wpAnyH_ready (rs := [4]) (by kernel_rfl) (by decide) ?_
      refine AllReadyH.cons rfl (fun K hK => ?_) AllReadyH.nil
      refine step_store none (by kernel_rfl) (by kernel_rfl) 27 (.tmp 5) (.tmp 33) rfl g5 (by kernel_rfl) 27 Z V2 HZ5.1 (by kernel_rfl) ZV2.out SV2.out OV2.out ?_
      intro w41 hkw41 hsw41 hbw41 how41
      have ex42 : Fx [.blk g5 27 V2] w41 := ⟨hkw41.out, trivial⟩
      refine hK.out _ _ (hH.store HZ5.1 ⟨Nat.ne_of_gt h57, h05, trivial⟩ hsw41.out hbw41 how41) (fun hw41 => ?_)
      clear hK K
      try simp only [Act.put, List.setIfInBounds_toArray, List.set_cons_zero, List.set_cons_succ]
      refine held_v 5 (some 6) rfl (by kernel_rfl) (by kernel_rfl) (by kernel_rfl) (by kernel_rfl) (fun c a v w h => HQ2.out c a _ v w h) (by kernel_rfl) (.int .i64 0) (fun W h => by kernel_rfl) hw41 ?_
      try simp only [Act.put, List.setIfInBounds_toArray, List.set_cons_zero, List.set_cons_succ]
      refine wpAnyH_done (by kernel_rfl) ?_ _
      refine HQ1.out _ _ ?_
      clear HQ1 HQ2
      go_wp2_with (refine bodyPost_mid 4 5 6 27 rfl g5 rfl (.int .u64 N) (.int .i64 0) rfl rfl 27 V2 ex42.1 _ Tryd.underlying27 rfl SV2.out rfl ?_)
      exact HEND.out _ hw41.2.1
end Go.Proofs.YtmeefnhmkffdlaaDoor
/-
  What the landed uniform's functions return (Need, bounds, Draw), and that memory is left as it was.
  Conditions: the arguments lie in their types' ranges; the table of constants holds what the text lays.
-/
set_option maxRecDepth 100000
set_option linter.unusedSimpArgs false
namespace Go.Proofs.YtmeefnhmkffdlaaDoor
open Go.ChangeShapes Go.WideShapes Go.ChangeAt Go.RowKit
set_option linter.unusedVariables false
theorem q8need_c (n : Int) (n0 : 0 ≤ n) (n1 : n < 18446744073709551616) (w : World) : Calls Tryd.prog 11 #[.int .u64 n] w fun e w' => e = .returned (.int .i64 (needN n : Nat)) ∧ w = w' := by
  by_cases h : n = 0
  · subst h
    go_enter Tryd.func11, Tryd.ntmps11
    go_wp2
    go_ret
    exact ⟨rfl, rfl⟩
  · have HB := Lib.hid (fun W => bits_i (n - 1) (by omega) (by omega) W)
    have hR : needN n = Wd.bitsL (n - 1).toNat := by unfold needN; rw [if_neg h]
    rw [hR]
    obtain ⟨B, hB⟩ : ∃ B, Wd.bitsL (n - 1).toNat = B := ⟨_, rfl⟩
    rw [hB] at HB ⊢
    have t1 : (n == 0) = false := by rw [beq_eq_false_iff_ne]; exact h
    have e1 : IntKind.u64.wrap (n - 1) = n - 1 := by rw [IntKind.wrap_u64]; omega
    clear h hR hB
    go_enter Tryd.func11, Tryd.ntmps11
    go_wp2_with (go_at_call 21; (with_reducible refine (HB.out _).mono ?_); rintro e _ ⟨rfl, rfl⟩)
    go_ret
    exact ⟨rfl, rfl⟩
/-- Whether a number may be a bound. -/
theorem q8bound_c (n : Int) (n0 : 0 ≤ n) (n1 : n < 18446744073709551616) (w : World) : Calls Tryd.prog 17 #[.int .u64 n] w fun e w' => e = .returned (.bool (decide (1 ≤ n ∧ n < 9223372036854775808))) ∧ w = w' := by
  by_cases h1 : 1 ≤ n
  · by_cases h2 : n < 9223372036854775808
    · rw [decide_eq_true ⟨h1, h2⟩]
      go_enter Tryd.func17, Tryd.ntmps17
      go_wp2
      go_ret
      exact ⟨rfl, rfl⟩
    · rw [decide_eq_false (fun h => h2 h.2)]
      go_enter Tryd.func17, Tryd.ntmps17
      go_wp2
      go_ret
      exact ⟨rfl, rfl⟩
  · rw [decide_eq_false (fun h => h1 h.1)]
    go_enter Tryd.func17, Tryd.ntmps17
    go_wp2
    go_ret
    exact ⟨rfl, rfl⟩
/-- A draw that is handed back: it lies at g11, the place of what is handed back at g7. -/
structure DrH (w0 : World) (g7 g11 : Nat) (V : Array Value) (A : Option Addr) (n : Nat) (zs : List Int) (w : World) : Prop where
  blk : Blk w g11 27 V
  bel : Below w0.heap.size w0 w
  rd : RdP A n zs w
  apt : Apt n A g7
  ne : g11 ≠ g7
  le : w0.heap.size ≤ g7
section
variable {w0 w w' w5 w6 w7 : World} {g3 g7 g11 n : Nat} {V V2 Z : Array Value} {A A2 : Option Addr} {zs : List Int}
theorem DrH.below (h : DrH w0 g7 g11 V A n zs w) (hb : Below w.heap.size w w') : DrH w0 g7 g11 V A n zs w' :=
  ⟨h.blk.below hb h.blk.lt, Below.trans h.bel (hb.mono h.bel.size), h.rd.below hb, h.apt, h.ne, h.le⟩
theorem DrH.drew (h : DrH w0 g7 g11 V A n zs w) : DrH w0 g7 g11 V A n zs w.drew := h.below (Below.refl _ _).drew
theorem DrH.store {g : Nat} {t : TypeId} {cs : Array Value} (h : DrH w0 g7 g11 V A n zs w) (hk : Blk w g t cs) (ha : g11 ≠ g ∧ Apt n A g ∧ w0.heap.size ≤ g) (hs : w'.heap.size = w.heap.size) (hb : ∀ B, B ≤ g → Below B w w') (ho : ∀ j, j ≠ g → w'.heap[j]? = w.heap[j]?) : DrH w0 g7 g11 V A n zs w' :=
  ⟨Blk.other h.blk ho ha.1, Below.trans h.bel (hb _ ha.2.2), h.rd.store hk ha.2.1 hs hb ho, h.apt, h.ne, h.le⟩
theorem DrH.store7 (h : DrH w0 g7 g11 V A n zs w) : g11 ≠ g7 ∧ Apt n A g7 ∧ w0.heap.size ≤ g7 := ⟨h.ne, h.apt, h.le⟩
theorem DrS.hof (h : DrS w0 g3 g7 V A n zs w) (Z : Array Value) : Fx.off g3 V [.blk g7 27 Z] := ⟨Nat.ne_of_gt h.lt, trivial⟩
/-- What an attempt took is laid into a block of its own. -/
theorem DrS.took (h : DrS w0 g3 g7 V A n zs w) (hz : Fx [.blk g7 27 Z] w) (hr : Rd .u8 w5 w5.heap.size A2 n zs) (hsp : Sep w A A2) (hb5 : Below w.heap.size w w5) (hb6 : Below w5.heap.size w5 w6) (hk6 : Blk w6 w5.heap.size 27 Z) (hk7 : Blk w7 w5.heap.size 27 V2) (hs7 : w7.heap.size = w6.heap.size) (hb7 : ∀ B, B ≤ w5.heap.size → Below B w6 w7) (ho7 : ∀ j, j ≠ w5.heap.size → w7.heap[j]? = w6.heap[j]?) :
    DrS w0 g3 g7 V A n zs w7 ∧ Fx [.blk g7 27 Z] w7 ∧ RdP A2 n zs w7 ∧ Apt n A2 g3 ∧ Apt n A2 g7 ∧ DrH w0 g7 w5.heap.size V2 A2 n zs w7 := by
  have hr5 : RdP A2 n zs w5 := hr
  have z5 := hb5.size
  have l3 := h.lt3
  have l7 := h.lt7
  have a3 := Apt.of_sep hsp h.apt3 h.lt3
  have a7 := Apt.of_sep hsp h.apt7 h.lt7
  have S6 := (h.below hb5).below hb6
  have S7 := S6.store hk6 ⟨by omega, Apt.of_lt h.rd.rd z5, by have := h.bel.size; omega⟩ hs7 hb7 ho7
  have R7 := (hr5.below hb6).store hk6 (Apt.of_lt hr (Nat.le_refl _)) hs7 hb7 ho7
  have Z6 := (hz.below hb5).below hb6
  have Z7 := Z6.store hk6 (show Fx.off w5.heap.size Z [.blk g7 27 Z] from ⟨Nat.ne_of_lt (Nat.lt_of_lt_of_le l7 z5), trivial⟩) hs7 hb7 ho7
  exact ⟨S7, Z7, R7, a3, a7, hk7, S7.bel, R7, a7, by omega, h.le7⟩
end
set_option maxHeartbeats 8000000 in
theorem q8draw_c (s : Src) (ok : s.Ok) (n : Int) (n0 : 0 ≤ n) (n1 : n < 18446744073709551616) (a : Int) (a0 : -9223372036854775808 ≤ a) (a1 : a < 9223372036854775808) (A0 : Option Addr) (c0 : Nat) (hc : s.tape.length ≤ c0) (hcm : c0 ≤ maxLen) (w : World) (hrd : Rd .u8 w w.heap.size A0 s.tape.length s.tape) (hkst : Kst w) : Calls Tryd.prog 8 #[.agg (srcV s A0 c0), .int .u64 n, .int .i64 a] w (RetDraw w s A0 (drawR s n a)) := by
  have HRT := Lib.hid (fun W => qsright_c s ok A0 c0 W)
  have HBD := Lib.hid (fun W => q8bound_c n n0 n1 W)
  have HZ0 := Lib.hid zero_src
  have hRd := Lib.hid hrd
  have HKS := Lib.hid hkst
  have HZSS := Lib.hid (fun (t : Src) (h : t.seed.length = 32) A c => srcV_same Src.zero t rfl h none A 0 c)
  obtain ⟨Z, hZ⟩ : ∃ Z, srcV Src.zero none 0 = Z := ⟨_, rfl⟩
  rw [hZ] at HZ0 HZSS
  by_cases hbad : ¬ drawB s n a = true
  · have hE : drawR s n a = (0, s, 1) := by unfold drawR; rw [if_neg hbad]
    have HEND : Hid (∀ w', RdP A0 s.tape.length s.tape w' → Below w.heap.size w w' → RetDraw w s A0 (drawR s n a) (.returned (.tuple #[.int .u64 0, .agg (srcV s A0 c0), .int .i64 1])) w') := Lib.hid (fun w' hr hb => ⟨A0, c0, by rw [hE], hr, hc, hcm, .inl rfl, hb⟩)
    have hcase : (rightS s = false) ∨ (rightS s = true ∧ decide (1 ≤ n ∧ n < 9223372036854775808) = false) ∨ (rightS s = true ∧ decide (1 ≤ n ∧ n < 9223372036854775808) = true ∧ a < 1) ∨ (rightS s = true ∧ decide (1 ≤ n ∧ n < 9223372036854775808) = true ∧ ¬ a < 1 ∧ 64 < a) := by
      cases h : rightS s
      · exact .inl rfl
      · refine .inr ?_
        by_cases h1 : 1 ≤ n ∧ n < 9223372036854775808
        · refine .inr ?_
          by_cases h3 : a < 1
          · exact .inl ⟨rfl, decide_eq_true h1, h3⟩
          · refine .inr ⟨rfl, decide_eq_true h1, h3, Decidable.byContradiction fun h4 => hbad ?_⟩
            unfold drawB
            rw [h, Bool.true_and]
            exact decide_eq_true ⟨h1.1, h1.2, by omega, by omega⟩
        · exact .inl ⟨rfl, decide_eq_false h1⟩
    have SV := Lib.hid (sizedS s ok.sl A0 c0)
    have OV := Lib.hid (srcV_ones s A0 c0)
    have ZV := Lib.hid (HZSS.out s ok.sl A0 c0)
    obtain ⟨V, hV⟩ : ∃ V, srcV s A0 c0 = V := ⟨_, rfl⟩
    rw [hV] at HRT HEND SV OV ZV
    rw [hV]
    obtain ⟨rr, hrr⟩ : ∃ r, drawR s n a = r := ⟨_, rfl⟩
    rw [hrr] at HEND ⊢
    obtain ⟨bd, hbd⟩ : ∃ b, decide (1 ≤ n ∧ n < 9223372036854775808) = b := ⟨_, rfl⟩
    rw [hbd] at HBD hcase
    clear hZ hV hE hbad hrd hkst hrr hbd
    rcases hcase with hr | ⟨hr, rfl⟩ | ⟨hr, rfl, h3⟩ | ⟨hr, rfl, h3, h4⟩
    all_goals
      rw [hr] at HRT
      go_enter Tryd.func8, Tryd.ntmps8
      go_wp2_with (first
        | (with_reducible refine at_any ?_; refine at_dst 3 rfl ?_; refine wpList_box_any rfl 27 (.tmp 0) rfl V rfl ?_; intro w1 hk1 hs1 hb1)
        | (with_reducible refine at_any ?_; refine at_dst 7 rfl ?_; refine wpList_alloc_any rfl 27 rfl Z HZ0.out ?_; intro w2 hk2 hs2 hb2; have k2 := Lib.hid (hk1.out.below hb2 hk1.out.lt))
        | (with_reducible refine at_any ?_; refine at_dst 13 rfl ?_; refine wpList_load_blk rfl 27 (.tmp 3) rfl w.heap.size rfl 27 V k2.out _ Tryd.underlying27 rfl SV.out ?_)
        | (go_at_call 16; (with_reducible refine (HRT.out _).mono ?_); rintro e wz ⟨rfl, hbz⟩)
        | (go_at_call 17; (with_reducible refine (HBD.out _).mono ?_); rintro e _ ⟨rfl, rfl⟩))
      have HS := DrS.mk2 hRd.out hk1.out hb1 hk2.out hb2 hbz
      have HZ : Fx [.blk w1.heap.size 27 Z] wz := ⟨hk2.out.below hbz hk2.out.lt, trivial⟩
      obtain ⟨g3, hg3⟩ : ∃ g, w.heap.size = g := ⟨_, rfl⟩
      obtain ⟨g7, hg7⟩ : ∃ g, w1.heap.size = g := ⟨_, rfl⟩
      obtain ⟨zs, hzs⟩ : ∃ zs, s.tape = zs := ⟨_, rfl⟩
      obtain ⟨L, hL⟩ : ∃ L, zs.length = L := ⟨_, rfl⟩
      rw [hzs, hL] at HEND
      rw [hg3, hg7, hzs, hL] at HS
      rw [hg7] at HZ
      rw [hg3, hg7]
      clear hg3 hg7 hzs hL hk1 hs1 hb1 hk2 hs2 hb2 k2 hbz
      have HZ7 := HZ.drew
      refine wp_region_held_drew (S := (DrS w g3 g7 V A0 L zs)) (by kernel_rfl) HS.drew (fun hH => ?_)
      refine wpAnyH_letter #[false, false, false, false] (by kernel_rfl) (fun _ _ d _ _ h => by cases d <;> exact h) (fun QL HQ1 HQ2 => ?_)
      refine held_row 0 (some 29) rfl (by kernel_rfl) (by kernel_rfl) (by kernel_rfl) (by kernel_rfl) (fun c a v w h => HQ2.out c a _ v w h) (by kernel_rfl) 27 (.tmp 3) rfl g3 (by kernel_rfl) 27 V (fun _ h => h.blk) _ Tryd.underlying27 rfl SV.out hH ?_
      try simp only [Act.put, List.setIfInBounds_toArray, List.set_cons_zero, List.set_cons_succ]
      refine held_v 1 (some 6) rfl (by kernel_rfl) (by kernel_rfl) (by kernel_rfl) (by kernel_rfl) (fun c a v w h => HQ2.out c a _ v w h) (by kernel_rfl) (.int .u64 0) (fun W h => by kernel_rfl) hH ?_
      try simp only [Act.put, List.setIfInBounds_toArray, List.set_cons_zero, List.set_cons_succ]
      refine wpAnyH_ready (rs := [2]) (by kernel_rfl) (by decide) ?_
      refine AllReadyH.cons rfl (fun K hK => ?_) AllReadyH.nil
      refine step_store none (by kernel_rfl) (by kernel_rfl) 27 (.tmp 7) (.tmp 29) rfl g7 (by kernel_rfl) 27 Z V HZ7.1 (by kernel_rfl) ZV.out SV.out OV.out ?_
      intro w41 hkw41 hsw41 hbw41 how41
      have ex42 : Fx [.blk g7 27 V] w41 := ⟨hkw41.out, trivial⟩
      refine hK.out _ _ (hH.store HZ7.1 hH.store7 hsw41.out hbw41 how41) (fun hw41 => ?_)
      clear hK K
      try simp only [Act.put, List.setIfInBounds_toArray, List.set_cons_zero, List.set_cons_succ]
      refine held_v 3 (some 8) rfl (by kernel_rfl) (by kernel_rfl) (by kernel_rfl) (by kernel_rfl) (fun c a v w h => HQ2.out c a _ v w h) (by kernel_rfl) (.int .i64 1) (fun W h => by kernel_rfl) hw41 ?_
      try simp only [Act.put, List.setIfInBounds_toArray, List.set_cons_zero, List.set_cons_succ]
      refine wpAnyH_done (by kernel_rfl) ?_ _
      refine HQ1.out _ _ ?_
      clear HQ1 HQ2
      go_wp2_with (refine bodyPost_mid 6 7 8 27 rfl g7 rfl (.int .u64 0) (.int .i64 1) rfl rfl 27 V ex42.1 _ Tryd.underlying27 rfl SV.out rfl ?_)
      exact HEND.out _ hw41.rd hw41.bel
  · have hgood : drawB s n a = true := Decidable.of_not_not hbad
    have hE : drawR s n a = drawGo (needN n) n a.toNat s := by unfold drawR; rw [if_pos hgood]
    obtain ⟨hr, hd⟩ : rightS s = true ∧ decide (1 ≤ n ∧ n < 9223372036854775808 ∧ 1 ≤ a ∧ a ≤ 64) = true := by unfold drawB at hgood; rwa [Bool.and_eq_true] at hgood
    obtain ⟨nn0, nn1, aa0, aa1⟩ := of_decide_eq_true hd
    rw [decide_eq_true ⟨nn0, nn1⟩] at HBD
    have h3 : ¬ a < 1 := by omega
    have h4 : ¬ 64 < a := by omega
    have hk64 := needN_le n n0 n1
    have HND := Lib.hid (fun W => q8need_c n n0 n1 W)
    obtain ⟨k, hk⟩ : ∃ k, needN n = k := ⟨_, rfl⟩
    rw [hk] at hE hk64 HND
    rw [hE]
    obtain ⟨a, rfl⟩ := Int.eq_ofNat_of_zero_le (show 0 ≤ a by omega)
    rw [Int.toNat_natCast]
    rw [hr] at HRT
    have HTAKE := Lib.hid (fun (t : Src) (okt : t.Ok) (A : Option Addr) (c : Nat) (h1 : t.tape.length ≤ c) (h2 : c ≤ maxLen) (W : World) (h3 : Rd .u8 W W.heap.size A t.tape.length t.tape) (kk : Kst W) => qstake_c t okt (k : Int) (by omega) (by omega) A c h1 h2 W h3 kk)
    have SV := Lib.hid (sizedS s ok.sl A0 c0)
    have HL0 : Hid (∀ g3 g7 W, DrS w g3 g7 (srcV s A0 c0) A0 s.tape.length s.tape W → Fx [.blk g7 27 Z] W → DrL w g3 g7 s k n a A0 Z 0 W) := Lib.hid (fun g3 g7 W h1 h2 => ⟨s, A0, c0, rfl, ok, rfl, h1, h2, .inl rfl, hc, hcm⟩)
    obtain ⟨V, hV⟩ : ∃ V, srcV s A0 c0 = V := ⟨_, rfl⟩
    rw [hV] at HRT SV HL0
    rw [hV]
    obtain ⟨rr, hrr⟩ : ∃ r, drawGo k n a s = r := ⟨_, rfl⟩
    rw [hrr]
    have HRR := Lib.hid hrr
    clear hZ hV hE hbad hrd hkst hrr hgood hd hr hk a0 a1 aa0 hc hcm
    have aa2 : a ≤ 64 := by omega
    clear aa1
    go_enter Tryd.func8, Tryd.ntmps8
    go_wp2_with (first
      | (with_reducible refine at_any ?_; refine at_dst 3 rfl ?_; refine wpList_box_any rfl 27 (.tmp 0) rfl V rfl ?_; intro w1 hk1 hs1 hb1)
      | (with_reducible refine at_any ?_; refine at_dst 7 rfl ?_; refine wpList_alloc_any rfl 27 rfl Z HZ0.out ?_; intro w2 hk2 hs2 hb2; have k2 := Lib.hid (hk1.out.below hb2 hk1.out.lt))
      | (with_reducible refine at_any ?_; refine at_dst 13 rfl ?_; refine wpList_load_blk rfl 27 (.tmp 3) rfl w.heap.size rfl 27 V k2.out _ Tryd.underlying27 rfl SV.out ?_)
      | (go_at_call 16; (with_reducible refine (HRT.out _).mono ?_); rintro e wz ⟨rfl, hbz⟩)
      | (go_at_call 17; (with_reducible refine (HBD.out _).mono ?_); rintro e _ ⟨rfl, rfl⟩)
      | (go_at_call 11; (with_reducible refine (HND.out _).mono ?_); rintro e _ ⟨rfl, rfl⟩))
    have HS := DrS.mk2 hRd.out hk1.out hb1 hk2.out hb2 hbz
    have HZ : Fx [.blk w1.heap.size 27 Z] wz := ⟨hk2.out.below hbz hk2.out.lt, trivial⟩
    have HL := Lib.hid (HL0.out _ _ _ HS HZ)
    obtain ⟨g3, hg3⟩ : ∃ g, w.heap.size = g := ⟨_, rfl⟩
    obtain ⟨g7, hg7⟩ : ∃ g, w1.heap.size = g := ⟨_, rfl⟩
    rw [hg3, hg7] at HL
    rw [hg3, hg7]
    clear hg3 hg7 hk1 hs1 hb1 hk2 hs2 hb2 k2 hbz HS HZ HL0 HRT SV HBD h3 h4
    go_loopw [33] (fun cc wr => ∃ i : Nat, i ≤ a ∧ cc = .int .i64 i ∧ DrL w g3 g7 s k n a A0 Z i wr) (fun cc _ => a - (intOf cc).toNat)
    case atStart => exact ⟨0, by omega, rfl, HL.out⟩
    case round =>
      clear HL
      obtain ⟨i, hi, rfl, si, A, c, hgo, oki, htp, HS, HZ, hsp, hcl, hcm⟩ := hrel
      have SV := Lib.hid (sizedS si oki.sl A c)
      have OV := Lib.hid (srcV_ones si A c)
      have ZV := Lib.hid (HZSS.out si oki.sl A c)
      have HSP := Lib.hid hsp
      rw [HRR.out] at hgo
      by_cases hlt : i < a
      · have HTK := Lib.hid (fun (W : World) (h3 : RdP A s.tape.length s.tape W) (kk : Kst W) => HTAKE.out si oki A c (by rw [htp]; exact hcl) hcm W (by rw [htp]; exact h3) kk)
        have hst : a - i = a - i - 1 + 1 := by omega
        rw [hst] at hgo
        have hti := takeE_in si k
        have hvi := takeV_in si k
        have htok := takeS_ok oki k
        have http := takeS_tape si k
        rw [htp] at http
        have hgz : takeE si k ≠ 0 → rr = (0, si, takeE si k) := fun h => by rw [hgo, drawGo_err h]
        have hgh : takeE si k = 0 → takeV si k < n → rr = (takeV si k, takeS si k, 0) := fun h h2 => by rw [hgo, drawGo_hit h h2]
        have hgm : takeE si k = 0 → ¬ takeV si k < n → rr = drawGo k n (a - (i + 1)) (takeS si k) := fun h h2 => by rw [hgo, drawGo_miss h h2, show a - i - 1 = a - (i + 1) by omega]
        have hsi : takeE si k ≠ 0 → takeS si k = si := fun h => by unfold takeS; rw [if_neg h]
        unfold RetTake at HTK
        rw [htp] at HTK
        obtain ⟨X, hX⟩ : ∃ X, takeV si k = X := ⟨_, rfl⟩
        obtain ⟨E, hE⟩ : ∃ E, takeE si k = E := ⟨_, rfl⟩
        obtain ⟨t, ht⟩ : ∃ t, takeS si k = t := ⟨_, rfl⟩
        rw [hX, hE, ht] at HTK
        rw [hX] at hvi hgh hgm
        rw [hE] at hti hgz hgh hgm hsi
        rw [ht] at htok http hgh hgm hsi
        have ST := Lib.hid (fun A c => sizedS t htok.sl A c)
        have OT := Lib.hid (fun A c => srcV_ones t A c)
        have ZT := Lib.hid (fun A c => HZSS.out t htok.sl A c)
        obtain ⟨zs, hzs⟩ : ∃ zs, s.tape = zs := ⟨_, rfl⟩
        obtain ⟨L, hL⟩ : ∃ L, zs.length = L := ⟨_, rfl⟩
        have HG1 : Hid (∀ A2 c2 g11 W, DrS w g3 g7 (srcV si A c) A L zs W → Blk W g7 27 Z → Blk W g11 27 (srcV t A2 c2) → RdP A2 L zs W → Apt L A2 g3 → Apt L A2 g7 → Sep w A0 A2 → L ≤ c2 → c2 ≤ maxLen → g3 ≠ g11 → g7 ≠ g11 → True) := Lib.hid (fun _ _ _ _ _ _ _ _ _ _ _ _ _ _ _ => trivial)
        have HEZ : Hid (E ≠ 0 → ∀ w', RdP A L zs w' → Below w.heap.size w w' → RetDraw w s A0 rr (.returned (.tuple #[.int .u64 0, .agg (srcV si A c), .int .i64 E])) w') := Lib.hid (fun h w' hr hb => ⟨A, c, by rw [hgz h], by rw [hzs, hL]; exact hr, hcl, hcm, hsp, hb⟩)
        have HEH : Hid (E = 0 → X < n → ∀ A2 c2 w', Sep w A0 A2 → L ≤ c2 → c2 ≤ maxLen → RdP A2 L zs w' → Below w.heap.size w w' → RetDraw w s A0 rr (.returned (.tuple #[.int .u64 X, .agg (srcV t A2 c2), .int .i64 0])) w') := Lib.hid (fun h h2 A2 c2 w' h3 h4 h5 hr hb => ⟨A2, c2, by rw [hgh h h2], by rw [hzs, hL]; exact hr, by rw [hzs, hL]; exact h4, h5, h3, hb⟩)
        have HEM : Hid (E = 0 → ¬ X < n → ∀ A2 c2 W, DrS w g3 g7 (srcV t A2 c2) A2 L zs W → Fx [.blk g7 27 Z] W → Sep w A0 A2 → L ≤ c2 → c2 ≤ maxLen → DrL w g3 g7 s k n a A0 Z (i + 1) W) := Lib.hid (fun h h2 A2 c2 W h3 h4 h5 h6 h7 => ⟨t, A2, c2, by rw [HRR.out]; exact hgm h h2, htok, by rw [http, hzs], by rw [hzs, hL]; exact h3, h4, h5, by rw [hzs, hL]; exact h6, h7⟩)
        rw [hzs, hL] at HTK
        rw [hzs, hL] at HS hcl
        clear hgo oki htp hsp hst htok http hgz hgh hgm hsi hX hE ht hzs hL HG1
        obtain ⟨V, hV⟩ : ∃ V, srcV si A c = V := ⟨_, rfl⟩
        rw [hV] at SV OV ZV HS HTK HEZ
        clear hV HTAKE HZSS
        by_cases hE0 : E = 0
        · have t1 : (E == 0) = true := by rw [beq_iff_eq]; exact hE0
          have t2 : (E != 0) = false := by rw [bne, t1]; rfl
          by_cases hx : X < n
          · have t0 : True := trivial
            go_wp2_with (first
              | (with_reducible refine at_any ?_; refine at_dst 36 rfl ?_; refine wpList_load_blk rfl 27 (.tmp 3) rfl g3 rfl 27 V HS.blk _ Tryd.underlying27 rfl SV.out ?_)
              | (go_at_call 18; (with_reducible refine (HTK.out _ HS.rd (HKS.out.below HS.bel)).mono ?_); rintro e w5 ⟨A2, c2, rfl, hrd2, hc2, hm2, hsp2, hb5⟩; obtain ⟨V2, hV2⟩ : ∃ V2, srcV t A2 c2 = V2 := ⟨_, rfl⟩; have SV2 := Lib.hid (ST.out A2 c2); have OV2 := Lib.hid (OT.out A2 c2); have ZV2 := Lib.hid (ZT.out A2 c2); have HM2 := Lib.hid (fun h h2 W h3 h4 => HEM.out h h2 A2 c2 W h3 h4 (Sep.trans HSP.out hsp2 HS.bel.size) hc2 hm2); have HH2 := Lib.hid (fun h h2 w' h3 h4 => HEH.out h h2 A2 c2 w' (Sep.trans HSP.out hsp2 HS.bel.size) hc2 hm2 h3 h4); rw [hV2] at SV2 OV2 ZV2 HM2 HH2 ⊢; clear hV2 hc2 hm2)
              | (with_reducible refine at_any ?_; refine at_dst 11 rfl ?_; refine wpList_alloc_any rfl 27 rfl Z HZ0.out ?_; intro w6 hk6 hs6 hb6)
              | (with_reducible refine at_any ?_; refine at_store 11 rfl ?_; refine wpList_store_any rfl 27 (.tmp 11) (.tmp 40) rfl w5.heap.size rfl 27 Z V2 hk6.out rfl ZV2.out SV2.out OV2.out ?_; intro w7 hk7 hs7 hb7 ho7; have T := Lib.hid (HS.took HZ hrd2 hsp2 hb5 hb6 hk6.out hk7.out hs7.out hb7 ho7)))
            obtain ⟨-, HZ, -, -, -, HD⟩ := T.out
            obtain ⟨g11, hg11⟩ : ∃ g, w5.heap.size = g := ⟨_, rfl⟩
            rw [hg11] at HD
            try rw [hg11]
            have HZ7 := HZ.drew
            refine wp_region_held_drew (S := (DrH w g7 g11 V2 A2 L zs)) (by kernel_rfl) HD.drew (fun hH => ?_)
            refine wpAnyH_letter #[false, false, false, false, false] (by kernel_rfl) (fun _ _ d _ _ h => by cases d <;> exact h) (fun QL HQ1 HQ2 => ?_)
            refine held_v 0 (some 49) rfl (by kernel_rfl) (by kernel_rfl) (by kernel_rfl) (by kernel_rfl) (fun c a v w h => HQ2.out c a _ v w h) (by kernel_rfl) (.int .u64 X) (fun W h => by kernel_rfl) hH ?_
            try simp only [Act.put, List.setIfInBounds_toArray, List.set_cons_zero, List.set_cons_succ]
            refine held_row 1 (some 50) rfl (by kernel_rfl) (by kernel_rfl) (by kernel_rfl) (by kernel_rfl) (fun c a v w h => HQ2.out c a _ v w h) (by kernel_rfl) 27 (.tmp 11) rfl g11 (by kernel_rfl) 27 V2 (fun _ h => h.blk) _ Tryd.underlying27 rfl SV2.out hH ?_
            try simp only [Act.put, List.setIfInBounds_toArray, List.set_cons_zero, List.set_cons_succ]
            refine held_v 2 (some 6) rfl (by kernel_rfl) (by kernel_rfl) (by kernel_rfl) (by kernel_rfl) (fun c a v w h => HQ2.out c a _ v w h) (by kernel_rfl) (.int .u64 X) (fun W h => by kernel_rfl) hH ?_
            try simp only [Act.put, List.setIfInBounds_toArray, List.set_cons_zero, List.set_cons_succ]
            refine wpAnyH_ready (rs := [3]) (by kernel_rfl) (by decide) ?_
            refine AllReadyH.cons rfl (fun K hK => ?_) AllReadyH.nil
            refine step_store none (by kernel_rfl) (by kernel_rfl) 27 (.tmp 7) (.tmp 50) rfl g7 (by kernel_rfl) 27 Z V2 HZ7.1 (by kernel_rfl) ZV2.out SV2.out OV2.out ?_
            intro w141 hkw141 hsw141 hbw141 how141
            have ex142 : Fx [.blk g7 27 V2] w141 := ⟨hkw141.out, trivial⟩
            refine hK.out _ _ (hH.store HZ7.1 hH.store7 hsw141.out hbw141 how141) (fun hw141 => ?_)
            clear hK K
            try simp only [Act.put, List.setIfInBounds_toArray, List.set_cons_zero, List.set_cons_succ]
            refine held_v 4 (some 8) rfl (by kernel_rfl) (by kernel_rfl) (by kernel_rfl) (by kernel_rfl) (fun c a v w h => HQ2.out c a _ v w h) (by kernel_rfl) (.int .i64 0) (fun W h => by kernel_rfl) hw141 ?_
            try simp only [Act.put, List.setIfInBounds_toArray, List.set_cons_zero, List.set_cons_succ]
            refine wpAnyH_done (by kernel_rfl) ?_ _
            refine HQ1.out _ _ ?_
            clear HQ1 HQ2
            go_wp2_with (refine bodyPost_mid 6 7 8 27 rfl g7 rfl (.int .u64 X) (.int .i64 0) rfl rfl 27 V2 ex142.1 _ Tryd.underlying27 rfl SV2.out rfl ?_)
            exact HH2.out hE0 hx _ hw141.rd.rd hw141.bel
          · have hx2 : n ≤ X := by omega
            go_wp2_with (first
              | (with_reducible refine at_any ?_; refine at_dst 36 rfl ?_; refine wpList_load_blk rfl 27 (.tmp 3) rfl g3 rfl 27 V HS.blk _ Tryd.underlying27 rfl SV.out ?_)
              | (go_at_call 18; (with_reducible refine (HTK.out _ HS.rd (HKS.out.below HS.bel)).mono ?_); rintro e w5 ⟨A2, c2, rfl, hrd2, hc2, hm2, hsp2, hb5⟩; obtain ⟨V2, hV2⟩ : ∃ V2, srcV t A2 c2 = V2 := ⟨_, rfl⟩; have SV2 := Lib.hid (ST.out A2 c2); have OV2 := Lib.hid (OT.out A2 c2); have ZV2 := Lib.hid (ZT.out A2 c2); have HM2 := Lib.hid (fun h h2 W h3 h4 => HEM.out h h2 A2 c2 W h3 h4 (Sep.trans HSP.out hsp2 HS.bel.size) hc2 hm2); have HH2 := Lib.hid (fun h h2 w' h3 h4 => HEH.out h h2 A2 c2 w' (Sep.trans HSP.out hsp2 HS.bel.size) hc2 hm2 h3 h4); rw [hV2] at SV2 OV2 ZV2 HM2 HH2 ⊢; clear hV2 hc2 hm2)
              | (with_reducible refine at_any ?_; refine at_dst 11 rfl ?_; refine wpList_alloc_any rfl 27 rfl Z HZ0.out ?_; intro w6 hk6 hs6 hb6)
              | (with_reducible refine at_any ?_; refine at_store 11 rfl ?_; refine wpList_store_any rfl 27 (.tmp 11) (.tmp 40) rfl w5.heap.size rfl 27 Z V2 hk6.out rfl ZV2.out SV2.out OV2.out ?_; intro w7 hk7 hs7 hb7 ho7; have T := Lib.hid (HS.took HZ hrd2 hsp2 hb5 hb6 hk6.out hk7.out hs7.out hb7 ho7))
              | (with_reducible refine at_any ?_; refine at_dst 51 rfl ?_; refine wpList_load_blk rfl 27 (.tmp 11) rfl w5.heap.size rfl 27 V2 hk7.out _ Tryd.underlying27 rfl SV2.out ?_)
              | (with_reducible refine at_any ?_; refine at_store 3 rfl ?_; refine wpList_store_any rfl 27 (.tmp 3) (.tmp 51) rfl g3 rfl 27 V V2 T.out.1.blk rfl (ZV.out.symm.trans ZV2.out) SV2.out OV2.out ?_; intro w9 hk9 hs9 hb9 ho9; have HS9 := Lib.hid (T.out.1.put3 T.out.2.2.1 T.out.2.2.2.1 T.out.2.2.2.2.1 hk9.out hs9.out hb9 ho9); have HZ9 := Lib.hid (T.out.2.1.store T.out.1.blk (T.out.1.hof Z) hs9.out hb9 ho9)))
            have HF := Lib.hid (HM2.out hE0 (by first | exact hx2 | exact Int.not_lt.2 hx2) _ HS9.out HZ9.out)
            clear HS9 HZ9 T
            go_roundw
            case rel => exact ⟨i + 1, by omega, by go_num, HF.out⟩
            case measure => simp [intOf]; omega
        · have t1 : (E == 0) = false := by rw [beq_eq_false_iff_ne]; exact hE0
          have t2 : (E != 0) = true := by rw [bne, t1]; rfl
          go_wp2_with (first
            | (with_reducible refine at_any ?_; refine at_dst 36 rfl ?_; refine wpList_load_blk rfl 27 (.tmp 3) rfl g3 rfl 27 V HS.blk _ Tryd.underlying27 rfl SV.out ?_)
            | (go_at_call 18; (with_reducible refine (HTK.out _ HS.rd (HKS.out.below HS.bel)).mono ?_); rintro e w5 ⟨A2, c2, rfl, hrd2, hc2, hm2, hsp2, hb5⟩; obtain ⟨V2, hV2⟩ : ∃ V2, srcV t A2 c2 = V2 := ⟨_, rfl⟩; have SV2 := Lib.hid (ST.out A2 c2); have OV2 := Lib.hid (OT.out A2 c2); have ZV2 := Lib.hid (ZT.out A2 c2); have HM2 := Lib.hid (fun h h2 W h3 h4 => HEM.out h h2 A2 c2 W h3 h4 (Sep.trans HSP.out hsp2 HS.bel.size) hc2 hm2); have HH2 := Lib.hid (fun h h2 w' h3 h4 => HEH.out h h2 A2 c2 w' (Sep.trans HSP.out hsp2 HS.bel.size) hc2 hm2 h3 h4); rw [hV2] at SV2 OV2 ZV2 HM2 HH2 ⊢; clear hV2 hc2 hm2)
            | (with_reducible refine at_any ?_; refine at_dst 11 rfl ?_; refine wpList_alloc_any rfl 27 rfl Z HZ0.out ?_; intro w6 hk6 hs6 hb6)
            | (with_reducible refine at_any ?_; refine at_store 11 rfl ?_; refine wpList_store_any rfl 27 (.tmp 11) (.tmp 40) rfl w5.heap.size rfl 27 Z V2 hk6.out rfl ZV2.out SV2.out OV2.out ?_; intro w7 hk7 hs7 hb7 ho7; have T := Lib.hid (HS.took HZ hrd2 hsp2 hb5 hb6 hk6.out hk7.out hs7.out hb7 ho7)))
          obtain ⟨HS7, HZ, -⟩ := T.out
          have HZ7 := HZ.drew
          refine wp_region_held_drew (S := (DrS w g3 g7 V A L zs)) (by kernel_rfl) HS7.drew (fun hH => ?_)
          refine wpAnyH_letter #[false, false, false, false, false] (by kernel_rfl) (fun _ _ d _ _ h => by cases d <;> exact h) (fun QL HQ1 HQ2 => ?_)
          refine held_row 0 (some 44) rfl (by kernel_rfl) (by kernel_rfl) (by kernel_rfl) (by kernel_rfl) (fun c a v w h => HQ2.out c a _ v w h) (by kernel_rfl) 27 (.tmp 3) rfl g3 (by kernel_rfl) 27 V (fun _ h => h.blk) _ Tryd.underlying27 rfl SV.out hH ?_
          try simp only [Act.put, List.setIfInBounds_toArray, List.set_cons_zero, List.set_cons_succ]
          refine held_v 1 (some 45) rfl (by kernel_rfl) (by kernel_rfl) (by kernel_rfl) (by kernel_rfl) (fun c a v w h => HQ2.out c a _ v w h) (by kernel_rfl) (.int .i64 E) (fun W h => by kernel_rfl) hH ?_
          try simp only [Act.put, List.setIfInBounds_toArray, List.set_cons_zero, List.set_cons_succ]
          refine held_v 2 (some 6) rfl (by kernel_rfl) (by kernel_rfl) (by kernel_rfl) (by kernel_rfl) (fun c a v w h => HQ2.out c a _ v w h) (by kernel_rfl) (.int .u64 0) (fun W h => by kernel_rfl) hH ?_
          try simp only [Act.put, List.setIfInBounds_toArray, List.set_cons_zero, List.set_cons_succ]
          refine wpAnyH_ready (rs := [3]) (by kernel_rfl) (by decide) ?_
          refine AllReadyH.cons rfl (fun K hK => ?_) AllReadyH.nil
          refine step_store none (by kernel_rfl) (by kernel_rfl) 27 (.tmp 7) (.tmp 44) rfl g7 (by kernel_rfl) 27 Z V HZ7.1 (by kernel_rfl) ZV.out SV.out OV.out ?_
          intro w141 hkw141 hsw141 hbw141 how141
          have ex142 : Fx [.blk g7 27 V] w141 := ⟨hkw141.out, trivial⟩
          refine hK.out _ _ (hH.store HZ7.1 hH.store7 hsw141.out hbw141 how141) (fun hw141 => ?_)
          clear hK K
          try simp only [Act.put, List.setIfInBounds_toArray, List.set_cons_zero, List.set_cons_succ]
          refine held_v 4 (some 8) rfl (by kernel_rfl) (by kernel_rfl) (by kernel_rfl) (by kernel_rfl) (fun c a v w h => HQ2.out c a _ v w h) (by kernel_rfl) (.int .i64 E) (fun W h => by kernel_rfl) hw141 ?_
          try simp only [Act.put, List.setIfInBounds_toArray, List.set_cons_zero, List.set_cons_succ]
          refine wpAnyH_done (by kernel_rfl) ?_ _
          refine HQ1.out _ _ ?_
          clear HQ1 HQ2
          go_wp2_with (refine bodyPost_mid 6 7 8 27 rfl g7 rfl (.int .u64 0) (.int .i64 E) rfl rfl 27 V ex142.1 _ Tryd.underlying27 rfl SV.out rfl ?_)
          exact HEZ.out hE0 _ hw141.rd.rd hw141.bel
      · obtain rfl : i = a := by omega
        rw [Nat.sub_self, drawGo_zero] at hgo
        have HEND : Hid (∀ w', RdP A s.tape.length s.tape w' → Below w.heap.size w w' → RetDraw w s A0 rr (.returned (.tuple #[.int .u64 0, .agg (srcV si A c), .int .i64 9])) w') := Lib.hid (fun w' hr hb => ⟨A, c, by rw [hgo], hr, hcl, hcm, hsp, hb⟩)
        obtain ⟨zs, hzs⟩ : ∃ zs, s.tape = zs := ⟨_, rfl⟩
        obtain ⟨L, hL⟩ : ∃ L, zs.length = L := ⟨_, rfl⟩
        rw [hzs, hL] at HEND HS
        obtain ⟨V, hV⟩ : ∃ V, srcV si A c = V := ⟨_, rfl⟩
        rw [hV] at SV OV ZV HEND HS
        clear hgo oki htp hsp hcl hcm hzs hL hV HTAKE HND HZSS
        go_wp2_with fail
        have HZ7 := HZ.drew
        refine wp_region_held_drew (S := (DrS w g3 g7 V A L zs)) (by kernel_rfl) HS.drew (fun hH => ?_)
        refine wpAnyH_letter #[false, false, false, false] (by kernel_rfl) (fun _ _ d _ _ h => by cases d <;> exact h) (fun QL HQ1 HQ2 => ?_)
        refine held_row 0 (some 53) rfl (by kernel_rfl) (by kernel_rfl) (by kernel_rfl) (by kernel_rfl) (fun c a v w h => HQ2.out c a _ v w h) (by kernel_rfl) 27 (.tmp 3) rfl g3 (by kernel_rfl) 27 V (fun _ h => h.blk) _ Tryd.underlying27 rfl SV.out hH ?_
        try simp only [Act.put, List.setIfInBounds_toArray, List.set_cons_zero, List.set_cons_succ]
        refine held_v 1 (some 6) rfl (by kernel_rfl) (by kernel_rfl) (by kernel_rfl) (by kernel_rfl) (fun c a v w h => HQ2.out c a _ v w h) (by kernel_rfl) (.int .u64 0) (fun W h => by kernel_rfl) hH ?_
        try simp only [Act.put, List.setIfInBounds_toArray, List.set_cons_zero, List.set_cons_succ]
        refine wpAnyH_ready (rs := [2]) (by kernel_rfl) (by decide) ?_
        refine AllReadyH.cons rfl (fun K hK => ?_) AllReadyH.nil
        refine step_store none (by kernel_rfl) (by kernel_rfl) 27 (.tmp 7) (.tmp 53) rfl g7 (by kernel_rfl) 27 Z V HZ7.1 (by kernel_rfl) ZV.out SV.out OV.out ?_
        intro w41 hkw41 hsw41 hbw41 how41
        have ex42 : Fx [.blk g7 27 V] w41 := ⟨hkw41.out, trivial⟩
        refine hK.out _ _ (hH.store HZ7.1 hH.store7 hsw41.out hbw41 how41) (fun hw41 => ?_)
        clear hK K
        try simp only [Act.put, List.setIfInBounds_toArray, List.set_cons_zero, List.set_cons_succ]
        refine held_v 3 (some 8) rfl (by kernel_rfl) (by kernel_rfl) (by kernel_rfl) (by kernel_rfl) (fun c a v w h => HQ2.out c a _ v w h) (by kernel_rfl) (.int .i64 9) (fun W h => by kernel_rfl) hw41 ?_
        try simp only [Act.put, List.setIfInBounds_toArray, List.set_cons_zero, List.set_cons_succ]
        refine wpAnyH_done (by kernel_rfl) ?_ _
        refine HQ1.out _ _ ?_
        clear HQ1 HQ2
        go_wp2_with (refine bodyPost_mid 6 7 8 27 rfl g7 rfl (.int .u64 0) (.int .i64 9) rfl rfl 27 V ex42.1 _ Tryd.underlying27 rfl SV.out rfl ?_)
        exact HEND.out _ hw41.rd hw41.bel
end Go.Proofs.YtmeefnhmkffdlaaDoor
/-
  What stage 8's fixed fact returns.
  Conditions: the table of constants holds what the program's text lays.
-/
set_option maxRecDepth 100000
set_option linter.unusedSimpArgs false
namespace Go.Proofs.YtmeefnhmkffdlaaDoor
open Go.ChangeShapes Go.WideShapes Go.ChangeAt Go.RowKit
set_option linter.unusedVariables false
theorem rd_two (w : World) (e : TypeId) (k : IntKind) (x y : Int) : Rd k (w.alloc (.cells #[.int k x, .int k y] e)) (w.heap.size + 1) (some ⟨w.heap.size, 0, none⟩) 2 [x, y] := by
  refine ⟨rfl, fun _ => ⟨w.heap.size, 0, rfl, by omega, fun j hj => ?_⟩⟩
  have : j = 0 ∨ j = 1 := by omega
  rcases this with rfl | rfl
  · rw [(Blk.new w e #[.int k x, .int k y]).cell]; rfl
  · rw [(Blk.new w e #[.int k x, .int k y]).cell]; rfl
theorem tapeOf_ok (zs : List Int) (hl : zs.length ≤ 1000) (hz : ∀ z ∈ zs, 0 ≤ z ∧ z < 256) (b : Int) (b0 : 0 ≤ b) (b1 : b < 18446744073709551616) : (Src.tapeOf zs b).Ok :=
  ⟨(by show (-9223372036854775808 : Int) ≤ 1; omega), (by show (1 : Int) < 9223372036854775808; omega), (by show zs.length ≤ _; omega), hz, b0, b1, rfl, (fun z h => by obtain ⟨_, rfl⟩ := List.mem_replicate.1 h; exact ⟨by omega, by omega⟩), Int.le_refl _, (by show (0 : Int) < 18446744073709551616; omega), Int.le_refl _, (by show (0 : Int) < 18446744073709551616; omega)⟩
set_option maxHeartbeats 8000000 in
theorem alive8_c (w : World) (hkst : Kst w) : Calls Tryd.prog 7 #[] w fun e w' => e = .returned (.bool true) ∧ Below w.heap.size w w' := by
  have ok1 := tapeOf_ok [255, 255] (by simp) (by decide) 9 (by omega) (by omega)
  have ok2 := tapeOf_ok [252, 0] (by simp) (by decide) 9 (by omega) (by omega)
  have okt := ok2.to_ 9 (by omega) (by omega)
  have hT1 : ∀ A W, Rd .u8 W W.heap.size A 2 [255, 255] → Calls Tryd.prog 14 #[.slice A 2 2, .int .u64 9] W (fun e w' => ∃ A' c', e = .returned (.tuple #[.agg (srcV (Src.tapeOf [255, 255] 9) A' c'), .int .i64 0]) ∧ Rd .u8 w' w'.heap.size A' 2 [255, 255] ∧ 2 ≤ c' ∧ c' ≤ maxLen ∧ Below W.heap.size W w') := fun A W h => rstape_c [255, 255] (by simp) 9 (by omega) (by omega) A 2 2 W h (Nat.le_refl _)
  have hT2 : ∀ A W, Rd .u8 W W.heap.size A 2 [252, 0] → Calls Tryd.prog 14 #[.slice A 2 2, .int .u64 9] W (fun e w' => ∃ A' c', e = .returned (.tuple #[.agg (srcV (Src.tapeOf [252, 0] 9) A' c'), .int .i64 0]) ∧ Rd .u8 w' w'.heap.size A' 2 [252, 0] ∧ 2 ≤ c' ∧ c' ≤ maxLen ∧ Below W.heap.size W w') := fun A W h => rstape_c [252, 0] (by simp) 9 (by omega) (by omega) A 2 2 W h (Nat.le_refl _)
  have hk1 : ∀ A c W, 2 ≤ c → c ≤ maxLen → Rd .u8 W W.heap.size A 2 [255, 255] → Kst W → Calls Tryd.prog 8 #[.agg (srcV (Src.tapeOf [255, 255] 9) A c), .int .u64 5, .int .i64 3] W (fun e w' => ∃ A' c', e = .returned (.tuple #[.int .u64 0, .agg (srcV ((Src.tapeOf [255, 255] 9).to 9) A' c'), .int .i64 9]) ∧ Rd .u8 w' w'.heap.size A' 2 [255, 255] ∧ 2 ≤ c' ∧ c' ≤ maxLen ∧ Sep W A A' ∧ Below W.heap.size W w') := fun A c W h1 h2 h3 h4 => by
    have h := q8draw_c (Src.tapeOf [255, 255] 9) ok1 5 (by omega) (by omega) 3 (by omega) (by omega) A c h1 h2 W h3 h4
    unfold RetDraw at h
    rw [show drawR (Src.tapeOf [255, 255] 9) 5 3 = (0, ((Src.tapeOf [255, 255] 9).to 9), 9) by kernel_rfl] at h
    exact h
  have hk2 : ∀ A c W, 2 ≤ c → c ≤ maxLen → Rd .u8 W W.heap.size A 2 [252, 0] → Kst W → Calls Tryd.prog 8 #[.agg (srcV (Src.tapeOf [252, 0] 9) A c), .int .u64 5, .int .i64 3] W (fun e w' => ∃ A' c', e = .returned (.tuple #[.int .u64 0, .agg (srcV ((Src.tapeOf [252, 0] 9).to 9) A' c'), .int .i64 0]) ∧ Rd .u8 w' w'.heap.size A' 2 [252, 0] ∧ 2 ≤ c' ∧ c' ≤ maxLen ∧ Sep W A A' ∧ Below W.heap.size W w') := fun A c W h1 h2 h3 h4 => by
    have h := q8draw_c (Src.tapeOf [252, 0] 9) ok2 5 (by omega) (by omega) 3 (by omega) (by omega) A c h1 h2 W h3 h4
    unfold RetDraw at h
    rw [show drawR (Src.tapeOf [252, 0] 9) 5 3 = (0, ((Src.tapeOf [252, 0] 9).to 9), 0) by kernel_rfl] at h
    exact h
  have hk3 : ∀ A c W, 2 ≤ c → c ≤ maxLen → Rd .u8 W W.heap.size A 2 [252, 0] → Kst W → Calls Tryd.prog 8 #[.agg (srcV (Src.tapeOf [252, 0] 9) A c), .int .u64 5, .int .i64 2] W (fun e w' => ∃ A' c', e = .returned (.tuple #[.int .u64 0, .agg (srcV ((Src.tapeOf [252, 0] 9).to 6) A' c'), .int .i64 9]) ∧ Rd .u8 w' w'.heap.size A' 2 [252, 0] ∧ 2 ≤ c' ∧ c' ≤ maxLen ∧ Sep W A A' ∧ Below W.heap.size W w') := fun A c W h1 h2 h3 h4 => by
    have h := q8draw_c (Src.tapeOf [252, 0] 9) ok2 5 (by omega) (by omega) 2 (by omega) (by omega) A c h1 h2 W h3 h4
    unfold RetDraw at h
    rw [show drawR (Src.tapeOf [252, 0] 9) 5 2 = (0, ((Src.tapeOf [252, 0] 9).to 6), 9) by kernel_rfl] at h
    exact h
  have hk4 : ∀ A c W, 2 ≤ c → c ≤ maxLen → Rd .u8 W W.heap.size A 2 [252, 0] → Kst W → Calls Tryd.prog 8 #[.agg (srcV ((Src.tapeOf [252, 0] 9).to 9) A c), .int .u64 5, .int .i64 1] W (fun e w' => ∃ A' c', e = .returned (.tuple #[.int .u64 0, .agg (srcV ((Src.tapeOf [252, 0] 9).to 9) A' c'), .int .i64 8]) ∧ Rd .u8 w' w'.heap.size A' 2 [252, 0] ∧ 2 ≤ c' ∧ c' ≤ maxLen ∧ Sep W A A' ∧ Below W.heap.size W w') := fun A c W h1 h2 h3 h4 => by
    have h := q8draw_c ((Src.tapeOf [252, 0] 9).to 9) okt 5 (by omega) (by omega) 1 (by omega) (by omega) A c h1 h2 W h3 h4
    unfold RetDraw at h
    rw [show drawR ((Src.tapeOf [252, 0] 9).to 9) 5 1 = (0, ((Src.tapeOf [252, 0] 9).to 9), 8) by kernel_rfl] at h
    exact h
  have hk5 : ∀ A c W, 2 ≤ c → c ≤ maxLen → Rd .u8 W W.heap.size A 2 [255, 255] → Kst W → Calls Tryd.prog 8 #[.agg (srcV (Src.tapeOf [255, 255] 9) A c), .int .u64 1, .int .i64 1] W (fun e w' => ∃ A' c', e = .returned (.tuple #[.int .u64 0, .agg (srcV (Src.tapeOf [255, 255] 9) A' c'), .int .i64 0]) ∧ Rd .u8 w' w'.heap.size A' 2 [255, 255] ∧ 2 ≤ c' ∧ c' ≤ maxLen ∧ Sep W A A' ∧ Below W.heap.size W w') := fun A c W h1 h2 h3 h4 => by
    have h := q8draw_c (Src.tapeOf [255, 255] 9) ok1 1 (by omega) (by omega) 1 (by omega) (by omega) A c h1 h2 W h3 h4
    unfold RetDraw at h
    rw [show drawR (Src.tapeOf [255, 255] 9) 1 1 = (0, (Src.tapeOf [255, 255] 9), 0) by kernel_rfl] at h
    exact h
  have hk6 : ∀ A c W, 2 ≤ c → c ≤ maxLen → Rd .u8 W W.heap.size A 2 [255, 255] → Kst W → Calls Tryd.prog 8 #[.agg (srcV (Src.tapeOf [255, 255] 9) A c), .int .u64 0, .int .i64 1] W (fun e w' => ∃ A' c', e = .returned (.tuple #[.int .u64 0, .agg (srcV (Src.tapeOf [255, 255] 9) A' c'), .int .i64 1]) ∧ Rd .u8 w' w'.heap.size A' 2 [255, 255] ∧ 2 ≤ c' ∧ c' ≤ maxLen ∧ Sep W A A' ∧ Below W.heap.size W w') := fun A c W h1 h2 h3 h4 => by
    have h := q8draw_c (Src.tapeOf [255, 255] 9) ok1 0 (by omega) (by omega) 1 (by omega) (by omega) A c h1 h2 W h3 h4
    unfold RetDraw at h
    rw [show drawR (Src.tapeOf [255, 255] 9) 0 1 = (0, (Src.tapeOf [255, 255] 9), 1) by kernel_rfl] at h
    exact h
  have hn5 := fun W => q8need_c 5 (by omega) (by omega) W
  rw [show needN 5 = 3 by kernel_rfl] at hn5
  have hn1 := fun W => q8need_c 1 (by omega) (by omega) W
  rw [show needN 1 = 0 by kernel_rfl] at hn1
  have hn0 := fun W => q8need_c 0 (by omega) (by omega) W
  rw [show needN 0 = 0 by kernel_rfl] at hn0
  have hn8 := fun W => q8need_c 8 (by omega) (by omega) W
  rw [show needN 8 = 3 by kernel_rfl] at hn8
  have hc1 := fun (W : World) (g : Nat) A c (h : Blk W g 27 (srcV ((Src.tapeOf [255, 255] 9).to 9) A c)) => (h.cell 36).trans (srcV_at ((Src.tapeOf [255, 255] 9).to 9) rfl A c)
  rw [show ((Src.tapeOf [255, 255] 9).to 9).at_ = 9 from rfl] at hc1
  have hc2 := fun (W : World) (g : Nat) A c (h : Blk W g 27 (srcV ((Src.tapeOf [252, 0] 9).to 9) A c)) => (h.cell 36).trans (srcV_at ((Src.tapeOf [252, 0] 9).to 9) rfl A c)
  rw [show ((Src.tapeOf [252, 0] 9).to 9).at_ = 9 from rfl] at hc2
  have hc3 := fun (W : World) (g : Nat) A c (h : Blk W g 27 (srcV ((Src.tapeOf [252, 0] 9).to 6) A c)) => (h.cell 36).trans (srcV_at ((Src.tapeOf [252, 0] 9).to 6) rfl A c)
  rw [show ((Src.tapeOf [252, 0] 9).to 6).at_ = 6 from rfl] at hc3
  have hc4 := fun (W : World) (g : Nat) A c (h : Blk W g 27 (srcV (Src.tapeOf [255, 255] 9) A c)) => (h.cell 36).trans (srcV_at (Src.tapeOf [255, 255] 9) rfl A c)
  rw [show (Src.tapeOf [255, 255] 9).at_ = 0 from rfl] at hc4
  have hl1 : (Src.tapeOf [255, 255] 9).seed.length = 32 := rfl
  have hl2 : (Src.tapeOf [252, 0] 9).seed.length = 32 := rfl
  have hm1 : ((Src.tapeOf [255, 255] 9).to 9).seed.length = 32 := rfl
  have hm2 : ((Src.tapeOf [252, 0] 9).to 9).seed.length = 32 := rfl
  have hm3 : ((Src.tapeOf [252, 0] 9).to 6).seed.length = 32 := rfl
  have HZZ := Lib.hid (fun (s : Src) (h : s.seed.length = 32) (A : Option Addr) (c : Nat) => srcV_same Src.zero s rfl h none A 0 c)
  have HZ0 := Lib.hid zero_src
  obtain ⟨T1, hT1'⟩ : ∃ S, (Src.tapeOf [255, 255] 9).to 9 = S := ⟨_, rfl⟩
  obtain ⟨T2, hT2'⟩ : ∃ S, (Src.tapeOf [252, 0] 9).to 9 = S := ⟨_, rfl⟩
  obtain ⟨T3, hT3'⟩ : ∃ S, (Src.tapeOf [252, 0] 9).to 6 = S := ⟨_, rfl⟩
  rw [hT1'] at hk1 hc1 hm1
  rw [hT2'] at hk2 hk4 hc2 hm2
  rw [hT3'] at hk3 hc3 hm3
  obtain ⟨S1, hS1⟩ : ∃ S, Src.tapeOf [255, 255] 9 = S := ⟨_, rfl⟩
  obtain ⟨S2, hS2⟩ : ∃ S, Src.tapeOf [252, 0] 9 = S := ⟨_, rfl⟩
  rw [hS1] at hT1 hk1 hk5 hk6 hc4 hl1
  rw [hS2] at hT2 hk2 hk3 hl2
  obtain ⟨Z, hZ⟩ : ∃ Z, srcV Src.zero none 0 = Z := ⟨_, rfl⟩
  rw [hZ] at HZ0 HZZ
  have HLS1 := Lib.hid hl1
  have HLS2 := Lib.hid hl2
  have HLT1 := Lib.hid hm1
  have HLT2 := Lib.hid hm2
  have HLT3 := Lib.hid hm3
  have HT1 := Lib.hid hT1
  have HT2 := Lib.hid hT2
  have HK1 := Lib.hid hk1
  have HK2 := Lib.hid hk2
  have HK3 := Lib.hid hk3
  have HK4 := Lib.hid hk4
  have HK5 := Lib.hid hk5
  have HK6 := Lib.hid hk6
  have HN5 := Lib.hid hn5
  have HN1 := Lib.hid hn1
  have HN0 := Lib.hid hn0
  have HN8 := Lib.hid hn8
  have HC1 := Lib.hid hc1
  have HC2 := Lib.hid hc2
  have HC3 := Lib.hid hc3
  have HC4 := Lib.hid hc4
  have HKS := Lib.hid hkst
  have G0 := Lib.hid (Fx.bel0 w)
  clear ok1 ok2 okt hT1 hT2 hk1 hk2 hk3 hk4 hk5 hk6 hn5 hn1 hn0 hn8 hc1 hc2 hc3 hc4 hl1 hl2 hm1 hm2 hm3 hT1' hT2' hT3' hS1 hS2 hZ hkst
  go_enter Tryd.func7, Tryd.ntmps7
  go_wp2_with (first
    | (go_at_call 14; (with_reducible refine (HT1.out _ _ (Rd.fit (rd_two _ _ _ _ _))).mono ?_); rintro e w1 ⟨A1, c1, rfl, hrw1, hlw1, hmw1, hbw1⟩; have lc1 := Lib.hid hlw1; have mc1 := Lib.hid hmw1; have G2 := Lib.hid (Fx.addR (Fx.alloc G0.out _) hbw1 hrw1); clear G0; clear hrw1 hbw1 hlw1 hmw1)
    | (with_reducible refine at_any ?_; refine at_dst 1 rfl ?_; refine wpList_alloc_any rfl 27 rfl Z HZ0.out ?_; intro w3 hkw3 hsw3 hbw3; have U4 := Lib.hid (Fx.under_new G2.out rfl); have G5 := Lib.hid (Fx.newB G2.out hkw3.out hbw3); clear G2; clear hkw3 hsw3 hbw3)
    | (with_reducible refine at_any ?_; refine at_store 1 rfl ?_; refine wpList_store_any rfl 27 (.tmp 1) (.tmp 26) rfl w1.heap.size rfl 27 Z (srcV S1 A1 c1) (Fx.b0 G5.out) rfl (HZZ.out S1 HLS1.out _ _) (sizedS S1 HLS1.out _ _) (srcV_ones _ _ _) ?_; intro w6 hkw6 hsw6 hbw6 how6; have G7 := Lib.hid (Fx.put1B G5.out U4.out hkw6.out hsw6.out hbw6 how6); clear G5; clear hkw6 hsw6 hbw6 how6)
    | (with_reducible refine at_any ?_; refine at_dst 29 rfl ?_; refine wpList_load_blk rfl 27 (.tmp 1) rfl w1.heap.size rfl 27 (srcV S1 A1 c1) (Fx.b0 G7.out) _ Tryd.underlying27 rfl (sizedS S1 HLS1.out _ _) ?_)
    | (go_at_call 8; (with_reducible refine (HK1.out A1 c1 _ lc1.out mc1.out (Fx.r1 G7.out) (HKS.out.below (Fx.e2 G7.out))).mono ?_); rintro e w8 ⟨A9, c10, rfl, hrw8, hlw8, hmw8, _, hbw8⟩; have lc10 := Lib.hid hlw8; have mc10 := Lib.hid hmw8; have G11 := Lib.hid (Fx.addR G7.out hbw8 hrw8); clear G7; clear hrw8 hbw8 hlw8 hmw8)
    | (with_reducible refine at_any ?_; refine at_dst 4 rfl ?_; refine wpList_alloc_any rfl 27 rfl Z HZ0.out ?_; intro w12 hkw12 hsw12 hbw12; have U13 := Lib.hid (Fx.under_new G11.out rfl); have G14 := Lib.hid (Fx.newB G11.out hkw12.out hbw12); clear G11; clear hkw12 hsw12 hbw12)
    | (with_reducible refine at_any ?_; refine at_store 4 rfl ?_; refine wpList_store_any rfl 27 (.tmp 4) (.tmp 32) rfl w8.heap.size rfl 27 Z (srcV T1 A9 c10) (Fx.b0 G14.out) rfl (HZZ.out T1 HLT1.out _ _) (sizedS T1 HLT1.out _ _) (srcV_ones _ _ _) ?_; intro w15 hkw15 hsw15 hbw15 how15; have G16 := Lib.hid (Fx.put1B G14.out U13.out hkw15.out hsw15.out hbw15 how15); clear G14; clear hkw15 hsw15 hbw15 how15)
    | (go_at_call 14; (with_reducible refine (HT2.out _ _ (Rd.fit (rd_two _ _ _ _ _))).mono ?_); rintro e w17 ⟨A3, c3, rfl, hrw17, hlw17, hmw17, hbw17⟩; have lc3 := Lib.hid hlw17; have mc3 := Lib.hid hmw17; have G18 := Lib.hid (Fx.addR (Fx.alloc G16.out _) hbw17 hrw17); clear G16; clear hrw17 hbw17 hlw17 hmw17)
    | (with_reducible refine at_any ?_; refine at_dst 6 rfl ?_; refine wpList_alloc_any rfl 27 rfl Z HZ0.out ?_; intro w19 hkw19 hsw19 hbw19; have U20 := Lib.hid (Fx.under_new G18.out rfl); have G21 := Lib.hid (Fx.newB G18.out hkw19.out hbw19); clear G18; clear hkw19 hsw19 hbw19)
    | (with_reducible refine at_any ?_; refine at_store 6 rfl ?_; refine wpList_store_any rfl 27 (.tmp 6) (.tmp 37) rfl w17.heap.size rfl 27 Z (srcV S2 A3 c3) (Fx.b0 G21.out) rfl (HZZ.out S2 HLS2.out _ _) (sizedS S2 HLS2.out _ _) (srcV_ones _ _ _) ?_; intro w22 hkw22 hsw22 hbw22 how22; have G23 := Lib.hid (Fx.put1B G21.out U20.out hkw22.out hsw22.out hbw22 how22); clear G21; clear hkw22 hsw22 hbw22 how22)
    | (with_reducible refine at_any ?_; refine at_dst 40 rfl ?_; refine wpList_load_blk rfl 27 (.tmp 6) rfl w17.heap.size rfl 27 (srcV S2 A3 c3) (Fx.b0 G23.out) _ Tryd.underlying27 rfl (sizedS S2 HLS2.out _ _) ?_)
    | (go_at_call 8; (with_reducible refine (HK2.out A3 c3 _ lc3.out mc3.out (Fx.r1 G23.out) (HKS.out.below (Fx.e6 G23.out))).mono ?_); rintro e w24 ⟨A25, c26, rfl, hrw24, hlw24, hmw24, _, hbw24⟩; have lc26 := Lib.hid hlw24; have mc26 := Lib.hid hmw24; have G27 := Lib.hid (Fx.addR G23.out hbw24 hrw24); clear G23; clear hrw24 hbw24 hlw24 hmw24)
    | (with_reducible refine at_any ?_; refine at_dst 9 rfl ?_; refine wpList_alloc_any rfl 27 rfl Z HZ0.out ?_; intro w28 hkw28 hsw28 hbw28; have U29 := Lib.hid (Fx.under_new G27.out rfl); have G30 := Lib.hid (Fx.newB G27.out hkw28.out hbw28); clear G27; clear hkw28 hsw28 hbw28)
    | (with_reducible refine at_any ?_; refine at_store 9 rfl ?_; refine wpList_store_any rfl 27 (.tmp 9) (.tmp 43) rfl w24.heap.size rfl 27 Z (srcV T2 A25 c26) (Fx.b0 G30.out) rfl (HZZ.out T2 HLT2.out _ _) (sizedS T2 HLT2.out _ _) (srcV_ones _ _ _) ?_; intro w31 hkw31 hsw31 hbw31 how31; have G32 := Lib.hid (Fx.put1B G30.out U29.out hkw31.out hsw31.out hbw31 how31); clear G30; clear hkw31 hsw31 hbw31 how31)
    | (with_reducible refine at_any ?_; refine at_dst 46 rfl ?_; refine wpList_load_blk rfl 27 (.tmp 6) rfl w17.heap.size rfl 27 (srcV S2 A3 c3) (Fx.b2 G32.out) _ Tryd.underlying27 rfl (sizedS S2 HLS2.out _ _) ?_)
    | (go_at_call 8; (with_reducible refine (HK3.out A3 c3 _ lc3.out mc3.out (Fx.r3 G32.out) (HKS.out.below (Fx.e8 G32.out))).mono ?_); rintro e w33 ⟨A34, c35, rfl, hrw33, hlw33, hmw33, _, hbw33⟩; have lc35 := Lib.hid hlw33; have mc35 := Lib.hid hmw33; have G36 := Lib.hid (Fx.addR G32.out hbw33 hrw33); clear G32; clear hrw33 hbw33 hlw33 hmw33)
    | (with_reducible refine at_any ?_; refine at_dst 12 rfl ?_; refine wpList_alloc_any rfl 27 rfl Z HZ0.out ?_; intro w37 hkw37 hsw37 hbw37; have U38 := Lib.hid (Fx.under_new G36.out rfl); have G39 := Lib.hid (Fx.newB G36.out hkw37.out hbw37); clear G36; clear hkw37 hsw37 hbw37)
    | (with_reducible refine at_any ?_; refine at_store 12 rfl ?_; refine wpList_store_any rfl 27 (.tmp 12) (.tmp 49) rfl w33.heap.size rfl 27 Z (srcV T3 A34 c35) (Fx.b0 G39.out) rfl (HZZ.out T3 HLT3.out _ _) (sizedS T3 HLT3.out _ _) (srcV_ones _ _ _) ?_; intro w40 hkw40 hsw40 hbw40 how40; have G41 := Lib.hid (Fx.put1B G39.out U38.out hkw40.out hsw40.out hbw40 how40); clear G39; clear hkw40 hsw40 hbw40 how40)
    | (with_reducible refine at_any ?_; refine at_dst 52 rfl ?_; refine wpList_load_blk rfl 27 (.tmp 9) rfl w24.heap.size rfl 27 (srcV T2 A25 c26) (Fx.b2 G41.out) _ Tryd.underlying27 rfl (sizedS T2 HLT2.out _ _) ?_)
    | (go_at_call 8; (with_reducible refine (HK4.out A25 c26 _ lc26.out mc26.out (Fx.r3 G41.out) (HKS.out.below (Fx.e10 G41.out))).mono ?_); rintro e w42 ⟨A43, c44, rfl, hrw42, hlw42, hmw42, _, hbw42⟩; have lc44 := Lib.hid hlw42; have mc44 := Lib.hid hmw42; have G45 := Lib.hid (Fx.addR G41.out hbw42 hrw42); clear G41; clear hrw42 hbw42 hlw42 hmw42)
    | (with_reducible refine at_any ?_; refine at_dst 15 rfl ?_; refine wpList_alloc_any rfl 27 rfl Z HZ0.out ?_; intro w46 hkw46 hsw46 hbw46; have U47 := Lib.hid (Fx.under_new G45.out rfl); have G48 := Lib.hid (Fx.newB G45.out hkw46.out hbw46); clear G45; clear hkw46 hsw46 hbw46)
    | (with_reducible refine at_any ?_; refine at_store 15 rfl ?_; refine wpList_store_any rfl 27 (.tmp 15) (.tmp 55) rfl w42.heap.size rfl 27 Z (srcV T2 A43 c44) (Fx.b0 G48.out) rfl (HZZ.out T2 HLT2.out _ _) (sizedS T2 HLT2.out _ _) (srcV_ones _ _ _) ?_; intro w49 hkw49 hsw49 hbw49 how49; have G50 := Lib.hid (Fx.put1B G48.out U47.out hkw49.out hsw49.out hbw49 how49); clear G48; clear hkw49 hsw49 hbw49 how49)
    | (with_reducible refine at_any ?_; refine at_dst 58 rfl ?_; refine wpList_load_blk rfl 27 (.tmp 1) rfl w1.heap.size rfl 27 (srcV S1 A1 c1) (Fx.b10 G50.out) _ Tryd.underlying27 rfl (sizedS S1 HLS1.out _ _) ?_)
    | (go_at_call 8; (with_reducible refine (HK5.out A1 c1 _ lc1.out mc1.out (Fx.r11 G50.out) (HKS.out.below (Fx.e12 G50.out))).mono ?_); rintro e w51 ⟨A52, c53, rfl, hrw51, hlw51, hmw51, _, hbw51⟩; have lc53 := Lib.hid hlw51; have mc53 := Lib.hid hmw51; have G54 := Lib.hid (Fx.addR G50.out hbw51 hrw51); clear G50; clear hrw51 hbw51 hlw51 hmw51)
    | (with_reducible refine at_any ?_; refine at_dst 18 rfl ?_; refine wpList_alloc_any rfl 27 rfl Z HZ0.out ?_; intro w55 hkw55 hsw55 hbw55; have U56 := Lib.hid (Fx.under_new G54.out rfl); have G57 := Lib.hid (Fx.newB G54.out hkw55.out hbw55); clear G54; clear hkw55 hsw55 hbw55)
    | (with_reducible refine at_any ?_; refine at_store 18 rfl ?_; refine wpList_store_any rfl 27 (.tmp 18) (.tmp 61) rfl w51.heap.size rfl 27 Z (srcV S1 A52 c53) (Fx.b0 G57.out) rfl (HZZ.out S1 HLS1.out _ _) (sizedS S1 HLS1.out _ _) (srcV_ones _ _ _) ?_; intro w58 hkw58 hsw58 hbw58 how58; have G59 := Lib.hid (Fx.put1B G57.out U56.out hkw58.out hsw58.out hbw58 how58); clear G57; clear hkw58 hsw58 hbw58 how58)
    | (with_reducible refine at_any ?_; refine at_dst 64 rfl ?_; refine wpList_load_blk rfl 27 (.tmp 1) rfl w1.heap.size rfl 27 (srcV S1 A1 c1) (Fx.b12 G59.out) _ Tryd.underlying27 rfl (sizedS S1 HLS1.out _ _) ?_)
    | (go_at_call 8; (with_reducible refine (HK6.out A1 c1 _ lc1.out mc1.out (Fx.r13 G59.out) (HKS.out.below (Fx.e14 G59.out))).mono ?_); rintro e w60 ⟨A61, c62, rfl, hrw60, hlw60, hmw60, _, hbw60⟩; have lc62 := Lib.hid hlw60; have mc62 := Lib.hid hmw60; have G63 := Lib.hid (Fx.addR G59.out hbw60 hrw60); clear G59; clear hrw60 hbw60 hlw60 hmw60)
    | (with_reducible refine at_any ?_; refine at_dst 21 rfl ?_; refine wpList_alloc_any rfl 27 rfl Z HZ0.out ?_; intro w64 hkw64 hsw64 hbw64; have U65 := Lib.hid (Fx.under_new G63.out rfl); have G66 := Lib.hid (Fx.newB G63.out hkw64.out hbw64); clear G63; clear hkw64 hsw64 hbw64)
    | (with_reducible refine at_any ?_; refine at_store 21 rfl ?_; refine wpList_store_any rfl 27 (.tmp 21) (.tmp 67) rfl w60.heap.size rfl 27 Z (srcV S1 A61 c62) (Fx.b0 G66.out) rfl (HZZ.out S1 HLS1.out _ _) (sizedS S1 HLS1.out _ _) (srcV_ones _ _ _) ?_; intro w67 hkw67 hsw67 hbw67 how67; have G68 := Lib.hid (Fx.put1B G66.out U65.out hkw67.out hsw67.out hbw67 how67); clear G66; clear hkw67 hsw67 hbw67 how67; have z4 := HC1.out _ _ A9 c10 (Fx.b12 G68.out); have z9 := HC2.out _ _ A25 c26 (Fx.b8 G68.out); have z12 := HC3.out _ _ A34 c35 (Fx.b6 G68.out); have z18 := HC4.out _ _ A52 c53 (Fx.b2 G68.out))
    | (go_at_call 11; (with_reducible refine (HN5.out _).mono ?_); rintro e _ ⟨rfl, rfl⟩)
    | (go_at_call 11; (with_reducible refine (HN1.out _).mono ?_); rintro e _ ⟨rfl, rfl⟩)
    | (go_at_call 11; (with_reducible refine (HN0.out _).mono ?_); rintro e _ ⟨rfl, rfl⟩)
    | (go_at_call 11; (with_reducible refine (HN8.out _).mono ?_); rintro e _ ⟨rfl, rfl⟩))
  go_ret
  exact ⟨rfl, (Fx.e16 G68.out)⟩
end Go.Proofs.YtmeefnhmkffdlaaDoor
/-
  A law's argument that is a slice of integers, opened.
  Conditions: the element's type is an integer type of one cell.
-/
set_option maxRecDepth 100000
namespace Go.Proofs.YtmeefnhmkffdlaaDoor
open Go.ChangeShapes Go.WideShapes Go.ChangeAt Go.RowKit
theorem open_rd {H : Type} {enc : TypeId × Value → H} {P : Program} {w : World} {base : Nat} {spare : Nat → Bool} {held : Bool} {t e : TypeId} {k : IntKind} {a : Option Addr} {len cap : Nat} {d : DataW H} {p : List MemPlace}
    (ht : P.underlying t = some (.slice e)) (he : P.underlying e = some (.int k)) (hc : P.cellsOf e = 1) (h : DataW.Trod enc P w base spare held t (.slice a len cap) d p) :
    ∃ zs : List Int, Rd k w w.heap.size a len zs ∧ len ≤ cap ∧ cap ≤ maxLen ∧ ∀ z ∈ zs, (Lit.int k z).wf = true := by
  obtain ⟨fuel, hf⟩ := h
  rcases open_ints ht he hc hf with ⟨hcs, _⟩ | ⟨x, l, c, zs, hcs, _, hl, hm, hz, _, hcell, hwz⟩
  · simp [Value.cells] at hcs
    obtain ⟨rfl, rfl, rfl⟩ := hcs
    exact ⟨[], Rd.none_, Nat.le_refl _, by simp [maxLen], fun _ h => by cases h⟩
  · simp [Value.cells] at hcs
    obtain ⟨rfl, rfl, rfl⟩ := hcs
    refine ⟨zs.take len, ⟨?_, fun hn => ?_⟩, hl, hm, fun z hz' => hwz z (List.mem_of_mem_take hz')⟩
    · have : len ≤ zs.length := by rw [hz]; split <;> omega
      rw [List.length_take]; omega
    · have hlen : len ≤ zs.length := by rw [hz]; split <;> omega
      obtain ⟨b, off, spot⟩ := x
      have h0 := hcell 0 (by omega)
      have hspot : spot = none := by simpa [Addr.add] using World.cell?_spot h0
      subst hspot
      have h1 : w.cell? ⟨b, off, none⟩ = some (.int k (zs.getD 0 0)) := by simpa [Addr.add] using h0
      refine ⟨b, off, rfl, World.block_lt_of_cell? w _ h1, fun j hj => ?_⟩
      have h2 := hcell j (by omega)
      rw [add_flat] at h2
      rw [h2]
      congr 2
      simp only [List.getD_eq_getElem?_getD, List.getElem?_take]
      rw [if_pos hj]
end Go.Proofs.YtmeefnhmkffdlaaDoor
/-
  A law's arguments, opened: a slice of slices of bytes; the cells of an array.
  Conditions: those that each theorem names.
-/
set_option maxRecDepth 100000
set_option linter.unusedVariables false
set_option linter.unusedSimpArgs false
namespace Go.Proofs.YtmeefnhmkffdlaaDoor
open Go.ChangeShapes Go.WideShapes Go.ChangeAt Go.RowKit
theorem rd_of_cells {k : IntKind} {w : World} {A : Option Addr} {L C : Nat} {Z : List Int} (hl : L ≤ C) (hz : Z.length = C) (h0 : A = none → C = 0) (hc : ∀ a', A = some a' → ∀ c, c < C → w.cell? (a'.add c) = some (.int k (Z.getD c 0))) : Rd k w w.heap.size A L (Z.take L) := by
  refine ⟨by rw [List.length_take]; omega, fun hn => ?_⟩
  rcases A with _ | ⟨b, off, spot⟩
  · have := h0 rfl; omega
  · have h1 := hc _ rfl 0 (by omega)
    have hspot : spot = none := by simpa [Addr.add] using World.cell?_spot h1
    subst hspot
    have h2 : w.cell? ⟨b, off, none⟩ = some (.int k (Z.getD 0 0)) := by simpa [Addr.add] using h1
    refine ⟨b, off, rfl, World.block_lt_of_cell? w _ h2, fun j hj => ?_⟩
    have h3 := hc _ rfl j (by omega)
    rw [add_flat] at h3
    rw [h3]
    congr 2
    simp only [List.getD_eq_getElem?_getD, List.getElem?_take]
    rw [if_pos hj]
theorem open_rows {H : Type} {enc : TypeId × Value → H} {P : Program} {w : World} {base : Nat} {held : Bool} {t e q : TypeId} {a : Option Addr} {len cap : Nat} {d : DataW H} {p : List MemPlace}
    (ht : P.underlying t = some (.slice e)) (he : P.underlying e = some (.slice q)) (hq : P.underlying q = some (.int .u8)) (ce : P.cellsOf e = 1) (cq : P.cellsOf q = 1) (h : DataW.Trod enc P w base (fun _ => true) held t (.slice a len cap) d p) :
    ∃ rs : List Row, RdRows w w.heap.size a len rs ∧ len ≤ cap ∧ cap ≤ maxLen ∧ ∀ r ∈ rs, r.n ≤ maxLen ∧ r.zs.length = r.n ∧ ∀ z ∈ r.zs, (Lit.int .u8 z).wf = true := by
  obtain ⟨fuel, hf⟩ := h
  rcases Go.Deep.open_int_rows ht he hq ce cq hf with ⟨hcs, _⟩ | ⟨x, l, c, A, L, C, Z, hcs, _, hl, hm, _, hr⟩
  · simp [Value.cells] at hcs
    obtain ⟨rfl, rfl, rfl⟩ := hcs
    exact ⟨[], ⟨rfl, fun h => absurd h (by omega), fun _ h => by cases h⟩, Nat.le_refl _, by simp [maxLen], fun _ h => by cases h⟩
  · simp [Value.cells] at hcs
    obtain ⟨rfl, rfl, rfl⟩ := hcs
    have hrd : ∀ r, r < len → Rd .u8 w w.heap.size (A r) (L r) ((Z r).take (L r)) := fun r h => by
      obtain ⟨_, h1, _, h3, _, h5, h6⟩ := hr r (by omega)
      exact rd_of_cells h1 h3 h5 (fun a' e' => (h6 a' e').2)
    refine ⟨(List.range len).map fun r => ⟨A r, L r, C r, (Z r).take (L r)⟩, ⟨by simp, fun hn => ?_, fun r hr' => ?_⟩, hl, hm, fun r hr' => ?_⟩
    · obtain ⟨b, off, spot⟩ := x
      have h0 := (hr 0 (by omega)).1
      have hspot : spot = none := by simpa [Addr.add] using World.cell?_spot h0
      subst hspot
      have h1 : w.cell? ⟨b, off, none⟩ = some (.slice (A 0) (L 0) (C 0)) := by simpa [Addr.add] using h0
      refine ⟨b, off, rfl, World.block_lt_of_cell? w _ h1, fun j r hj => ?_⟩
      rw [List.getElem?_map] at hj
      have hjl : j < len := by
        rcases Nat.lt_or_ge j len with h2 | h2
        · exact h2
        · rw [List.getElem?_eq_none (by simpa using h2)] at hj; cases hj
      rw [List.getElem?_range hjl] at hj
      injection hj with hj
      subst hj
      have h2 := (hr j (by omega)).1
      rw [add_flat] at h2
      exact h2
    · obtain ⟨i, hi, rfl⟩ := List.mem_map.1 hr'
      have hi' := List.mem_range.1 hi
      exact ⟨hrd i hi', (hr i (by omega)).2.1⟩
    · obtain ⟨i, hi, rfl⟩ := List.mem_map.1 hr'
      have hi' := List.mem_range.1 hi
      obtain ⟨_, h1, h2, h3, h4, _⟩ := hr i (by omega)
      exact ⟨by dsimp only; omega, (hrd i hi').1, fun z hz => h4 z (List.mem_of_mem_take hz)⟩
section
variable {H : Type} {enc : TypeId × Value → H} {P : Program} {w : World} {base : Nat} {spare : Nat → Bool} {held : Bool}
/-- The cells of an array of integers. -/
theorem trod_ints {fuel n : Nat} {t e : TypeId} {q : IntKind} {cs : List Value} {x : DataW H × List MemPlace} (ht : P.underlying t = some (.array n e)) (he : P.underlying e = some (.int q)) (hc : P.cellsOf e = 1) (hC : P.cellsOf t = n)
    (hf : DataW.trod enc P w base spare held fuel t cs = some x) : ∃ zs : List Int, zs.length = n ∧ cs = zs.map (Value.int q) ∧ ∀ z ∈ zs, (Lit.int q z).wf = true := by
  obtain ⟨xs, m, _, hx, hl, hxl, hat⟩ := DataW.trod_array ht hf
  rw [hC] at hl
  rw [hc] at hat
  have hz : ∀ i (hi : i < n), ∃ z : Int, cs[i]? = some (.int q z) ∧ (Lit.int q z).wf = true := by
    intro i hi
    have h1 := hat i hi
    have e1 : List.take 1 (List.drop (i * 1) cs) = [cs[i]'(by omega)] := by
      rw [Nat.mul_one, List.drop_eq_getElem_cons (show i < cs.length by omega), List.take_succ_cons, List.take_zero]
    rw [e1] at h1
    have hxi : xs[i]? = some (xs[i]'(by omega)) := List.getElem?_eq_getElem (by omega)
    rw [hxi] at h1
    obtain ⟨a, ea, _, wa⟩ := DataW.trod_int he h1
    refine ⟨a, ?_, wa⟩
    rw [List.getElem?_eq_getElem (by omega)]
    simpa using ea
  obtain ⟨zs, hzl, hzs⟩ := list_of n hz
  refine ⟨zs, hzl, ?_, ?_⟩
  · apply List.ext_getElem?
    intro i
    by_cases hi : i < n
    · obtain ⟨z, e1, e2, _⟩ := hzs i hi
      rw [e2, List.getElem?_map, e1]
      rfl
    · rw [List.getElem?_eq_none (by omega), List.getElem?_eq_none (by simp; omega)]
  · intro z hz'
    obtain ⟨i, hi, e⟩ := List.mem_iff_getElem.1 hz'
    obtain ⟨z', e1, _, e4⟩ := hzs i (by omega)
    rw [List.getElem?_eq_getElem hi, e] at e1
    injection e1 with e1
    rw [e1]
    exact e4
end
end Go.Proofs.YtmeefnhmkffdlaaDoor
/-
  A law's argument that is a source, opened.
  Conditions: those that the theorem names.
-/
set_option maxRecDepth 100000
set_option linter.unusedVariables false
set_option linter.unusedSimpArgs false
namespace Go.Proofs.YtmeefnhmkffdlaaDoor
open Go.ChangeShapes Go.WideShapes Go.ChangeAt Go.RowKit
theorem Src.ok_mk {kd bt dm at_ : Int} {zs sd : List Int} (k0 : -9223372036854775808 ≤ kd) (k1 : kd < 9223372036854775808) (ti : ∀ z ∈ zs, 0 ≤ z ∧ z < 256) (b0 : 0 ≤ bt) (b1 : bt < 18446744073709551616) (sl : sd.length = 32) (si : ∀ z ∈ sd, 0 ≤ z ∧ z < 256) (d0 : 0 ≤ dm) (d1 : dm < 18446744073709551616) (a0 : 0 ≤ at_) (a1 : at_ < 18446744073709551616) :
    (⟨kd, zs, bt, sd, dm, at_⟩ : Src).tape.length ≤ 140737488355328 → (⟨kd, zs, bt, sd, dm, at_⟩ : Src).Ok := fun tl => ⟨k0, k1, tl, ti, b0, b1, sl, si, d0, d1, a0, a1⟩
set_option maxHeartbeats 1000000 in
theorem open_src {H : Type} {enc : TypeId × Value → H} {w : World} {base b0 : Nat} {spare : Nat → Bool} {held : Bool} {r : Reach} {v : Value} {d : DataW H} {p : List MemPlace}
    (hv : Value.okWide Tryd.prog w r b0 27 v) (h : DataW.Trod enc Tryd.prog w base spare held 27 v d p) :
    ∃ (s : Src) (A : Option Addr) (c : Nat), v = .agg (srcV s A c) ∧ (s.tape.length ≤ 140737488355328 → s.Ok) ∧ Rd .u8 w w.heap.size A s.tape.length s.tape ∧ s.tape.length ≤ c ∧ c ≤ maxLen ∧ s.seed.length = 32 := by
  have hv' : ∃ cs : Array Value, v = .agg cs := by
    simp only [Value.okWide, Tryd.underlying27] at hv
    obtain ⟨cs, h1, _⟩ := hv
    exact ⟨cs, h1⟩
  obtain ⟨cs, rfl⟩ := hv'
  obtain ⟨fuel, hf⟩ := h
  obtain ⟨xs, m, _, _, hl, hxl, hat⟩ := DataW.trod_struct Tryd.underlying27 hf
  have hC : Tryd.prog.cellsOf 27 = 37 := by kernel_rfl
  rw [hC] at hl
  obtain ⟨ls, hls⟩ : ∃ ls, (Value.cells (.agg cs)).toList = ls := ⟨_, rfl⟩
  have hcs : cs = ls.toArray := by rw [← hls]; rfl
  rw [hls] at hl hat
  have ci : Tryd.prog.cellsOf 3 = 1 := by kernel_rfl
  have cl : Tryd.prog.cellsOf 22 = 1 := by kernel_rfl
  have cu : Tryd.prog.cellsOf 23 = 1 := by kernel_rfl
  have ch : Tryd.prog.cellsOf 25 = 32 := by kernel_rfl
  have g0 := hat 0 _ rfl
  have g1 := hat 1 _ rfl
  have g2 := hat 2 _ rfl
  have g3 := hat 3 _ rfl
  have g4 := hat 4 _ rfl
  have g5 := hat 5 _ rfl
  change DataW.trod enc Tryd.prog w base spare held m 3 (List.take (Tryd.prog.cellsOf 3) (List.drop 0 ls)) = xs[0]? at g0
  change DataW.trod enc Tryd.prog w base spare held m 22 (List.take (Tryd.prog.cellsOf 22) (List.drop 1 ls)) = xs[1]? at g1
  change DataW.trod enc Tryd.prog w base spare held m 23 (List.take (Tryd.prog.cellsOf 23) (List.drop 2 ls)) = xs[2]? at g2
  change DataW.trod enc Tryd.prog w base spare held m 25 (List.take (Tryd.prog.cellsOf 25) (List.drop 3 ls)) = xs[3]? at g3
  change DataW.trod enc Tryd.prog w base spare held m 23 (List.take (Tryd.prog.cellsOf 23) (List.drop 35 ls)) = xs[4]? at g4
  change DataW.trod enc Tryd.prog w base spare held m 23 (List.take (Tryd.prog.cellsOf 23) (List.drop 36 ls)) = xs[5]? at g5
  have hx6 : xs.length = 6 := hxl
  rw [ci, List.drop_zero, List.getElem?_eq_getElem (show 0 < xs.length by omega)] at g0
  rw [cl, List.getElem?_eq_getElem (show 1 < xs.length by omega)] at g1
  rw [cu, List.getElem?_eq_getElem (show 2 < xs.length by omega)] at g2
  rw [ch, List.getElem?_eq_getElem (show 3 < xs.length by omega)] at g3
  rw [cu, List.getElem?_eq_getElem (show 4 < xs.length by omega)] at g4
  rw [cu, List.getElem?_eq_getElem (show 5 < xs.length by omega)] at g5
  have one : ∀ i, i < 37 → List.take 1 (List.drop i ls) = [ls.getD i undef] := fun i hi => by
    rw [List.drop_eq_getElem_cons (show i < ls.length by omega), List.take_succ_cons, List.take_zero, List.getD_eq_getElem?_getD, List.getElem?_eq_getElem (show i < ls.length by omega), Option.getD_some]
  have g0' : DataW.trod enc Tryd.prog w base spare held m 3 [ls.getD 0 undef] = some (xs[0]'(by omega)) := by rw [← one 0 (by omega), List.drop_zero]; exact g0
  rw [one 1 (by omega)] at g1
  rw [one 2 (by omega)] at g2
  rw [one 35 (by omega)] at g4
  rw [one 36 (by omega)] at g5
  obtain ⟨kd, hk, _, wk⟩ := DataW.trod_int Tryd.underlying3 g0'
  obtain ⟨bt, hb, _, wb⟩ := DataW.trod_int Tryd.underlying23 g2
  obtain ⟨dm, hd, _, wd⟩ := DataW.trod_int Tryd.underlying23 g4
  obtain ⟨at_, ha, _, wa⟩ := DataW.trod_int Tryd.underlying23 g5
  injection hk with hk _
  injection hb with hb _
  injection hd with hd _
  injection ha with ha _
  obtain ⟨sd, hsl, hs, hsw⟩ := trod_ints Tryd.underlying25 Tryd.underlying5 (by kernel_rfl) (by kernel_rfl) g3
  have hsplit : ls = [ls.getD 0 undef, ls.getD 1 undef, ls.getD 2 undef] ++ (List.take 32 (List.drop 3 ls) ++ [ls.getD 35 undef, ls.getD 36 undef]) := by
    have e1 : ls = ls.take 3 ++ ls.drop 3 := (List.take_append_drop 3 ls).symm
    have e2 : ls.drop 3 = (ls.drop 3).take 32 ++ (ls.drop 3).drop 32 := (List.take_append_drop 32 _).symm
    have e3 : ls.take 3 = [ls.getD 0 undef, ls.getD 1 undef, ls.getD 2 undef] := by
      match ls, hl with
      | a :: b :: c :: l, _ => rfl
    have e4 : (ls.drop 3).drop 32 = [ls.getD 35 undef, ls.getD 36 undef] := by
      rw [List.drop_drop, List.drop_eq_getElem_cons (show 3 + 32 < ls.length by omega), List.drop_eq_getElem_cons (show 3 + 32 + 1 < ls.length by omega), List.drop_eq_nil_of_le (by omega)]
      simp [List.getD_eq_getElem?_getD, List.getElem?_eq_getElem (show 35 < ls.length by omega), List.getElem?_eq_getElem (show 36 < ls.length by omega)]
    conv => lhs; rw [e1, e2, e3, e4]
  have bk := bounds_i64 wk
  have bb := bounds_u64 wb
  have bd := bounds_u64 wd
  have ba := bounds_u64 wa
  rcases open_ints Tryd.underlying22 Tryd.underlying5 (by kernel_rfl) g1 with ⟨hcs1, _⟩ | ⟨x, l, c, zs, hcs1, _, hl1, hm1, hz1, _, hcell, hwz⟩
  · injection hcs1 with hcs1 _
    refine ⟨⟨kd, [], bt, sd, dm, at_⟩, none, 0, ?_, Src.ok_mk (by omega) (by omega) (fun _ h => (by cases h)) (by omega) (by omega) hsl (u8b hsw) (by omega) (by omega) (by omega) (by omega), Rd.none_, Nat.le_refl _, by simp [maxLen], hsl⟩
    rw [hcs, hsplit, hs, hk, hcs1, hb, hd, ha]
    rfl
  · injection hcs1 with hcs1 _
    have hlz : l ≤ zs.length := by rw [hz1]; split <;> omega
    have htl : (zs.take l).length = l := by rw [List.length_take]; omega
    refine ⟨⟨kd, zs.take l, bt, sd, dm, at_⟩, some x, c, ?_, Src.ok_mk (by omega) (by omega) (fun z hz => u8b hwz z (List.mem_of_mem_take hz)) (by omega) (by omega) hsl (u8b hsw) (by omega) (by omega) (by omega) (by omega), ?_, by rw [htl]; exact hl1, hm1, hsl⟩
    · rw [hcs, hsplit, hs, hk, hcs1, hb, hd, ha]
      unfold srcV
      rw [htl]
    · rw [htl]
      exact rd_of_cells hlz rfl (fun h => by cases h) (fun a' e' c' hc' => by injection e' with e'; subst e'; exact hcell c' hc')
end Go.Proofs.YtmeefnhmkffdlaaDoor
/-
  append([]byte{}, b...): a copy of its own of a slice of bytes, behind a plain region's step.
  Conditions: the slice has at most 100,000,000 bytes.
-/
set_option maxRecDepth 100000
set_option linter.unusedVariables false
set_option linter.unusedSimpArgs false
namespace Go.Proofs.YtmeefnhmkffdlaaDoor
open Go.ChangeShapes Go.WideShapes Go.ChangeAt Go.RowKit
theorem wpList_own_copy {ops : Array Oper} {rest : List Oper} {o : Oper} {a : Act} {Q : Exit → Act → World → Prop} (W0 : World) (hgd : o.guard = none) (s x : Operand)
    (ho : o.op = .call { callee := .builtin .append, args := #[s, x], argTypes := #[22, 22] })
    (hs : a.eval s = .slice (some ⟨W0.heap.size, 0, none⟩) 0 0) (A : Option Addr) (m c : Nat) (ys : List Int) (hx : a.eval x = .slice A m c) (hr : Rd .u8 W0 W0.heap.size A m ys) (hm : m ≤ 100000000)
    (h : ∀ A7 c7 w', Below W0.heap.size W0 w' → Rd .u8 w' w'.heap.size A7 ys.length ys → Hid (ys.length ≤ c7) → Hid (c7 ≤ maxLen) → wpList Tryd.prog ops Q rest (a.put o.dst (.slice A7 ys.length c7)) w') : wpList Tryd.prog ops Q (o :: rest) a (W0.alloc (.cells #[] 5)) := by
  obtain ⟨ti, hti, hz0, hz1, hzb⟩ := info_parts info_u8'
  have hw : W0.heap.size ≤ (W0.alloc (.cells #[] 5)).heap.size := ((Below.refl _ _).alloc (Nat.le_refl _) (.cells #[] 5)).size
  refine wpList_append_ints _ hgd s x 22 ho W0.heap.size 5 ti _ 1 .u8 Tryd.underlying22 hti hz0 hz1 hzb rfl _ [] hs (own_empty W0 5 .u8 (Nat.le_refl _)) W0.heap.size A m c ys hx (hr.alloc (Nat.le_refl _) _) (by simp [maxLen]; omega) (by simp; omega) hw ?_
  intro v w' hown hg hat
  have hb : Below W0.heap.size W0 w' := (own_empty W0 5 .u8 (Nat.le_refl _)).below_ ((Below.refl _ _).alloc (Nat.le_refl _) _) hw hg
  rw [List.nil_append] at hown
  obtain ⟨A7, c7, rfl, hc7, hm7⟩ := hown.form
  exact h A7 c7 w' hb (OwnI.rd hown rfl) hc7 hm7
end Go.Proofs.YtmeefnhmkffdlaaDoor
/-
  A number as a tape of so many bits, in plain Lean: its bytes, its bits, and what draws of it give.
  Conditions: those that each theorem names.
-/
set_option maxRecDepth 100000
set_option linter.unusedVariables false
set_option linter.unusedSimpArgs false
namespace Go.Proofs.YtmeefnhmkffdlaaDoor
/-- The bit of the number q, of the first i ones; the first one is the highest of all. -/
def bitB (x bits i q : Nat) : Int := if q < i then ((x / 2 ^ (bits - 1 - q) % 2 : Nat) : Int) else 0
def byteB (x bits i j : Nat) : Int := 128 * bitB x bits i (8 * j) + 64 * bitB x bits i (8 * j + 1) + 32 * bitB x bits i (8 * j + 2) + 16 * bitB x bits i (8 * j + 3) + 8 * bitB x bits i (8 * j + 4) + 4 * bitB x bits i (8 * j + 5) + 2 * bitB x bits i (8 * j + 6) + bitB x bits i (8 * j + 7)
/-- The bytes of the first i bits. -/
def bytesB (x bits i : Nat) : List Int := (List.range ((i + 7) / 8)).map (byteB x bits i)
/-- The same, with room for one bit more. -/
def bytesC (x bits i : Nat) : List Int := (List.range (i / 8 + 1)).map (byteB x bits i)
theorem bitB_in (x bits i q : Nat) : 0 ≤ bitB x bits i q ∧ bitB x bits i q < 2 := by unfold bitB; split <;> omega
theorem bitB_out (x bits i q : Nat) (h : i ≤ q) : bitB x bits i q = 0 := by unfold bitB; rw [if_neg (by omega)]
theorem bitB_old (x bits i q : Nat) (h : q ≠ i) : bitB x bits (i + 1) q = bitB x bits i q := by
  unfold bitB
  by_cases h1 : q < i
  · rw [if_pos h1, if_pos (by omega)]
  · rw [if_neg h1, if_neg (by omega)]
theorem byteB_in (x bits i j : Nat) : 0 ≤ byteB x bits i j ∧ byteB x bits i j < 256 := by
  have h0 := bitB_in x bits i (8 * j)
  have h1 := bitB_in x bits i (8 * j + 1)
  have h2 := bitB_in x bits i (8 * j + 2)
  have h3 := bitB_in x bits i (8 * j + 3)
  have h4 := bitB_in x bits i (8 * j + 4)
  have h5 := bitB_in x bits i (8 * j + 5)
  have h6 := bitB_in x bits i (8 * j + 6)
  have h7 := bitB_in x bits i (8 * j + 7)
  unfold byteB
  omega
theorem byteB_other (x bits i j : Nat) (h : j ≠ i / 8) : byteB x bits (i + 1) j = byteB x bits i j := by
  unfold byteB
  rw [bitB_old _ _ _ _ (by omega), bitB_old _ _ _ _ (by omega), bitB_old _ _ _ _ (by omega), bitB_old _ _ _ _ (by omega), bitB_old _ _ _ _ (by omega), bitB_old _ _ _ _ (by omega), bitB_old _ _ _ _ (by omega), bitB_old _ _ _ _ (by omega)]
theorem eight (r : Nat) (h : r < 8) : r = 0 ∨ r = 1 ∨ r = 2 ∨ r = 3 ∨ r = 4 ∨ r = 5 ∨ r = 6 ∨ r = 7 := by omega
theorem byteB_next (x bits i : Nat) : byteB x bits (i + 1) (i / 8) = byteB x bits i (i / 8) + bitB x bits (i + 1) i * 2 ^ (7 - i % 8) ∧ byteB x bits i (i / 8) + 2 ^ (7 - i % 8) < 256 := by
  obtain ⟨a, r, hr, rfl⟩ : ∃ a r, r < 8 ∧ i = 8 * a + r := ⟨i / 8, i % 8, by omega, by omega⟩
  rw [show (8 * a + r) / 8 = a by omega, show (8 * a + r) % 8 = r by omega]
  have ho := fun q (h : q ≠ 8 * a + r) => bitB_old x bits (8 * a + r) q h
  have hz := fun q (h : 8 * a + r ≤ q) => bitB_out x bits (8 * a + r) q h
  have hi := fun q => bitB_in x bits (8 * a + r) q
  have hn := bitB_in x bits (8 * a + r + 1) (8 * a + r)
  have i0 := hi (8 * a)
  have i1 := hi (8 * a + 1)
  have i2 := hi (8 * a + 2)
  have i3 := hi (8 * a + 3)
  have i4 := hi (8 * a + 4)
  have i5 := hi (8 * a + 5)
  have i6 := hi (8 * a + 6)
  have i7 := hi (8 * a + 7)
  unfold byteB
  rcases eight r hr with rfl | rfl | rfl | rfl | rfl | rfl | rfl | rfl
  · rw [ho (8 * a + 1) (by omega), ho (8 * a + 2) (by omega), ho (8 * a + 3) (by omega), ho (8 * a + 4) (by omega), ho (8 * a + 5) (by omega), ho (8 * a + 6) (by omega), ho (8 * a + 7) (by omega)]
    have z0 := hz (8 * a) (by omega)
    have z1 := hz (8 * a + 1) (by omega)
    have z2 := hz (8 * a + 2) (by omega)
    have z3 := hz (8 * a + 3) (by omega)
    have z4 := hz (8 * a + 4) (by omega)
    have z5 := hz (8 * a + 5) (by omega)
    have z6 := hz (8 * a + 6) (by omega)
    have z7 := hz (8 * a + 7) (by omega)
    simp only [Nat.add_zero] at *
    omega
  · rw [ho (8 * a) (by omega), ho (8 * a + 2) (by omega), ho (8 * a + 3) (by omega), ho (8 * a + 4) (by omega), ho (8 * a + 5) (by omega), ho (8 * a + 6) (by omega), ho (8 * a + 7) (by omega)]
    have z1 := hz (8 * a + 1) (by omega)
    have z2 := hz (8 * a + 2) (by omega)
    have z3 := hz (8 * a + 3) (by omega)
    have z4 := hz (8 * a + 4) (by omega)
    have z5 := hz (8 * a + 5) (by omega)
    have z6 := hz (8 * a + 6) (by omega)
    have z7 := hz (8 * a + 7) (by omega)
    omega
  · rw [ho (8 * a) (by omega), ho (8 * a + 1) (by omega), ho (8 * a + 3) (by omega), ho (8 * a + 4) (by omega), ho (8 * a + 5) (by omega), ho (8 * a + 6) (by omega), ho (8 * a + 7) (by omega)]
    have z2 := hz (8 * a + 2) (by omega)
    have z3 := hz (8 * a + 3) (by omega)
    have z4 := hz (8 * a + 4) (by omega)
    have z5 := hz (8 * a + 5) (by omega)
    have z6 := hz (8 * a + 6) (by omega)
    have z7 := hz (8 * a + 7) (by omega)
    omega
  · rw [ho (8 * a) (by omega), ho (8 * a + 1) (by omega), ho (8 * a + 2) (by omega), ho (8 * a + 4) (by omega), ho (8 * a + 5) (by omega), ho (8 * a + 6) (by omega), ho (8 * a + 7) (by omega)]
    have z3 := hz (8 * a + 3) (by omega)
    have z4 := hz (8 * a + 4) (by omega)
    have z5 := hz (8 * a + 5) (by omega)
    have z6 := hz (8 * a + 6) (by omega)
    have z7 := hz (8 * a + 7) (by omega)
    omega
  · rw [ho (8 * a) (by omega), ho (8 * a + 1) (by omega), ho (8 * a + 2) (by omega), ho (8 * a + 3) (by omega), ho (8 * a + 5) (by omega), ho (8 * a + 6) (by omega), ho (8 * a + 7) (by omega)]
    have z4 := hz (8 * a + 4) (by omega)
    have z5 := hz (8 * a + 5) (by omega)
    have z6 := hz (8 * a + 6) (by omega)
    have z7 := hz (8 * a + 7) (by omega)
    omega
  · rw [ho (8 * a) (by omega), ho (8 * a + 1) (by omega), ho (8 * a + 2) (by omega), ho (8 * a + 3) (by omega), ho (8 * a + 4) (by omega), ho (8 * a + 6) (by omega), ho (8 * a + 7) (by omega)]
    have z5 := hz (8 * a + 5) (by omega)
    have z6 := hz (8 * a + 6) (by omega)
    have z7 := hz (8 * a + 7) (by omega)
    omega
  · rw [ho (8 * a) (by omega), ho (8 * a + 1) (by omega), ho (8 * a + 2) (by omega), ho (8 * a + 3) (by omega), ho (8 * a + 4) (by omega), ho (8 * a + 5) (by omega), ho (8 * a + 7) (by omega)]
    have z6 := hz (8 * a + 6) (by omega)
    have z7 := hz (8 * a + 7) (by omega)
    omega
  · rw [ho (8 * a) (by omega), ho (8 * a + 1) (by omega), ho (8 * a + 2) (by omega), ho (8 * a + 3) (by omega), ho (8 * a + 4) (by omega), ho (8 * a + 5) (by omega), ho (8 * a + 6) (by omega)]
    have z7 := hz (8 * a + 7) (by omega)
    omega
/-- The bits of a byte are those that it was made of. -/
theorem byteB_bit (x bits i q : Nat) : byteB x bits i (q / 8) / 2 ^ (7 - q % 8) % 2 = bitB x bits i q := by
  obtain ⟨a, r, hr, rfl⟩ : ∃ a r, r < 8 ∧ q = 8 * a + r := ⟨q / 8, q % 8, by omega, by omega⟩
  rw [show (8 * a + r) / 8 = a by omega, show (8 * a + r) % 8 = r by omega]
  have hi := fun q => bitB_in x bits i q
  have i0 := hi (8 * a)
  have i1 := hi (8 * a + 1)
  have i2 := hi (8 * a + 2)
  have i3 := hi (8 * a + 3)
  have i4 := hi (8 * a + 4)
  have i5 := hi (8 * a + 5)
  have i6 := hi (8 * a + 6)
  have i7 := hi (8 * a + 7)
  unfold byteB
  rcases eight r hr with rfl | rfl | rfl | rfl | rfl | rfl | rfl | rfl
  all_goals
    try rw [show (2 : Int) ^ (7 - 0) = 128 from rfl]
    try rw [show (2 : Int) ^ (7 - 1) = 64 from rfl]
    try rw [show (2 : Int) ^ (7 - 2) = 32 from rfl]
    try rw [show (2 : Int) ^ (7 - 3) = 16 from rfl]
    try rw [show (2 : Int) ^ (7 - 4) = 8 from rfl]
    try rw [show (2 : Int) ^ (7 - 5) = 4 from rfl]
    try rw [show (2 : Int) ^ (7 - 6) = 2 from rfl]
    try rw [show (2 : Int) ^ (7 - 7) = 1 from rfl]
    try rw [show 8 * a + 0 = 8 * a from rfl]
    omega
theorem bytesB_len (x bits i : Nat) : (bytesB x bits i).length = (i + 7) / 8 := by unfold bytesB; rw [List.length_map, List.length_range]
theorem bytesC_len (x bits i : Nat) : (bytesC x bits i).length = i / 8 + 1 := by unfold bytesC; rw [List.length_map, List.length_range]
theorem bytesB_in (x bits i : Nat) : ∀ z ∈ bytesB x bits i, 0 ≤ z ∧ z < 256 := by
  intro z hz
  obtain ⟨j, _, rfl⟩ := List.mem_map.1 hz
  exact byteB_in x bits i j
theorem bytesB_at (x bits i j : Nat) (h : j < (i + 7) / 8) : (bytesB x bits i).getD j 0 = byteB x bits i j := by
  unfold bytesB
  rw [List.getD_eq_getElem?_getD, List.getElem?_map, List.getElem?_range h]
  rfl
theorem bytesC_at (x bits i : Nat) : (bytesC x bits i).getD (i / 8) 0 = byteB x bits i (i / 8) := by
  unfold bytesC
  rw [List.getD_eq_getElem?_getD, List.getElem?_map, List.getElem?_range (by omega)]
  rfl
theorem bytesB_get (x bits i j : Nat) (h : j < (bytesB x bits i).length) : (bytesB x bits i)[j] = byteB x bits i j := by simp [bytesB]
theorem bytesC_get (x bits i j : Nat) (h : j < (bytesC x bits i).length) : (bytesC x bits i)[j] = byteB x bits i j := by simp [bytesC]
theorem bytesC_new (x bits i : Nat) (h : i % 8 = 0) : bytesB x bits i ++ [0] = bytesC x bits i := by
  unfold bytesB bytesC
  rw [List.range_succ, List.map_append, show (i + 7) / 8 = i / 8 by omega]
  congr 1
  show [0] = [byteB x bits i (i / 8)]
  unfold byteB
  rw [bitB_out _ _ _ _ (by omega), bitB_out _ _ _ _ (by omega), bitB_out _ _ _ _ (by omega), bitB_out _ _ _ _ (by omega), bitB_out _ _ _ _ (by omega), bitB_out _ _ _ _ (by omega), bitB_out _ _ _ _ (by omega), bitB_out _ _ _ _ (by omega)]
  rfl
theorem bytesC_old (x bits i : Nat) (h : i % 8 ≠ 0) : bytesB x bits i = bytesC x bits i := by
  unfold bytesB bytesC
  rw [show (i + 7) / 8 = i / 8 + 1 by omega]
/-- One bit more. -/
theorem bytesB_next (x bits i : Nat) : bytesB x bits (i + 1) = (bytesC x bits i).set (i / 8) (byteB x bits (i + 1) (i / 8)) := by
  apply List.ext_getElem
  · rw [bytesB_len, List.length_set, bytesC_len]; omega
  · intro j h1 h2
    rw [List.getElem_set, bytesB_get]
    split
    · rename_i h; rw [← h]
    · rename_i h; rw [bytesC_get]; exact byteB_other x bits i j (fun h3 => h h3.symm)
theorem bytesB_zero (x bits i : Nat) (h : bitB x bits (i + 1) i = 0) : bytesB x bits (i + 1) = bytesC x bits i := by
  rw [bytesB_next, (byteB_next x bits i).1, h, Int.zero_mul, Int.add_zero]
  apply List.ext_getElem
  · rw [List.length_set]
  · intro j h1 h2
    rw [List.getElem_set]
    split
    · rename_i h3; subst h3; rw [bytesC_get]
    · rfl
theorem bytesB_one (x bits i : Nat) (h : bitB x bits (i + 1) i = 1) : bytesB x bits (i + 1) = (bytesC x bits i).set (i / 8) (byteB x bits i (i / 8) + 2 ^ (7 - i % 8)) := by
  rw [bytesB_next, (byteB_next x bits i).1, h, Int.one_mul]
theorem bitB_at (x bits i : Nat) : bitB x bits (i + 1) i = ((x / 2 ^ (bits - 1 - i) % 2 : Nat) : Int) := by unfold bitB; rw [if_pos (by omega)]
/-! ### the number as a source -/
def numT (x bits : Nat) : Src := ⟨1, bytesB x bits bits, bits, List.replicate 32 0, 0, 0⟩
theorem numT_ok (x bits : Nat) (h : bits ≤ 1000) : (numT x bits).Ok := ⟨(by show (-9223372036854775808 : Int) ≤ 1; omega), (by show (1 : Int) < 9223372036854775808; omega), by show (bytesB x bits bits).length ≤ _; rw [bytesB_len]; omega, bytesB_in x bits bits, by show (0 : Int) ≤ (bits : Int); omega, by show (bits : Int) < _; omega, rfl, fun z hz => by rw [List.eq_of_mem_replicate hz]; omega, Int.le_refl _, (by show (0 : Int) < 18446744073709551616; omega), Int.le_refl _, (by show (0 : Int) < 18446744073709551616; omega)⟩
theorem numT_bit (x bits n : Nat) (h : n < bits) (p : Int) : bitS ((numT x bits).to p) (n : Int) = ((x / 2 ^ (bits - 1 - n) % 2 : Nat) : Int) := by
  rw [bitS_to]
  unfold bitS
  rw [if_neg (by show ¬ (1 : Int) = 2; omega)]
  show (bytesB x bits bits).getD ((n : Int) / 8).toNat 0 / 2 ^ (7 - (n : Int) % 8).toNat % 2 = _
  rw [show ((n : Int) / 8).toNat = n / 8 by omega, show (7 - (n : Int) % 8).toNat = 7 - n % 8 by omega, bytesB_at _ _ _ _ (by omega), byteB_bit]
  unfold bitB
  rw [if_pos h]
theorem numT_num (x bits a : Nat) (p : Int) : ∀ k, a + k ≤ bits → numS ((numT x bits).to p) (a : Int) k = ((x / 2 ^ (bits - a - k) % 2 ^ k : Nat) : Int)
  | 0, _ => by rw [Nat.pow_zero, Nat.mod_one]; rfl
  | k + 1, h => by
    rw [numS_succ, numT_num x bits a p k (by omega), show (a : Int) + (k : Int) = ((a + k : Nat) : Int) by omega, numT_bit x bits (a + k) (by omega)]
    rw [show bits - 1 - (a + k) = bits - a - (k + 1) by omega, show bits - a - k = bits - a - (k + 1) + 1 by omega, Nat.pow_succ 2 (bits - a - (k + 1)), ← Nat.div_div_eq_div_mul]
    generalize x / 2 ^ (bits - a - (k + 1)) = y
    rw [Nat.pow_succ 2 k, Nat.mul_comm (2 ^ k) 2, Nat.mod_mul]
    generalize y / 2 % 2 ^ k = z
    omega
theorem numT_take (x bits a k : Nat) (h : a + k ≤ bits) (hk : k ≤ 64) : takeE ((numT x bits).to (a : Int)) k = 0 ∧ takeV ((numT x bits).to (a : Int)) k = ((x / 2 ^ (bits - a - k) % 2 ^ k : Nat) : Int) := by
  have hr : rightS ((numT x bits).to (a : Int)) = true := by
    unfold rightS
    rw [if_pos (show ((numT x bits).to (a : Int)).kind = 1 from rfl)]
    show (decide ((bits : Int) ≤ 8 * ((bytesB x bits bits).length : Int)) && decide ((a : Int) ≤ (bits : Int))) = true
    rw [bytesB_len, decide_eq_true (by omega), decide_eq_true (by omega)]
    rfl
  have hl : leftS ((numT x bits).to (a : Int)) = (bits : Int) - a := by
    unfold leftS
    rw [if_pos hr, if_pos (show ((numT x bits).to (a : Int)).kind = 1 from rfl)]
    rfl
  have he : takeE ((numT x bits).to (a : Int)) k = 0 := takeE_ok.2 ⟨hr, by omega, by omega, by rw [hl]; omega⟩
  refine ⟨he, ?_⟩
  unfold takeV
  rw [if_pos he, Int.toNat_natCast]
  exact numT_num x bits a _ k h
/-- What draws of a number as a tape give. -/
def DrawsAs (bits : Nat) (h : Option Nat) (r : Int × Src × Int) : Prop := match h with
  | some v => r.1 = (v : Int) ∧ r.2.2 = 0 ∧ r.2.1.at_ ≤ (bits : Int)
  | none => r.2.2 = 9 ∧ r.2.1.at_ = (bits : Int)
theorem numT_draw (x k n m : Nat) (hk : k ≤ 64) : ∀ j, j ≤ m → DrawsAs (k * m) (hits (2 ^ k) n j (x % (2 ^ k) ^ j)) (drawGo k (n : Int) j ((numT x (k * m)).to ((k * (m - j) : Nat) : Int)))
  | 0, _ => by
    rw [drawGo_zero]
    exact ⟨rfl, by show ((k * (m - 0) : Nat) : Int) = _; rw [Nat.sub_zero]⟩
  | j + 1, hj => by
    have hd := numT_draw x k n m hk j (by omega)
    have e1 : k * (m - j) = k * (m - (j + 1)) + k := by rw [show m - j = m - (j + 1) + 1 by omega, Nat.mul_add, Nat.mul_one]
    have e2 : k * m = k * (m - j) + k * j := by rw [← Nat.mul_add]; congr 1; omega
    obtain ⟨h1, h2⟩ := numT_take x (k * m) (k * (m - (j + 1))) k (by omega) hk
    have e3 : k * m - k * (m - (j + 1)) - k = k * j := by omega
    rw [e3, Nat.pow_mul] at h2
    have e4 : x % (2 ^ k) ^ (j + 1) / (2 ^ k) ^ j = x / (2 ^ k) ^ j % 2 ^ k := by rw [Nat.pow_succ, Nat.mod_mul_right_div_self]
    have e5 : x % (2 ^ k) ^ (j + 1) % (2 ^ k) ^ j = x % (2 ^ k) ^ j := by rw [Nat.pow_succ]; exact Nat.mod_mul_right_mod _ _ _
    rw [hits, e4, e5]
    by_cases hx : x / (2 ^ k) ^ j % 2 ^ k < n
    · rw [if_pos hx, drawGo_hit h1 (by rw [h2]; exact_mod_cast hx)]
      exact ⟨h2, rfl, by rw [takeS_to h1]; show ((k * (m - (j + 1)) : Nat) : Int) + (k : Int) ≤ _; omega⟩
    · rw [if_neg hx, drawGo_miss h1 (by rw [h2]; exact_mod_cast hx), takeS_to h1, to_to]
      rw [show ((numT x (k * m)).to ((k * (m - (j + 1)) : Nat) : Int)).at_ + (k : Int) = ((k * (m - j) : Nat) : Int) from (by show ((k * (m - (j + 1)) : Nat) : Int) + (k : Int) = _; omega)]
      exact hd
/-- What is drawn, if anything, is below the bound, by whole attempts; with fewer attempts nothing is. -/
theorem draw_first (s : Src) (n m : Int) (hm0 : 1 ≤ m) (hm1 : m ≤ 64) :
    (drawE s n m ≠ 0 ∧ drawV s n m = 0) ∨ (drawE s n m = 0 ∧ ∃ j : Nat, (j : Int) < m ∧ drawV s n m < n ∧ (drawT s n m).at_ = s.at_ + ((needN n * (j + 1) : Nat) : Int) ∧ (1 ≤ j → drawR s n (j : Int) = (0, s.to (s.at_ + ((needN n * j : Nat) : Int)), 9))) := by
  unfold drawE drawV drawT drawR
  by_cases hb : drawB s n m = true
  · rw [if_pos hb]
    by_cases he : (drawGo (needN n) n m.toNat s).2.2 = 0
    · refine .inr ⟨he, ?_⟩
      obtain ⟨h1, j, hj, h2, h3⟩ := drawGo_first (needN n) n m.toNat s he
      refine ⟨j, by omega, h1, by rw [h2]; rfl, fun hj1 => ?_⟩
      have hb2 : drawB s n (j : Int) = true := by
        unfold drawB at hb ⊢
        rw [Bool.and_eq_true] at hb ⊢
        obtain ⟨a1, a2, a3, a4⟩ := of_decide_eq_true hb.2
        exact ⟨hb.1, decide_eq_true ⟨a1, a2, by omega, by omega⟩⟩
      rw [if_pos hb2, Int.toNat_natCast]
      exact h3
    · exact .inl ⟨he, drawGo_no _ _ _ _ he⟩
  · rw [if_neg hb]
    exact .inl ⟨by show ¬ (1 : Int) = 0; omega, rfl⟩
end Go.Proofs.YtmeefnhmkffdlaaDoor

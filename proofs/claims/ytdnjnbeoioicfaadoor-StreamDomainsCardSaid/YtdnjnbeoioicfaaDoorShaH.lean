/-
  What the program's (writing).hash returns, and that it leaves older memory as it was.
  Conditions: the arguments lie in their types' ranges.
-/
import Derived.Test.YtdnjnbeoioicfaaDoorShaN
import Derived.Test.YtdnjnbeoioicfaaDoorShaG
import Derived.Test.YtdnjnbeoioicfaaDoorPadC
set_option linter.unusedSimpArgs false
namespace Go.Proofs.YtdnjnbeoioicfaaDoor
open Go.ChangeShapes Go.WideShapes Go.ChangeAt Go.RowKit
set_option linter.unusedVariables false
theorem zero_b64h : ∀ W, (zeroValue 64).run Tryd.prog W = .ok (.agg (intsA .u8 (List.replicate 64 0))) W := (zero_of_info (n := 64) (by kernel_rfl)).1
theorem RdA.onlyW {w w' : World} {A : Option Addr} {n g : Nat} {bs : List (List Int)} {t : TypeId} {s : List Int} {A' : Option Addr} {r c : Nat} {m : Int} (h : RdA .u8 64 w w.heap.size A n bs) (hk : Blk w g t (wrV s A' r c m)) (ho : Only g w w') : RdA .u8 64 w' w'.heap.size A n bs := by
  refine ⟨h.1, h.2.1, fun hn => ?_⟩
  obtain ⟨b, off, e, hlt, hc⟩ := h.2.2 hn
  have hne : b ≠ g := by
    rintro rfl
    obtain ⟨b1, off1, e1, _, h1⟩ := h.at_ hn
    rw [e] at e1
    injection e1 with e1
    injection e1 with e2 e3
    have hl : (bs.getD 0 []).length = 64 := h.2.1 _ (by
      have : 0 < bs.length := by rw [h.1]; exact hn
      simp [List.getD, List.getElem?_eq_getElem this])
    obtain ⟨x, hx⟩ : ∃ x, bs.getD 0 [] = x := ⟨_, rfl⟩
    rw [hx] at h1 hl
    cases x with
    | nil => simp at hl
    | cons y ys =>
    have h0 := h1 0 (.int .u8 y) rfl
    rw [← e2, hk.cell] at h0
    exact wrV_kind _ _ _ _ _ _ _ h0
  refine ⟨b, off, e, Nat.lt_of_lt_of_le hlt ho.size, fun j u hu => ?_⟩
  rw [World.cell?_of_block (w := w) (w' := w') (a := ⟨b, off + j, none⟩) (ho.block b hlt hne)]
  exact hc j u hu
/-- What hash keeps: the writer, the blocks, its result's place. -/
def Hs (w0 : World) (g g2 : Nat) (A : Option Addr) (c : Nat) (s r : List Int) (n : Int) (A4 : Option Addr) (BS : List (List Int)) (Z : List Int) (w : World) : Prop :=
  Wrt w0 g A c s r n w ∧ RdA .u8 64 w w.heap.size A4 BS.length BS ∧ BlkI w g2 23 .u8 Z ∧ g2 ≠ g
theorem Hs.below {w0 w w' : World} {g g2 : Nat} {A : Option Addr} {c : Nat} {s r : List Int} {n : Int} {A4 : Option Addr} {BS : List (List Int)} {Z : List Int} (h : Hs w0 g g2 A c s r n A4 BS Z w) (hb : Below w.heap.size w w') : Hs w0 g g2 A c s r n A4 BS Z w' :=
  ⟨h.1.below hb, (h.2.1.below hb).mono hb.size, h.2.2.1.below hb h.2.2.1.lt, h.2.2.2⟩
theorem Hs.only {w0 w w' : World} {g g2 : Nat} {A : Option Addr} {c : Nat} {s s' r : List Int} {n : Int} {A4 : Option Addr} {BS : List (List Int)} {Z : List Int} (h : Hs w0 g g2 A c s r n A4 BS Z w) (ho : Only g w w') (hk : Blk w' g 71 (wrV s' A r.length c n)) : Hs w0 g g2 A c s' r n A4 BS Z w' :=
  ⟨h.1.only ho hk, h.2.1.onlyW h.1.1 ho, Blk.only h.2.2.1 ho h.2.2.2, h.2.2.2⟩
theorem Wrt.blk {w0 w : World} {g : Nat} {A : Option Addr} {c : Nat} {s r : List Int} {n : Int} (h : Wrt w0 g A c s r n w) : Blk w g 71 (wrV s A r.length c n) := h.1
theorem Hs.wrt {w0 w : World} {g g2 : Nat} {A : Option Addr} {c : Nat} {s r : List Int} {n : Int} {A4 : Option Addr} {BS : List (List Int)} {Z : List Int} (h : Hs w0 g g2 A c s r n A4 BS Z w) : Wrt w0 g A c s r n w := h.1
theorem Hs.res {w0 w : World} {g g2 : Nat} {A : Option Addr} {c : Nat} {s r : List Int} {n : Int} {A4 : Option Addr} {BS : List (List Int)} {Z : List Int} (h : Hs w0 g g2 A c s r n A4 BS Z w) : BlkI w g2 23 .u8 Z := h.2.2.1
set_option maxHeartbeats 2000000 in
theorem qhash_c (w0 : World) (g : Nat) (A : Option Addr) (c : Nat) (s r : List Int) (n : Int) (hl : s.length = 8) (hs : WIn s) (hri : ∀ z ∈ r, 0 ≤ z ∧ z < 256) (n0 : 0 ≤ n) (n1 : n < 2305843009213693952) (hn : (r.length : Int) = n % 64) (w : World) (hw : Wrt w0 g A c s r n w) (hkst : Kst w0) :
    Calls Tryd.prog 31 #[.pointer (some ⟨g, 0, none⟩)] w fun e w' => e = .returned (.agg (intsA .u8 (finL s r n))) ∧ Below w0.heap.size w0 w' := by
  have htl := tailL_len r n
  have htz := zer_le r.length
  have hti := tailL_in r n hri n0 n1
  have HTL := Lib.hid (fun W h => ptail_c A c r.length r n W h hw.cap n0 n1 hn)
  obtain ⟨T, hT⟩ : ∃ T, tailL r n = T := ⟨_, rfl⟩
  obtain ⟨q, hq⟩ : ∃ q, T.length / 64 = q := ⟨_, rfl⟩
  obtain ⟨BS, hBS⟩ : ∃ BS, cutN T q = BS := ⟨_, rfl⟩
  have hR : finL s r n = hashL (takesL s BS) := by unfold finL; rw [hT, hq, hBS]
  rw [hR]
  rw [hT] at htl hti HTL
  have hbi := cutN_in T q hti
  have hbl := cutN_length T q
  have hb64 := cutN_len T q (by omega)
  rw [hBS] at hbi hbl hb64
  have HC1 := Lib.hid (fun A c W h1 h2 => pcut_c A c T.length T W h1 h2 (by omega))
  rw [hq, hBS] at HC1
  have HXL := Lib.hid (fun i => takesL_len s (BS.take i) hl)
  have HXI := Lib.hid (fun i => takesL_in s (BS.take i) hs)
  have HXN := Lib.hid (fun i (h : i < BS.length) => takesL_next s BS i h)
  have HBI := Lib.hid hbi
  have HB64 := Lib.hid hb64
  have HW := Lib.hid hw
  have hq1 : q ≤ 10000 := by omega
  have hqT : 64 * q ≤ 1000000 := by omega
  have HBL := Lib.hid hbl
  have HHL := Lib.hid (hashL_len (takesL s BS))
  have HJ := Lib.hid (fun W => qjoined_c (takesL s BS) (takesL_len s BS hl) (takesL_in s BS hs) W)
  have HX0 := Lib.hid (show takesL s (BS.take 0) = s from rfl)
  have HXA := Lib.hid (show takesL s (BS.take BS.length) = takesL s BS by rw [List.take_length])
  have HKS := Lib.hid hkst
  have SXS := Lib.hid (sized (takesL s BS) (takesL_len s BS hl))
  obtain ⟨Z, hZ⟩ : ∃ Z : List Int, List.replicate 32 0 = Z := ⟨_, rfl⟩
  have HZ0 := Lib.hid zero_hash
  rw [hZ] at HZ0
  have HZL := Lib.hid (show Z.length = 32 by rw [← hZ]; simp)
  obtain ⟨Y, hY⟩ : ∃ Y : List Int, List.replicate 64 0 = Y := ⟨_, rfl⟩
  have HY0 := Lib.hid zero_b64h
  rw [hY] at HY0
  have HYL := Lib.hid (show Y.length = 64 by rw [← hY]; simp)
  have HTlen : Hid (T.length ≤ 1000000) := Lib.hid (by omega)
  have HSL := Lib.hid hl
  clear htl htz hti hq hBS hR hbi hbl hb64 hw hkst hZ hY hT hri hs hn
  go_enter Tryd.func31, Tryd.ntmps31
  go_wp2_with (with_reducible refine at_any ?_; refine at_dst 2 rfl ?_; refine wpList_alloc_ints rfl 23 rfl .u8 Z HZ0.out ?_; intro w1 hk1 hs1 hb1)
  have hW1 := HW.out.below hb1
  have hZ1 := hk1.out
  have hne : w.heap.size ≠ g := by have := HW.out.lt; omega
  have HGE : Hid (w0.heap.size ≤ w.heap.size) := Lib.hid HW.out.size
  obtain ⟨g2, hg2⟩ : ∃ g, w.heap.size = g := ⟨_, rfl⟩
  rw [hg2] at hZ1 hne HGE
  rw [hg2]
  clear hk1 hs1 hb1 hg2
  refine wp_region_held_drew (S := Wrt w0 g A c s r n) (by kernel_rfl) (hW1.drew) (fun hH => ?_)
  refine held_v 0 (some 10) rfl rfl (by kernel_rfl) (by kernel_rfl) (by kernel_rfl) (fun _ _ _ _ h => h) (by kernel_rfl) (.pointer (some ⟨g, 0, none⟩)) (fun W h => by go_simp) hH ?_
  try simp only [Act.put, List.setIfInBounds_toArray, List.set_cons_zero, List.set_cons_succ]
  refine held_v 1 (some 11) rfl rfl (by kernel_rfl) (by kernel_rfl) (by kernel_rfl) (fun _ _ _ _ h => h) (by kernel_rfl) (.pointer (some ⟨g, 0, none⟩)) (fun W h => by go_simp) hH ?_
  try simp only [Act.put, List.setIfInBounds_toArray, List.set_cons_zero, List.set_cons_succ]
  refine held_v 2 (some 12) rfl rfl (by kernel_rfl) (by kernel_rfl) (by kernel_rfl) (fun _ _ _ _ h => h) (by kernel_rfl) (.pointer (some ⟨g, 0, none⟩)) (fun W h => by go_simp) hH ?_
  try simp only [Act.put, List.setIfInBounds_toArray, List.set_cons_zero, List.set_cons_succ]
  refine held_v 3 (some 13) rfl rfl (by kernel_rfl) (by kernel_rfl) (by kernel_rfl) (fun _ _ _ _ h => h) (by kernel_rfl) (.pointer (some ⟨g, 8, none⟩)) (fun W h => by go_simp) hH ?_
  try simp only [Act.put, List.setIfInBounds_toArray, List.set_cons_zero, List.set_cons_succ]
  refine held_v 4 (some 14) rfl rfl (by kernel_rfl) (by kernel_rfl) (by kernel_rfl) (fun _ _ _ _ h => h) (by kernel_rfl) (.slice A r.length c) (fun W h => by have c8 := h.cell8 HSL.out; go_simp) hH ?_
  try simp only [Act.put, List.setIfInBounds_toArray, List.set_cons_zero, List.set_cons_succ]
  refine held_v 5 (some 15) rfl rfl (by kernel_rfl) (by kernel_rfl) (by kernel_rfl) (fun _ _ _ _ h => h) (by kernel_rfl) (.pointer (some ⟨g, 0, none⟩)) (fun W h => by go_simp) hH ?_
  try simp only [Act.put, List.setIfInBounds_toArray, List.set_cons_zero, List.set_cons_succ]
  refine held_v 6 (some 16) rfl rfl (by kernel_rfl) (by kernel_rfl) (by kernel_rfl) (fun _ _ _ _ h => h) (by kernel_rfl) (.pointer (some ⟨g, 0, none⟩)) (fun W h => by go_simp) hH ?_
  try simp only [Act.put, List.setIfInBounds_toArray, List.set_cons_zero, List.set_cons_succ]
  refine held_v 7 (some 17) rfl rfl (by kernel_rfl) (by kernel_rfl) (by kernel_rfl) (fun _ _ _ _ h => h) (by kernel_rfl) (.pointer (some ⟨g, 0, none⟩)) (fun W h => by go_simp) hH ?_
  try simp only [Act.put, List.setIfInBounds_toArray, List.set_cons_zero, List.set_cons_succ]
  refine held_v 8 (some 18) rfl rfl (by kernel_rfl) (by kernel_rfl) (by kernel_rfl) (fun _ _ _ _ h => h) (by kernel_rfl) (.pointer (some ⟨g, 9, none⟩)) (fun W h => by go_simp) hH ?_
  try simp only [Act.put, List.setIfInBounds_toArray, List.set_cons_zero, List.set_cons_succ]
  refine held_v 9 (some 19) rfl rfl (by kernel_rfl) (by kernel_rfl) (by kernel_rfl) (fun _ _ _ _ h => h) (by kernel_rfl) (.int .u64 n) (fun W h => by have c9 := h.cell9 HSL.out; go_simp) hH ?_
  try simp only [Act.put, List.setIfInBounds_toArray, List.set_cons_zero, List.set_cons_succ]
  refine wpAnyH_ready (rs := [10]) (by kernel_rfl) (by decide) ?_
  refine AllReadyH.cons rfl (fun K hK => ?_) AllReadyH.nil
  refine step_call (some 20) rfl (by kernel_rfl) _ _ (by kernel_rfl) _ (HTL.out w1.drew hH.rd) ?_
  rintro e w3 ⟨A3, c3, rfl, hrd3, hc3, hb3⟩
  have hW3 := hH.below hb3
  have hZ3 : BlkI w3 g2 23 .u8 Z := hZ1.drew.below hb3 hZ1.lt
  refine ⟨_, rfl, ?_⟩
  refine hK.out _ _ hW3 (fun hH3 => ?_)
  clear hK K
  try simp only [Act.put, List.setIfInBounds_toArray, List.set_cons_zero, List.set_cons_succ]
  refine held_v 11 (some 9) rfl rfl (by kernel_rfl) (by kernel_rfl) (by kernel_rfl) (fun _ _ _ _ h => h) (by kernel_rfl) (.tuple #[.slice A3 T.length c3, .bool true]) (fun W h => by go_simp) hH3 ?_
  try simp only [Act.put, List.setIfInBounds_toArray, List.set_cons_zero, List.set_cons_succ]
  refine held_v 12 (some 21) rfl rfl (by kernel_rfl) (by kernel_rfl) (by kernel_rfl) (fun _ _ _ _ h => h) (by kernel_rfl) (.slice A3 T.length c3) (fun W h => by go_simp) hH3 ?_
  try simp only [Act.put, List.setIfInBounds_toArray, List.set_cons_zero, List.set_cons_succ]
  refine held_v 13 (some 22) rfl rfl (by kernel_rfl) (by kernel_rfl) (by kernel_rfl) (fun _ _ _ _ h => h) (by kernel_rfl) (.bool true) (fun W h => by go_simp) hH3 ?_
  try simp only [Act.put, List.setIfInBounds_toArray, List.set_cons_zero, List.set_cons_succ]
  refine held_v 14 (some 3) rfl rfl (by kernel_rfl) (by kernel_rfl) (by kernel_rfl) (fun _ _ _ _ h => h) (by kernel_rfl) (.slice A3 T.length c3) (fun W h => by go_simp) hH3 ?_
  try simp only [Act.put, List.setIfInBounds_toArray, List.set_cons_zero, List.set_cons_succ]
  refine held_v 15 (some 4) rfl rfl (by kernel_rfl) (by kernel_rfl) (by kernel_rfl) (fun _ _ _ _ h => h) (by kernel_rfl) (.bool true) (fun W h => by go_simp) hH3 ?_
  try simp only [Act.put, List.setIfInBounds_toArray, List.set_cons_zero, List.set_cons_succ]
  refine wpAnyH_done (by kernel_rfl) ?_ _
  have HRD3 := Lib.hid hrd3
  have HW3 := Lib.hid hW3
  have HZ3 := Lib.hid hZ3
  clear hW1 hZ1 hH hrd3 hb3 hW3 hZ3 hH3
  go_wp2_with (go_at_call 38; (with_reducible refine (HC1.out A3 c3 w3 HRD3.out hc3).mono ?_); rintro e w4 ⟨A4, c4, A5, c5, rfl, hrd4, hrd5, hc5, hb4⟩; have HRD4 := Lib.hid hrd4; have HW4 := Lib.hid (HW3.out.below hb4); have HZ4 := Lib.hid (HZ3.out.below hb4 HZ3.out.lt); clear hrd4 hrd5 hc5)
  have HI : Hs w0 g g2 A c (takesL s (BS.take 0)) r n A4 BS Z w4 := by rw [HX0.out]; exact ⟨HW4.out, HRD4.out, HZ4.out, hne⟩
  have hlen : BS.length ≤ 10000 := by rw [HBL.out]; exact hq1
  obtain ⟨m, hm⟩ : ∃ m, BS.length = m := ⟨_, rfl⟩
  have HM := Lib.hid hm
  rw [hm] at hlen
  rw [hm]
  clear HRD3 HW3 HZ3 HRD4 HW4 HZ4 hb4 hm hc3
  go_loopw [30] (fun v wr => ∃ i : Nat, i ≤ m ∧ v = .int .i64 i ∧ Hs w0 g g2 A c (takesL s (BS.take i)) r n A4 BS Z wr) (fun v _ => m - (intOf v).toNat)
  case atStart => exact ⟨0, by omega, rfl, HI⟩
  case round =>
    clear HI
    obtain ⟨i, hi, rfl, HI⟩ := hrel
    by_cases hlt : i < m
    · have hil : i < BS.length := by rw [HM.out]; exact hlt
      obtain ⟨b0, off, hA4, hb0, hrg⟩ := HI.2.1.at_ hil
      have hmem : BS.getD i [] ∈ BS := by simp [List.getD, List.getElem?_eq_getElem hil]
      have hbl := HB64.out _ hmem
      have hbi := HBI.out _ hmem
      have hnx := HXN.out i hil
      have hxl := HXL.out i
      have hxi := HXI.out i
      obtain ⟨x, hx⟩ : ∃ x, takesL s (BS.take i) = x := ⟨_, rfl⟩
      obtain ⟨b, hb⟩ : ∃ b, BS.getD i [] = b := ⟨_, rfl⟩
      rw [hx] at hnx hxl hxi HI
      rw [hb] at hnx hbl hbi hrg
      have HNX := Lib.hid hnx
      have HRG := Lib.hid hrg
      have HII := Lib.hid HI
      have SB := Lib.hid (show (Tryd.prog.info? 64).map (·.size) = some b.length by rw [hbl]; exact size_blk)
      have LB := Lib.hid (show Y.length = b.length by rw [hbl, HYL.out])
      have HTK := Lib.hid (fun W h k => qtake_c g A r.length c x b n hxl hxi hbl hbi W h k)
      have q0 : (0 : Int) ≤ (i : Int) ∧ (i : Int) < (m : Int) := by omega
      subst hA4
      clear hnx hrg hxl hxi hbl hbi hmem hx hb HI
      go_wp2_with (first
        | (with_reducible refine at_any ?_; refine at_dst 33 rfl ?_; refine wpList_load_at rfl 64 (.tmp 32) rfl b0 (off + i * 64) rfl .u8 b HRG.out _ Tryd.underlying64 rfl SB.out ?_)
        | (with_reducible refine at_any ?_; refine at_dst 8 rfl ?_; refine wpList_alloc_ints rfl 64 rfl .u8 Y HY0.out ?_; intro w5 hk5 hs5 hb5; have HI5 := Lib.hid (HII.out.below hb5))
        | (with_reducible refine at_any ?_; refine at_store 8 rfl ?_; refine wpList_store_ints rfl 64 (.tmp 8) (.tmp 33) rfl wr.heap.size rfl 64 .u8 Y b hk5.out rfl LB.out SB.out ?_; intro w6 hk6 hs6 hb6 ho6; have HI6 := Lib.hid (HII.out.below (hb5.trans (hb6 _ (Nat.le_refl _)))))
        | (with_reducible refine at_any ?_; refine at_dst 35 rfl ?_; refine wpList_load_ints rfl 64 (.tmp 8) rfl wr.heap.size rfl 64 .u8 b hk6.out _ Tryd.underlying64 rfl SB.out ?_)
        | (go_at_call 39; (with_reducible refine (HTK.out w6 HI6.out.wrt.blk (HKS.out.below HI6.out.wrt.bel)).mono ?_); rintro e w7 ⟨rfl, hk7, ho7⟩; have HI7 := Lib.hid (HI6.out.only ho7 hk7)))
      rw [← HNX.out] at HI7
      go_roundw
      case rel => exact ⟨i + 1, by omega, by go_num, HI7.out⟩
      case measure => simp [intOf]; omega
    · obtain rfl : i = m := by omega
      have hi2 := HI
      rw [← HM.out, HXA.out] at hi2
      have HI2 := Lib.hid hi2
      obtain ⟨X, hX⟩ : ∃ X, takesL s BS = X := ⟨_, rfl⟩
      obtain ⟨R, hRR⟩ : ∃ R, hashL X = R := ⟨_, rfl⟩
      rw [hX] at HI2 HJ SXS HHL
      rw [hRR] at HJ HHL
      have HRX := Lib.hid (show hashL (takesL s BS) = R by rw [hX, hRR])
      have SR := Lib.hid (show (Tryd.prog.info? 23).map (·.size) = some R.length by rw [HHL.out]; exact size_hash)
      have ZR := Lib.hid (show Z.length = R.length by rw [HHL.out, HZL.out])
      clear hi2 HI hX hRR HXN HXL HXI HXA HX0
      go_wp2_with (first
        | (with_reducible refine at_any ?_; refine at_dst 42 rfl ?_; refine wpList_load_at rfl 53 (.tmp 41) rfl g 0 rfl .u32 X (wrV_range HI2.out.wrt.blk) _ Tryd.underlying53 rfl SXS.out ?_)
        | (go_at_call 40; (with_reducible refine (HJ.out _).mono ?_); rintro e w7 ⟨rfl, hb7⟩; have HI7 := Lib.hid (HI2.out.below hb7))
        | (with_reducible refine at_any ?_; refine at_store 2 rfl ?_; refine wpList_store_ints rfl 23 (.tmp 2) (.tmp 43) rfl g2 rfl 23 .u8 Z R HI7.out.res rfl ZR.out SR.out ?_; intro w9 hk9 hs9 hb9 ho9)
        | (refine bodyPost_cell 2 23 rfl g2 rfl 23 .u8 R hk9.out _ Tryd.underlying23 rfl SR.out rfl ?_))
      exact ⟨by rw [HRX.out], HI7.out.wrt.bel.trans (hb9 _ HGE.out)⟩
end Go.Proofs.YtdnjnbeoioicfaaDoor

/-
  What the document's answers for layer 5 return (hash, take, Join, Sum), and that they leave memory as it was.
  Conditions: the arguments lie in their types' ranges; what is hashed is small.
-/
import Derived.Test.YtdnjnbeoioicfaaDoorRefE
import Derived.Test.YtdnjnbeoioicfaaDoorRefB
import Derived.Test.YtdnjnbeoioicfaaDoorShaP
import Derived.Test.YtdnjnbeoioicfaaDoorHeldB
set_option linter.unusedSimpArgs false
namespace Go.Proofs.YtdnjnbeoioicfaaDoor
open Go.ChangeShapes Go.WideShapes Go.ChangeAt Go.RowKit
set_option linter.unusedVariables false
theorem zero_hash : ∀ W, (zeroValue 23).run Tryd.prog W = .ok (.agg (intsA .u8 (List.replicate 32 0))) W := (zero_of_info (n := 32) (by kernel_rfl)).1
theorem size_hash : (Tryd.prog.info? 23).map (·.size) = some 32 := by kernel_rfl
theorem size_blk : (Tryd.prog.info? 64).map (·.size) = some 64 := by kernel_rfl

set_option maxHeartbeats 1000000 in
theorem rhash_c (l : List Int) (hl : l.length = 8) (hb : ∀ z ∈ l, 0 ≤ z ∧ z < 4294967296) (w : World) :
    Calls Tryd.prog 25 #[.agg (intsA .u32 l)] w fun e w' => e = .returned (.agg (intsA .u8 (hashL l))) ∧ Below w.heap.size w w' := by
  go_enter Tryd.func25, Tryd.ntmps25
  go_wp2_with (first
    | (with_reducible refine at_any ?_; refine at_dst 1 rfl ?_; refine wpList_box_ints rfl 53 (.tmp 0) rfl .u32 l rfl ?_; intro w1 hk1 hs1 hb1)
    | (with_reducible refine at_any ?_; refine at_dst 2 rfl ?_; refine wpList_alloc_ints rfl 23 rfl .u8 (List.replicate 32 0) zero_hash ?_; intro w2 hk2 hs2 hb2)
    | (with_reducible refine at_any ?_; refine at_dst 3 rfl ?_; refine wpList_alloc_ints rfl 23 rfl .u8 (List.replicate 32 0) zero_hash ?_; intro w3 hk3 hs3 hb3))
  have HI : In3 w w.heap.size w1.heap.size w2.heap.size 53 23 23 .u32 .u8 .u8 l (List.replicate 32 0) (hashF l 0 0) w3 := by
    rw [hashF_zero]
    have q1 := hs1.out
    have q2 := hs2.out
    have q3 := hs3.out
    exact ⟨(hk1.out.below hb2 (by omega)).below hb3 (by omega), hk2.out.below hb3 (by omega), hk3.out, hb1.trans ((hb2.mono (by omega)).trans (hb3.mono (by omega))), by omega, by omega, by omega⟩
  obtain ⟨g1, hg1⟩ : ∃ g, w.heap.size = g := ⟨_, rfl⟩
  obtain ⟨g2, hg2⟩ : ∃ g, w1.heap.size = g := ⟨_, rfl⟩
  obtain ⟨g3, hg3⟩ : ∃ g, w2.heap.size = g := ⟨_, rfl⟩
  have HG2 := Lib.hid (show w.heap.size ≤ g2 by have := hb1.size; omega)
  rw [hg1, hg2, hg3] at HI
  rw [hg1, hg2, hg3]
  clear hk1 hs1 hb1 hk2 hs2 hb2 hk3 hs3 hb3
  go_loopw [4] (fun v wr => ∃ i : Nat, i ≤ 8 ∧ v = .int .i64 i ∧ In3 w g1 g2 g3 53 23 23 .u32 .u8 .u8 l (List.replicate 32 0) (hashF l i 0) wr) (fun v _ => 8 - (intOf v).toNat)
  case atStart => exact ⟨0, by omega, rfl, HI⟩
  case round =>
    clear HI
    obtain ⟨wo, rfl⟩ : ∃ wo, wo = wr := ⟨_, rfl⟩
    obtain ⟨i, hi, rfl, HI⟩ := hrel
    by_cases hlt : i < 8
    · have c0 := HI.1.cell (j := i) (by omega)
      have rx : 0 ≤ l.getD i 0 ∧ l.getD i 0 < 4294967296 := by
        have h : i < l.length := by omega
        simp [h]; exact hb _ (List.getElem_mem h)
      obtain ⟨ps, hps⟩ : ∃ ps, put4L (l.getD i 0) = ps := ⟨_, rfl⟩
      have hset : ∀ k, k < 4 → (hashF l i k).set (4 * i + k) (ps.getD k 0) = hashF l i (k + 1) := by
        intro k hk
        have := hashF_set l i k hk hlt
        rwa [hps] at this
      obtain ⟨x, hx⟩ : ∃ x, l.getD i 0 = x := ⟨_, rfl⟩
      rw [hx] at c0 rx hps
      obtain ⟨p0, p1, p2, p3, rfl⟩ : ∃ p0 p1 p2 p3, ps = [p0, p1, p2, p3] := ⟨_, _, _, _, hps.symm⟩
      have hput := fun W => rput32_c x rx.1 rx.2 W
      have hp4 : put4 x = ((put4L x).map (Value.int .u8)).toArray := rfl
      rw [hp4, hps] at hput
      have HP := Lib.hid hput
      have HSET := Lib.hid hset
      have HI' := Lib.hid HI
      clear hput hp4 hps hset hx HI
      go_wp2_with (go_at_call 33; (with_reducible refine (HP.out _).mono ?_); rintro e w4 ⟨rfl, hb4, _⟩)
      have HB5 := Lib.hid (BlkI.new w4 67 .u8 [p0, p1, p2, p3])
      have HI5 := Lib.hid ((HI'.out.below hb4).below ((Below.refl _ _).alloc (Nat.le_refl _) (Obj.cells (intsA .u8 [p0, p1, p2, p3]) 67)))
      have hne : w4.heap.size ≠ g3 := by have := (HI'.out.below hb4).2.2.1.lt; omega
      obtain ⟨W5, hW5⟩ : ∃ W5, w4.alloc (Obj.cells #[.int .u8 p0, .int .u8 p1, .int .u8 p2, .int .u8 p3] 67) = W5 := ⟨_, rfl⟩
      have hW5' : w4.alloc (Obj.cells (intsA .u8 [p0, p1, p2, p3]) 67) = W5 := hW5
      rw [hW5'] at HB5 HI5
      rw [hW5]
      obtain ⟨g5, hg5⟩ : ∃ g, w4.heap.size = g := ⟨_, rfl⟩
      rw [hg5] at HB5 hne ⊢
      clear hW5 hW5' hg5 hb4 HI' c0 rx HP
      obtain ⟨ps, hps⟩ : ∃ ps, [p0, p1, p2, p3] = ps := ⟨_, rfl⟩
      have hpl : ps.length = 4 := by rw [← hps]; rfl
      rw [hps] at HB5 HSET
      clear hps
      go_loopw [6] (fun v wq => ∃ k : Nat, k ≤ 4 ∧ v = .int .i64 k ∧ In3 w g1 g2 g3 53 23 23 .u32 .u8 .u8 l (List.replicate 32 0) (hashF l i k) wq ∧ BlkI wq g5 67 .u8 ps) (fun v _ => 4 - (intOf v).toNat)
      case atStart => exact ⟨0, by omega, rfl, HI5.out, HB5.out⟩
      case round =>
        clear HI5 HB5
        obtain ⟨k, hk, rfl, HI, HB⟩ := hrel
        by_cases hkl : k < 4
        · have c5 := HB.cell (j := k) (by omega)
          have hbl := hashF_len l i k (by omega) (by omega)
          have c3 := HI.2.2.1.cell (j := 4 * i + k) (by omega)
          have f3 := HI.2.2.1.frozen (4 * i + k)
          have HN := Lib.hid (HI.set_ (4 * i + k) (ps.getD k 0))
          rw [HSET.out k hkl] at HN
          have HBN := Lib.hid (HB.far (p := ⟨g3, 4 * i + k, none⟩) hne (.int .u8 (ps.getD k 0)))
          obtain ⟨y, hy⟩ : ∃ y, ps.getD k 0 = y := ⟨_, rfl⟩
          rw [hy] at c5 HN HBN
          clear hy HI HB hbl
          go_wp2
          go_roundw
          case rel => exact ⟨k + 1, by omega, by go_num, HN.out, HBN.out⟩
          case measure => simp [intOf]; omega
        · rw [show ((k : Nat) : Int) = 4 by omega]
          obtain rfl : k = 4 := by omega
          rw [hashF_next] at HI
          have HI' := Lib.hid HI
          clear HI hk hkl
          go_wp2
          go_roundw
          case rel => exact ⟨i + 1, by omega, by go_num, HI'.out⟩
          case measure => simp [intOf]; omega
    · rw [show ((i : Nat) : Int) = 8 by omega]
      obtain rfl : i = 8 := by omega
      rw [hashF_full] at HI
      obtain ⟨h1, h2, h3, h4, h5, h6, h7⟩ := HI
      have hpl : (hashL l).length = 32 := backTo_len l 8
      have HPL := Lib.hid hpl
      have H3 := Lib.hid h3
      have H2 := Lib.hid h2
      have hg2 : w.heap.size ≤ g2 := HG2.out
      clear hpl h1 h2 h3
      go_wp2_with (first
        | (with_reducible refine at_any ?_; refine at_dst 27 rfl ?_; refine wpList_load_ints rfl 23 (.tmp 3) rfl g3 rfl 23 .u8 (hashL l) H3.out _ Tryd.underlying23 rfl (by rw [HPL.out]; exact size_hash) ?_)
        | (with_reducible refine at_any ?_; refine at_store 2 rfl ?_; refine wpList_store_ints rfl 23 (.tmp 2) (.tmp 27) rfl g2 rfl 23 .u8 (List.replicate 32 0) (hashL l) H2.out rfl (by rw [HPL.out]; simp) (by rw [HPL.out]; exact size_hash) ?_; intro w9 hk9 hs9 hb9 ho9)
        | (refine bodyPost_cell 2 23 rfl g2 rfl 23 .u8 (hashL l) hk9.out _ Tryd.underlying23 rfl (by rw [HPL.out]; exact size_hash) rfl ?_))
      rw [← hg1]
      exact h4.trans (hb9 _ hg2)

/-- What take keeps: the state so far, and its result's place. -/
def Tk5 (w : World) (g2 g4 : Nat) (z : List Int) (w' : World) : Prop := BlkI w' g2 53 .u32 z ∧ BlkI w' g4 53 .u32 Z8 ∧ Below w.heap.size w w' ∧ w.heap.size ≤ g2 ∧ g4 ≠ g2
section
variable {w w' w'' : World} {g2 g4 : Nat} {z : List Int}
theorem Tk5.below (h : Tk5 w g2 g4 z w') (hb : Below w'.heap.size w' w'') : Tk5 w g2 g4 z w'' := ⟨h.1.below hb h.1.lt, h.2.1.below hb h.2.1.lt, h.2.2.1.trans (hb.mono h.2.2.1.size), h.2.2.2⟩
theorem Tk5.drew (h : Tk5 w g2 g4 z w') : Tk5 w g2 g4 z w'.drew := ⟨h.1, h.2.1, h.2.2.1.drew, h.2.2.2⟩
theorem Tk5.store (h : Tk5 w g2 g4 z w') {y : List Int} (hk : BlkI w'' g2 53 .u32 y) (hb : ∀ B, B ≤ g2 → Below B w' w'') (ho : ∀ j, j ≠ g2 → w''.heap[j]? = w'.heap[j]?) : Tk5 w g2 g4 y w'' :=
  ⟨hk, h.2.1.other ho h.2.2.2.2, h.2.2.1.trans (hb _ h.2.2.2.1), h.2.2.2⟩
def Tk5W (w : World) (g2 g4 : Nat) (w' : World) : Prop := ∃ z, Tk5 w g2 g4 z w'
theorem Tk5W.bel (h : Tk5W w g2 g4 w') : Below w.heap.size w w' := by obtain ⟨z, h⟩ := h; exact h.2.2.1
end
set_option maxHeartbeats 2000000 in
theorem rtakes_c (s : List Int) (A : Option Addr) (n c : Nat) (bs : List (List Int)) (hl : s.length = 8) (hs : WIn s) (w : World) (hr : RdA .u8 64 w w.heap.size A n bs) (hb : ∀ b ∈ bs, ∀ z ∈ b, 0 ≤ z ∧ z < 256) (hn : n ≤ 1000000) :
    Calls Tryd.prog 26 #[.agg (intsA .u32 s), .slice A n c] w fun e w' => e = .returned (.agg (intsA .u32 (takesL s bs))) ∧ Below w.heap.size w w' := by
  have SR := Lib.hid (sized (takesL s bs) (takesL_len s bs hl))
  have ZR := Lib.hid (show Z8.length = (takesL s bs).length by rw [takesL_len s bs hl]; rfl)
  have HR := Lib.hid hr
  have hnl := hr.1
  clear hr
  go_enter Tryd.func26, Tryd.ntmps26
  go_wp2_with (first
    | (with_reducible refine at_any ?_; refine at_dst 2 rfl ?_; refine wpList_box_ints rfl 53 (.tmp 0) rfl .u32 s rfl ?_; intro w1 hk1 hs1 hb1)
    | (with_reducible refine at_any ?_; refine at_dst 4 rfl ?_; refine wpList_alloc_ints rfl 53 rfl .u32 Z8 zero_state ?_; intro w2 hk2 hs2 hb2))
  have HT : Tk5 w w.heap.size w1.heap.size (takesL s (bs.take 0)) w2 := by
    have q1 := hs1.out
    exact ⟨hk1.out.below hb2 hk1.out.lt, hk2.out, hb1.trans (hb2.mono hb1.size), Nat.le_refl _, by omega⟩
  obtain ⟨g2, hg2⟩ : ∃ g, w.heap.size = g := ⟨_, rfl⟩
  obtain ⟨g4, hg4⟩ : ∃ g, w1.heap.size = g := ⟨_, rfl⟩
  have HG4 := Lib.hid (show w.heap.size ≤ g4 by have := hb1.size; omega)
  have HW := Lib.hid hg2
  rw [hg2, hg4] at HT
  rw [hg2, hg4]
  have HNL := Lib.hid hnl
  clear hk1 hs1 hb1 hk2 hs2 hb2 hg2 hg4 hnl
  go_loopw [5] (fun v wr => ∃ i : Nat, i ≤ n ∧ v = .int .i64 i ∧ Tk5 w g2 g4 (takesL s (bs.take i)) wr) (fun v _ => n - (intOf v).toNat)
  case atStart => exact ⟨0, by omega, rfl, HT⟩
  case round =>
    clear HT
    obtain ⟨i, hi, rfl, HT⟩ := hrel
    by_cases hlt : i < n
    · obtain ⟨b0, off, rfl, hb0, _⟩ := HR.out.at_ hlt
      have HRG := Lib.hid (show ∀ W, Tk5W w g2 g4 W → W.rangeAt b0 (off + i * 64) ((bs.getD i []).map (Value.int .u8)) from fun W h => by
        obtain ⟨b1, off1, e1, _, h1⟩ := (HR.out.below h.bel).at_ hlt
        injection e1 with e1
        injection e1 with e1 e2
        subst e1 e2
        exact h1)
      have hil : i < bs.length := by have := HNL.out; omega
      have hnx := takesL_next s bs i hil
      have hxl := takesL_len s (bs.take i) hl
      have hxi := takesL_in s (bs.take i) hs
      have hmem : bs.getD i [] ∈ bs := by simp [List.getD, List.getElem?_eq_getElem hil]
      have hbl : (bs.getD i []).length = 64 := HR.out.2.1 _ hmem
      have hbi := hb _ hmem
      obtain ⟨x, hx⟩ : ∃ x, takesL s (bs.take i) = x := ⟨_, rfl⟩
      obtain ⟨b, hbb⟩ : ∃ b, bs.getD i [] = b := ⟨_, rfl⟩
      rw [hx] at hnx hxl hxi HT
      rw [hbb] at hnx hbl hbi HRG
      have D1 := Lib.hid (fun W => rtake_c x b hxl hxi hbl hbi W)
      have HXS := Lib.hid (sized x hxl)
      have HYS := Lib.hid (sized (takeL x b) (takeL_len x b hxl))
      have HLL := Lib.hid (show x.length = (takeL x b).length by rw [takeL_len x b hxl, hxl])
      have HBS := Lib.hid (show (Tryd.prog.info? 64).map (·.size) = some (b.map (Value.int .u8)).length by rw [List.length_map, hbl]; exact size_blk)
      have HNX := Lib.hid hnx
      have HTd := HT.drew
      have q0 : (0 : Int) ≤ (i : Int) ∧ (i : Int) < (n : Int) := by omega
      clear hnx hx hbb hxl hxi hbl hbi hmem hil
      go_wp2
      refine wp_region_held_drew (S := Tk5W w g2 g4) (by kernel_rfl) (⟨_, HTd⟩) (fun hH => ?_)
      refine held_val 1 rfl (by kernel_rfl) (by kernel_rfl) (by kernel_rfl) (fun _ _ _ _ h => h) (by rfl) (.slice (some ⟨b0, off, none⟩) n c) (fun W h => by go_simp) hH ?_
      try simp only [Act.put, List.setIfInBounds_toArray, List.set_cons_zero, List.set_cons_succ]
      refine held_val 2 rfl (by kernel_rfl) (by kernel_rfl) (by kernel_rfl) (fun _ _ _ _ h => h) (by rfl) (.int .i64 (i : Int)) (fun W h => by go_simp) hH ?_
      try simp only [Act.put, List.setIfInBounds_toArray, List.set_cons_zero, List.set_cons_succ]
      refine held_val 3 rfl (by kernel_rfl) (by kernel_rfl) (by kernel_rfl) (fun _ _ _ _ h => h) (by rfl) (.pointer (some ⟨b0, off + i * 64, none⟩)) (fun W h => by go_simp) hH ?_
      try simp only [Act.put, List.setIfInBounds_toArray, List.set_cons_zero, List.set_cons_succ]
      refine held_load_mid 4 rfl (by kernel_rfl) (by kernel_rfl) (by kernel_rfl) (fun _ _ _ _ h => h) (by rfl) 64 (.tmp 15) rfl b0 (off + i * 64) (by kernel_rfl) (b.map (Value.int .u8)) HRG.out _ Tryd.underlying64 rfl HBS.out hH ?_
      try simp only [Act.put, List.setIfInBounds_toArray, List.set_cons_zero, List.set_cons_succ]
      refine wpAnyH_ready (rs := [0]) (by kernel_rfl) (by decide) ?_
      refine AllReadyH.cons rfl (fun K hK => ?_) AllReadyH.nil
      refine step_load_ints (by rfl) 53 (.tmp 2) rfl g2 (by kernel_rfl) 53 .u32 x HTd.1 _ Tryd.underlying53 rfl HXS.out ?_
      refine hK.out _ _ hH (fun _ => ?_)
      clear hK K
      try simp only [Act.put, List.setIfInBounds_toArray, List.set_cons_zero, List.set_cons_succ]
      refine wpAnyH_ready (rs := [5]) (by kernel_rfl) (by decide) ?_
      refine AllReadyH.cons rfl (fun K hK => ?_) AllReadyH.nil
      go_simp
      refine (D1.out _).mono ?_
      rintro e w9 ⟨rfl, hbw9⟩
      have h9 := HTd.below hbw9
      refine hK.out _ _ ⟨_, h9⟩ (fun _ => ?_)
      clear hK K
      try simp only [Act.put, List.setIfInBounds_toArray, List.set_cons_zero, List.set_cons_succ]
      refine held_store 6 rfl (by kernel_rfl) (by rfl) 53 (.tmp 2) (.tmp 17) rfl g2 (by kernel_rfl) 53 .u32 x (takeL x b) (h9.1) (by kernel_rfl) (HLL.out) (HYS.out) ?_
      intro w10 hkw10 hbw10 how10
      refine ⟨⟨_, h9.store hkw10.out hbw10 how10⟩, ?_⟩
      try simp only [Act.put, List.setIfInBounds_toArray, List.set_cons_zero, List.set_cons_succ]
      refine wpAnyH_done (by kernel_rfl) ?_ _
      have HN := Lib.hid (h9.store hkw10.out hbw10 how10)
      rw [← HNX.out] at HN
      go_wp2
      go_roundw
      case rel => exact ⟨i + 1, by omega, by go_num, HN.out⟩
      case measure => simp [intOf]; omega
    · obtain rfl : i = n := by omega
      rw [List.take_of_length_le (by rw [HNL.out]; exact Nat.le_refl _)] at HT
      obtain ⟨h1, h2, h3, h4⟩ := HT
      have H1 := Lib.hid h1
      have H2 := Lib.hid h2
      clear h1 h2
      go_wp2_with (first
        | (with_reducible refine at_any ?_; refine at_dst 18 rfl ?_; refine wpList_load_ints rfl 53 (.tmp 2) rfl g2 rfl 53 .u32 (takesL s bs) H1.out _ Tryd.underlying53 rfl SR.out ?_)
        | (with_reducible refine at_any ?_; refine at_store 4 rfl ?_; refine wpList_store_ints rfl 53 (.tmp 4) (.tmp 18) rfl g4 rfl 53 .u32 Z8 (takesL s bs) H2.out rfl ZR.out SR.out ?_; intro w9 hk9 hs9 hb9 ho9)
        | (refine bodyPost_cell 4 53 rfl g4 rfl 53 .u32 (takesL s bs) hk9.out _ Tryd.underlying53 rfl SR.out rfl ?_))
      first | exact h3.trans (hb9 _ HG4.out) | (rw [← HW.out]; exact h3.trans (hb9 _ HG4.out))

/-- The slice reads as rows of bytes. -/
structure Row where
  A : Option Addr
  n : Nat
  c : Nat
  zs : List Int
def RdRows (w : World) (B : Nat) (A : Option Addr) (n : Nat) (rs : List Row) : Prop :=
  rs.length = n ∧ (0 < n → ∃ b off, A = some ⟨b, off, none⟩ ∧ b < B ∧ ∀ (j : Nat) (r : Row), rs[j]? = some r → w.cell? ⟨b, off + j, none⟩ = some (.slice r.A r.n r.c)) ∧ ∀ r ∈ rs, Rd .u8 w B r.A r.n r.zs ∧ r.n ≤ r.c
theorem RdRows.below {w w' : World} {B n : Nat} {A : Option Addr} {rs : List Row} (h : RdRows w B A n rs) (hb : Below B w w') : RdRows w' B A n rs :=
  ⟨h.1, fun hn => by
    obtain ⟨b, off, e, hlt, hc⟩ := h.2.1 hn
    exact ⟨b, off, e, hlt, fun j r hj => (hb.cell (p := ⟨b, off + j, none⟩) hlt).trans (hc j r hj)⟩, fun r hr => ⟨(h.2.2 r hr).1.below hb, (h.2.2 r hr).2⟩⟩
def joinL (rs : List Row) : List Int := (rs.map (·.zs)).flatten
theorem joinL_next (rs : List Row) (i : Nat) (r : Row) (h : rs[i]? = some r) : joinL (rs.take (i + 1)) = joinL (rs.take i) ++ r.zs := by
  obtain ⟨hi, e⟩ := List.getElem?_eq_some_iff.1 h
  unfold joinL
  rw [List.take_succ_eq_append_getElem hi, List.map_append, List.flatten_append, e]
  simp
theorem joinL_len (rs : List Row) (m : Nat) (h : ∀ r ∈ rs, r.zs.length ≤ m) : (joinL rs).length ≤ rs.length * m := by
  induction rs with
  | nil => simp [joinL]
  | cons r rs ih =>
    have h1 := h r (by simp)
    have h2 := ih fun x hx => h x (by simp [hx])
    have e : (joinL (r :: rs)).length = r.zs.length + (joinL rs).length := by simp [joinL]
    rw [e, List.length_cons, Nat.add_mul]
    omega
theorem joinL_take_len (rs : List Row) (m i : Nat) (h : ∀ r ∈ rs, r.zs.length ≤ m) : (joinL (rs.take i)).length ≤ rs.length * m := by
  have h1 := joinL_len (rs.take i) m fun r hr => h r (List.mem_of_mem_take hr)
  have h2 : (rs.take i).length ≤ rs.length := List.length_take_le' ..
  have h3 := Nat.mul_le_mul_right m h2
  omega
end Go.Proofs.YtdnjnbeoioicfaaDoor

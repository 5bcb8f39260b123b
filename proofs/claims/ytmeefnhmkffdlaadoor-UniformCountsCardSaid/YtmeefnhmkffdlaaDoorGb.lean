/-
  Texts of this claim, joined: RefF, Fact, ShaQ, RefG, RefH, RefI, RefJ, ShaM, StrmM, FxP, StrmP, SrcP, SrcM, EqA, UniP, UniM, StrmA, RefM. What each shows, and its conditions, stand at its own head.
-/
import Derived.Test.YtmeefnhmkffdlaaDoorGa
import Derived.Deep.QuietTactic
import Derived.BigQuiet
/-
  What the document's answers for layer 5 return (hash, take, Join, Sum), and that they leave memory as it was.
  Conditions: the arguments lie in their types' ranges; what is hashed is small.
-/
set_option maxRecDepth 100000
set_option linter.unusedSimpArgs false
namespace Go.Proofs.YtmeefnhmkffdlaaDoor
open Go.ChangeShapes Go.WideShapes Go.ChangeAt Go.RowKit
set_option linter.unusedVariables false
theorem zero_hash : ∀ W, (zeroValue 25).run Tryd.prog W = .ok (.agg (intsA .u8 (List.replicate 32 0))) W := (zero_of_info (n := 32) (by kernel_rfl)).1
theorem size_hash : (Tryd.prog.info? 25).map (·.size) = some 32 := by kernel_rfl
theorem size_blk : (Tryd.prog.info? 81).map (·.size) = some 64 := by kernel_rfl

set_option maxHeartbeats 1000000 in
theorem rhash_c (l : List Int) (hl : l.length = 8) (hb : ∀ z ∈ l, 0 ≤ z ∧ z < 4294967296) (w : World) :
    Calls Tryd.prog 42 #[.agg (intsA .u32 l)] w fun e w' => e = .returned (.agg (intsA .u8 (hashL l))) ∧ Below w.heap.size w w' := by
  go_enter Tryd.func42, Tryd.ntmps42
  go_wp2_with (first
    | (with_reducible refine at_any ?_; refine at_dst 1 rfl ?_; refine wpList_box_ints rfl 70 (.tmp 0) rfl .u32 l rfl ?_; intro w1 hk1 hs1 hb1)
    | (with_reducible refine at_any ?_; refine at_dst 2 rfl ?_; refine wpList_alloc_ints rfl 25 rfl .u8 (List.replicate 32 0) zero_hash ?_; intro w2 hk2 hs2 hb2)
    | (with_reducible refine at_any ?_; refine at_dst 3 rfl ?_; refine wpList_alloc_ints rfl 25 rfl .u8 (List.replicate 32 0) zero_hash ?_; intro w3 hk3 hs3 hb3))
  have HI : In3 w w.heap.size w1.heap.size w2.heap.size 70 25 25 .u32 .u8 .u8 l (List.replicate 32 0) (hashF l 0 0) w3 := by
    rw [hashF_zero]
    have q1 := hs1.out
    have q2 := hs2.out
    have q3 := hs3.out
    exact ⟨(hk1.out.below hb2 (by omega)).below hb3 (by omega), hk2.out.below hb3 (by omega), hk3.out, hb1.trans ((hb2.mono (by omega)).trans (hb3.mono (by omega))), by omega, by omega, by omega⟩
  obtain ⟨g1, hg1⟩ : ∃ g, w.heap.size = g := ⟨_, rfl⟩
  obtain ⟨g2, hg2⟩ : ∃ g, w1.heap.size = g := ⟨_, rfl⟩
  obtain ⟨g3, hg3⟩ : ∃ g, w2.heap.size = g := ⟨_, rfl⟩
  have HG2 := Lib.hid (show w.heap.size ≤ g2 by have := hb1.size; omega)
  rw [hg1, hg2, hg3] at HI
  rw [hg1, hg2, hg3]
  clear hk1 hs1 hb1 hk2 hs2 hb2 hk3 hs3 hb3
  go_loopw [4] (fun v wr => ∃ i : Nat, i ≤ 8 ∧ v = .int .i64 i ∧ In3 w g1 g2 g3 70 25 25 .u32 .u8 .u8 l (List.replicate 32 0) (hashF l i 0) wr) (fun v _ => 8 - (intOf v).toNat)
  case atStart => exact ⟨0, by omega, rfl, HI⟩
  case round =>
    clear HI
    obtain ⟨wo, rfl⟩ : ∃ wo, wo = wr := ⟨_, rfl⟩
    obtain ⟨i, hi, rfl, HI⟩ := hrel
    by_cases hlt : i < 8
    · have c0 := HI.1.cell (j := i) (by omega)
      have rx : 0 ≤ l.getD i 0 ∧ l.getD i 0 < 4294967296 := by
        have h : i < l.length := by omega
        simp [h]; exact hb _ (List.getElem_mem h)
      obtain ⟨ps, hps⟩ : ∃ ps, put4L (l.getD i 0) = ps := ⟨_, rfl⟩
      have hset : ∀ k, k < 4 → (hashF l i k).set (4 * i + k) (ps.getD k 0) = hashF l i (k + 1) := by
        intro k hk
        have := hashF_set l i k hk hlt
        rwa [hps] at this
      obtain ⟨x, hx⟩ : ∃ x, l.getD i 0 = x := ⟨_, rfl⟩
      rw [hx] at c0 rx hps
      obtain ⟨p0, p1, p2, p3, rfl⟩ : ∃ p0 p1 p2 p3, ps = [p0, p1, p2, p3] := ⟨_, _, _, _, hps.symm⟩
      have hput := fun W => rput32_c x rx.1 rx.2 W
      have hp4 : put4 x = ((put4L x).map (Value.int .u8)).toArray := rfl
      rw [hp4, hps] at hput
      have HP := Lib.hid hput
      have HSET := Lib.hid hset
      have HI' := Lib.hid HI
      clear hput hp4 hps hset hx HI
      go_wp2_with (go_at_call 50; (with_reducible refine (HP.out _).mono ?_); rintro e w4 ⟨rfl, hb4, _⟩)
      have HB5 := Lib.hid (BlkI.new w4 84 .u8 [p0, p1, p2, p3])
      have HI5 := Lib.hid ((HI'.out.below hb4).below ((Below.refl _ _).alloc (Nat.le_refl _) (Obj.cells (intsA .u8 [p0, p1, p2, p3]) 84)))
      have hne : w4.heap.size ≠ g3 := by have := (HI'.out.below hb4).2.2.1.lt; omega
      obtain ⟨W5, hW5⟩ : ∃ W5, w4.alloc (Obj.cells #[.int .u8 p0, .int .u8 p1, .int .u8 p2, .int .u8 p3] 84) = W5 := ⟨_, rfl⟩
      have hW5' : w4.alloc (Obj.cells (intsA .u8 [p0, p1, p2, p3]) 84) = W5 := hW5
      rw [hW5'] at HB5 HI5
      rw [hW5]
      obtain ⟨g5, hg5⟩ : ∃ g, w4.heap.size = g := ⟨_, rfl⟩
      rw [hg5] at HB5 hne ⊢
      clear hW5 hW5' hg5 hb4 HI' c0 rx HP
      obtain ⟨ps, hps⟩ : ∃ ps, [p0, p1, p2, p3] = ps := ⟨_, rfl⟩
      have hpl : ps.length = 4 := by rw [← hps]; rfl
      rw [hps] at HB5 HSET
      clear hps
      go_loopw [6] (fun v wq => ∃ k : Nat, k ≤ 4 ∧ v = .int .i64 k ∧ In3 w g1 g2 g3 70 25 25 .u32 .u8 .u8 l (List.replicate 32 0) (hashF l i k) wq ∧ BlkI wq g5 84 .u8 ps) (fun v _ => 4 - (intOf v).toNat)
      case atStart => exact ⟨0, by omega, rfl, HI5.out, HB5.out⟩
      case round =>
        clear HI5 HB5
        obtain ⟨k, hk, rfl, HI, HB⟩ := hrel
        by_cases hkl : k < 4
        · have c5 := HB.cell (j := k) (by omega)
          have hbl := hashF_len l i k (by omega) (by omega)
          have c3 := HI.2.2.1.cell (j := 4 * i + k) (by omega)
          have f3 := HI.2.2.1.frozen (4 * i + k)
          have HN := Lib.hid (HI.set_ (4 * i + k) (ps.getD k 0))
          rw [HSET.out k hkl] at HN
          have HBN := Lib.hid (HB.far (p := ⟨g3, 4 * i + k, none⟩) hne (.int .u8 (ps.getD k 0)))
          obtain ⟨y, hy⟩ : ∃ y, ps.getD k 0 = y := ⟨_, rfl⟩
          rw [hy] at c5 HN HBN
          clear hy HI HB hbl
          go_wp2
          go_roundw
          case rel => exact ⟨k + 1, by omega, by go_num, HN.out, HBN.out⟩
          case measure => simp [intOf]; omega
        · rw [show ((k : Nat) : Int) = 4 by omega]
          obtain rfl : k = 4 := by omega
          rw [hashF_next] at HI
          have HI' := Lib.hid HI
          clear HI hk hkl
          go_wp2
          go_roundw
          case rel => exact ⟨i + 1, by omega, by go_num, HI'.out⟩
          case measure => simp [intOf]; omega
    · rw [show ((i : Nat) : Int) = 8 by omega]
      obtain rfl : i = 8 := by omega
      rw [hashF_full] at HI
      obtain ⟨h1, h2, h3, h4, h5, h6, h7⟩ := HI
      have hpl : (hashL l).length = 32 := backTo_len l 8
      have HPL := Lib.hid hpl
      have H3 := Lib.hid h3
      have H2 := Lib.hid h2
      have hg2 : w.heap.size ≤ g2 := HG2.out
      clear hpl h1 h2 h3
      go_wp2_with (first
        | (with_reducible refine at_any ?_; refine at_dst 27 rfl ?_; refine wpList_load_ints rfl 25 (.tmp 3) rfl g3 rfl 25 .u8 (hashL l) H3.out _ Tryd.underlying25 rfl (by rw [HPL.out]; exact size_hash) ?_)
        | (with_reducible refine at_any ?_; refine at_store 2 rfl ?_; refine wpList_store_ints rfl 25 (.tmp 2) (.tmp 27) rfl g2 rfl 25 .u8 (List.replicate 32 0) (hashL l) H2.out rfl (by rw [HPL.out]; simp) (by rw [HPL.out]; exact size_hash) ?_; intro w9 hk9 hs9 hb9 ho9)
        | (refine bodyPost_cell 2 25 rfl g2 rfl 25 .u8 (hashL l) hk9.out _ Tryd.underlying25 rfl (by rw [HPL.out]; exact size_hash) rfl ?_))
      rw [← hg1]
      exact h4.trans (hb9 _ hg2)

/-- What take keeps: the state so far, and its result's place. -/
def Tk5 (w : World) (g2 g4 : Nat) (z : List Int) (w' : World) : Prop := BlkI w' g2 70 .u32 z ∧ BlkI w' g4 70 .u32 Z8 ∧ Below w.heap.size w w' ∧ w.heap.size ≤ g2 ∧ g4 ≠ g2
section
variable {w w' w'' : World} {g2 g4 : Nat} {z : List Int}
theorem Tk5.below (h : Tk5 w g2 g4 z w') (hb : Below w'.heap.size w' w'') : Tk5 w g2 g4 z w'' := ⟨h.1.below hb h.1.lt, h.2.1.below hb h.2.1.lt, h.2.2.1.trans (hb.mono h.2.2.1.size), h.2.2.2⟩
theorem Tk5.drew (h : Tk5 w g2 g4 z w') : Tk5 w g2 g4 z w'.drew := ⟨h.1, h.2.1, h.2.2.1.drew, h.2.2.2⟩
theorem Tk5.store (h : Tk5 w g2 g4 z w') {y : List Int} (hk : BlkI w'' g2 70 .u32 y) (hb : ∀ B, B ≤ g2 → Below B w' w'') (ho : ∀ j, j ≠ g2 → w''.heap[j]? = w'.heap[j]?) : Tk5 w g2 g4 y w'' :=
  ⟨hk, h.2.1.other ho h.2.2.2.2, h.2.2.1.trans (hb _ h.2.2.2.1), h.2.2.2⟩
def Tk5W (w : World) (g2 g4 : Nat) (w' : World) : Prop := ∃ z, Tk5 w g2 g4 z w'
theorem Tk5W.bel (h : Tk5W w g2 g4 w') : Below w.heap.size w w' := by obtain ⟨z, h⟩ := h; exact h.2.2.1
end
set_option maxHeartbeats 2000000 in
theorem rtakes_c (s : List Int) (A : Option Addr) (n c : Nat) (bs : List (List Int)) (hl : s.length = 8) (hs : WIn s) (w : World) (hr : RdA .u8 64 w w.heap.size A n bs) (hb : ∀ b ∈ bs, ∀ z ∈ b, 0 ≤ z ∧ z < 256) (hn : n ≤ 1000000) :
    Calls Tryd.prog 43 #[.agg (intsA .u32 s), .slice A n c] w fun e w' => e = .returned (.agg (intsA .u32 (takesL s bs))) ∧ Below w.heap.size w w' := by
  have SR := Lib.hid (sized (takesL s bs) (takesL_len s bs hl))
  have ZR := Lib.hid (show Z8.length = (takesL s bs).length by rw [takesL_len s bs hl]; rfl)
  have HR := Lib.hid hr
  have hnl := hr.1
  clear hr
  go_enter Tryd.func43, Tryd.ntmps43
  go_wp2_with (first
    | (with_reducible refine at_any ?_; refine at_dst 2 rfl ?_; refine wpList_box_ints rfl 70 (.tmp 0) rfl .u32 s rfl ?_; intro w1 hk1 hs1 hb1)
    | (with_reducible refine at_any ?_; refine at_dst 4 rfl ?_; refine wpList_alloc_ints rfl 70 rfl .u32 Z8 zero_state ?_; intro w2 hk2 hs2 hb2))
  have HT : Tk5 w w.heap.size w1.heap.size (takesL s (bs.take 0)) w2 := by
    have q1 := hs1.out
    exact ⟨hk1.out.below hb2 hk1.out.lt, hk2.out, hb1.trans (hb2.mono hb1.size), Nat.le_refl _, by omega⟩
  obtain ⟨g2, hg2⟩ : ∃ g, w.heap.size = g := ⟨_, rfl⟩
  obtain ⟨g4, hg4⟩ : ∃ g, w1.heap.size = g := ⟨_, rfl⟩
  have HG4 := Lib.hid (show w.heap.size ≤ g4 by have := hb1.size; omega)
  have HW := Lib.hid hg2
  rw [hg2, hg4] at HT
  rw [hg2, hg4]
  have HNL := Lib.hid hnl
  clear hk1 hs1 hb1 hk2 hs2 hb2 hg2 hg4 hnl
  go_loopw [5] (fun v wr => ∃ i : Nat, i ≤ n ∧ v = .int .i64 i ∧ Tk5 w g2 g4 (takesL s (bs.take i)) wr) (fun v _ => n - (intOf v).toNat)
  case atStart => exact ⟨0, by omega, rfl, HT⟩
  case round =>
    clear HT
    obtain ⟨i, hi, rfl, HT⟩ := hrel
    by_cases hlt : i < n
    · obtain ⟨b0, off, rfl, hb0, _⟩ := HR.out.at_ hlt
      have HRG := Lib.hid (show ∀ W, Tk5W w g2 g4 W → W.rangeAt b0 (off + i * 64) ((bs.getD i []).map (Value.int .u8)) from fun W h => by
        obtain ⟨b1, off1, e1, _, h1⟩ := (HR.out.below h.bel).at_ hlt
        injection e1 with e1
        injection e1 with e1 e2
        subst e1 e2
        exact h1)
      have hil : i < bs.length := by have := HNL.out; omega
      have hnx := takesL_next s bs i hil
      have hxl := takesL_len s (bs.take i) hl
      have hxi := takesL_in s (bs.take i) hs
      have hmem : bs.getD i [] ∈ bs := by simp [List.getD, List.getElem?_eq_getElem hil]
      have hbl : (bs.getD i []).length = 64 := HR.out.2.1 _ hmem
      have hbi := hb _ hmem
      obtain ⟨x, hx⟩ : ∃ x, takesL s (bs.take i) = x := ⟨_, rfl⟩
      obtain ⟨b, hbb⟩ : ∃ b, bs.getD i [] = b := ⟨_, rfl⟩
      rw [hx] at hnx hxl hxi HT
      rw [hbb] at hnx hbl hbi HRG
      have D1 := Lib.hid (fun W => rtake_c x b hxl hxi hbl hbi W)
      have HXS := Lib.hid (sized x hxl)
      have HYS := Lib.hid (sized (takeL x b) (takeL_len x b hxl))
      have HLL := Lib.hid (show x.length = (takeL x b).length by rw [takeL_len x b hxl, hxl])
      have HBS := Lib.hid (show (Tryd.prog.info? 81).map (·.size) = some (b.map (Value.int .u8)).length by rw [List.length_map, hbl]; exact size_blk)
      have HNX := Lib.hid hnx
      have HTd := HT.drew
      have q0 : (0 : Int) ≤ (i : Int) ∧ (i : Int) < (n : Int) := by omega
      clear hnx hx hbb hxl hxi hbl hbi hmem hil
      go_wp2
      refine wp_region_held_drew (S := Tk5W w g2 g4) (by kernel_rfl) (⟨_, HTd⟩) (fun hH => ?_)
      refine held_val 1 rfl (by kernel_rfl) (by kernel_rfl) (by kernel_rfl) (fun _ _ _ _ h => h) (by rfl) (.slice (some ⟨b0, off, none⟩) n c) (fun W h => by go_simp) hH ?_
      try simp only [Act.put, List.setIfInBounds_toArray, List.set_cons_zero, List.set_cons_succ]
      refine held_val 2 rfl (by kernel_rfl) (by kernel_rfl) (by kernel_rfl) (fun _ _ _ _ h => h) (by rfl) (.int .i64 (i : Int)) (fun W h => by go_simp) hH ?_
      try simp only [Act.put, List.setIfInBounds_toArray, List.set_cons_zero, List.set_cons_succ]
      refine held_val 3 rfl (by kernel_rfl) (by kernel_rfl) (by kernel_rfl) (fun _ _ _ _ h => h) (by rfl) (.pointer (some ⟨b0, off + i * 64, none⟩)) (fun W h => by go_simp) hH ?_
      try simp only [Act.put, List.setIfInBounds_toArray, List.set_cons_zero, List.set_cons_succ]
      refine held_load_mid 4 rfl (by kernel_rfl) (by kernel_rfl) (by kernel_rfl) (fun _ _ _ _ h => h) (by rfl) 81 (.tmp 15) rfl b0 (off + i * 64) (by kernel_rfl) (b.map (Value.int .u8)) HRG.out _ Tryd.underlying81 rfl HBS.out hH ?_
      try simp only [Act.put, List.setIfInBounds_toArray, List.set_cons_zero, List.set_cons_succ]
      refine wpAnyH_ready (rs := [0]) (by kernel_rfl) (by decide) ?_
      refine AllReadyH.cons rfl (fun K hK => ?_) AllReadyH.nil
      refine step_load_ints (by rfl) 70 (.tmp 2) rfl g2 (by kernel_rfl) 70 .u32 x HTd.1 _ Tryd.underlying70 rfl HXS.out ?_
      refine hK.out _ _ hH (fun _ => ?_)
      clear hK K
      try simp only [Act.put, List.setIfInBounds_toArray, List.set_cons_zero, List.set_cons_succ]
      refine wpAnyH_ready (rs := [5]) (by kernel_rfl) (by decide) ?_
      refine AllReadyH.cons rfl (fun K hK => ?_) AllReadyH.nil
      go_simp
      refine (D1.out _).mono ?_
      rintro e w9 ⟨rfl, hbw9⟩
      have h9 := HTd.below hbw9
      refine hK.out _ _ ⟨_, h9⟩ (fun _ => ?_)
      clear hK K
      try simp only [Act.put, List.setIfInBounds_toArray, List.set_cons_zero, List.set_cons_succ]
      refine held_store 6 rfl (by kernel_rfl) (by rfl) 70 (.tmp 2) (.tmp 17) rfl g2 (by kernel_rfl) 70 .u32 x (takeL x b) (h9.1) (by kernel_rfl) (HLL.out) (HYS.out) ?_
      intro w10 hkw10 hbw10 how10
      refine ⟨⟨_, h9.store hkw10.out hbw10 how10⟩, ?_⟩
      try simp only [Act.put, List.setIfInBounds_toArray, List.set_cons_zero, List.set_cons_succ]
      refine wpAnyH_done (by kernel_rfl) ?_ _
      have HN := Lib.hid (h9.store hkw10.out hbw10 how10)
      rw [← HNX.out] at HN
      go_wp2
      go_roundw
      case rel => exact ⟨i + 1, by omega, by go_num, HN.out⟩
      case measure => simp [intOf]; omega
    · obtain rfl : i = n := by omega
      rw [List.take_of_length_le (by rw [HNL.out]; exact Nat.le_refl _)] at HT
      obtain ⟨h1, h2, h3, h4⟩ := HT
      have H1 := Lib.hid h1
      have H2 := Lib.hid h2
      clear h1 h2
      go_wp2_with (first
        | (with_reducible refine at_any ?_; refine at_dst 18 rfl ?_; refine wpList_load_ints rfl 70 (.tmp 2) rfl g2 rfl 70 .u32 (takesL s bs) H1.out _ Tryd.underlying70 rfl SR.out ?_)
        | (with_reducible refine at_any ?_; refine at_store 4 rfl ?_; refine wpList_store_ints rfl 70 (.tmp 4) (.tmp 18) rfl g4 rfl 70 .u32 Z8 (takesL s bs) H2.out rfl ZR.out SR.out ?_; intro w9 hk9 hs9 hb9 ho9)
        | (refine bodyPost_cell 4 70 rfl g4 rfl 70 .u32 (takesL s bs) hk9.out _ Tryd.underlying70 rfl SR.out rfl ?_))
      first | exact h3.trans (hb9 _ HG4.out) | (rw [← HW.out]; exact h3.trans (hb9 _ HG4.out))

/-- The slice reads as rows of bytes. -/
structure Row where
  A : Option Addr
  n : Nat
  c : Nat
  zs : List Int
def RdRows (w : World) (B : Nat) (A : Option Addr) (n : Nat) (rs : List Row) : Prop :=
  rs.length = n ∧ (0 < n → ∃ b off, A = some ⟨b, off, none⟩ ∧ b < B ∧ ∀ (j : Nat) (r : Row), rs[j]? = some r → w.cell? ⟨b, off + j, none⟩ = some (.slice r.A r.n r.c)) ∧ ∀ r ∈ rs, Rd .u8 w B r.A r.n r.zs ∧ r.n ≤ r.c
theorem RdRows.below {w w' : World} {B n : Nat} {A : Option Addr} {rs : List Row} (h : RdRows w B A n rs) (hb : Below B w w') : RdRows w' B A n rs :=
  ⟨h.1, fun hn => by
    obtain ⟨b, off, e, hlt, hc⟩ := h.2.1 hn
    exact ⟨b, off, e, hlt, fun j r hj => (hb.cell (p := ⟨b, off + j, none⟩) hlt).trans (hc j r hj)⟩, fun r hr => ⟨(h.2.2 r hr).1.below hb, (h.2.2 r hr).2⟩⟩
def joinL (rs : List Row) : List Int := (rs.map (·.zs)).flatten
theorem joinL_next (rs : List Row) (i : Nat) (r : Row) (h : rs[i]? = some r) : joinL (rs.take (i + 1)) = joinL (rs.take i) ++ r.zs := by
  obtain ⟨hi, e⟩ := List.getElem?_eq_some_iff.1 h
  unfold joinL
  rw [List.take_succ_eq_append_getElem hi, List.map_append, List.flatten_append, e]
  simp
theorem joinL_len (rs : List Row) (m : Nat) (h : ∀ r ∈ rs, r.zs.length ≤ m) : (joinL rs).length ≤ rs.length * m := by
  induction rs with
  | nil => simp [joinL]
  | cons r rs ih =>
    have h1 := h r (by simp)
    have h2 := ih fun x hx => h x (by simp [hx])
    have e : (joinL (r :: rs)).length = r.zs.length + (joinL rs).length := by simp [joinL]
    rw [e, List.length_cons, Nat.add_mul]
    omega
theorem joinL_take_len (rs : List Row) (m i : Nat) (h : ∀ r ∈ rs, r.zs.length ≤ m) : (joinL (rs.take i)).length ≤ rs.length * m := by
  have h1 := joinL_len (rs.take i) m fun r hr => h r (List.mem_of_mem_take hr)
  have h2 : (rs.take i).length ≤ rs.length := List.length_take_le' ..
  have h3 := Nat.mul_le_mul_right m h2
  omega
end Go.Proofs.YtmeefnhmkffdlaaDoor
/-
  What is known of memory, as a list: blocks known whole, slices that read as lists, rows of slices; it stays while calls leave old memory as it was. Steps by hand inside a region that draws its order.
  Conditions: those that each theorem names.
-/
set_option maxRecDepth 100000
set_option linter.unusedVariables false
set_option linter.unusedSimpArgs false
namespace Go.Proofs.YtmeefnhmkffdlaaDoor
open Go.ChangeShapes Go.WideShapes Go.ChangeAt Go.RowKit
inductive Fact where
  | blk (g : Nat) (t : TypeId) (cs : Array Value)
  | rd (k : IntKind) (A : Option Addr) (n : Nat) (zs : List Int)
  | rows (A : Option Addr) (n : Nat) (rs : List Row)
  | bel (w : World)
  | rdb (k : IntKind) (B : Nat) (A : Option Addr) (n : Nat) (zs : List Int)
def Fact.on : Fact → World → Prop
  | .blk g t cs, w => Blk w g t cs
  | .rd k A n zs, w => Rd k w w.heap.size A n zs
  | .rows A n rs, w => RdRows w w.heap.size A n rs
  | .bel w0, w => Below w0.heap.size w0 w
  | .rdb k B A n zs, w => Rd k w B A n zs ∧ B ≤ w.heap.size
def Fx : List Fact → World → Prop
  | [], _ => True
  | f :: l, w => f.on w ∧ Fx l w
theorem RdRows.monoB {w : World} {B B' n : Nat} {A : Option Addr} {rs : List Row} (h : RdRows w B A n rs) (hB : B ≤ B') : RdRows w B' A n rs :=
  ⟨h.1, fun hn => by
    obtain ⟨b, off, e, hlt, hc⟩ := h.2.1 hn
    exact ⟨b, off, e, by omega, hc⟩, fun r hr => ⟨(h.2.2 r hr).1.mono hB, (h.2.2 r hr).2⟩⟩
theorem Fact.below {f : Fact} {w w' : World} (h : f.on w) (hb : Below w.heap.size w w') : f.on w' := by
  cases f with
  | blk g t cs => exact Blk.below h hb (Blk.lt h)
  | rd k A n zs => exact (Rd.below h hb).fit
  | rows A n rs => exact (RdRows.below h hb).monoB hb.size
  | bel w0 => exact Below.trans h (hb.mono (Below.size h))
  | rdb k B A n zs => exact ⟨Rd.below h.1 (hb.mono h.2), Nat.le_trans h.2 hb.size⟩
theorem Fx.below {l : List Fact} {w w' : World} (h : Fx l w) (hb : Below w.heap.size w w') : Fx l w' := by
  induction l with
  | nil => exact trivial
  | cons f l ih => exact ⟨Fact.below h.1 hb, ih h.2⟩
theorem Fx.drew {l : List Fact} {w : World} (h : Fx l w) : Fx l w.drew := h.below (Below.refl _ _).drew
theorem Fx.alloc {l : List Fact} {w : World} (h : Fx l w) (o : Obj) : Fx l (w.alloc o) := h.below ((Below.refl _ _).alloc (Nat.le_refl _) o)
theorem Fx.app {l l' : List Fact} {w : World} (h : Fx l w) (h' : Fx l' w) : Fx (l ++ l') w := by
  induction l with
  | nil => exact h'
  | cons f l ih => exact ⟨h.1, ih h.2⟩
/-- No integer of this kind among the cells. -/
def NoInt (k : IntKind) (cs : Array Value) : Prop := ∀ (j : Nat) (z : Int), cs[j]? ≠ some (.int k z)
/-- A slice of integers lies apart from a block that holds none of their kind. -/
theorem Rd.apartB {k : IntKind} {w w' : World} {A : Option Addr} {n g : Nat} {t : TypeId} {cs : Array Value} {zs : List Int} (h : Rd k w w.heap.size A n zs) (hb : Blk w g t cs) (hno : NoInt k cs) (hs : w.heap.size ≤ w'.heap.size) (ho : ∀ j, j ≠ g → w'.heap[j]? = w.heap[j]?) : Rd k w' w'.heap.size A n zs := by
  refine ⟨h.1, fun hn => ?_⟩
  obtain ⟨b, off, e, hlt, hc⟩ := h.2 hn
  have hne : b ≠ g := by
    rintro rfl
    have h0 := hc 0 hn
    rw [hb.cell] at h0
    exact hno _ _ h0
  refine ⟨b, off, e, by omega, fun j hj => ?_⟩
  rw [World.cell?_of_block (w := w) (w' := w') (a := ⟨b, off + j, none⟩) (ho b hne)]
  exact hc j hj
/-- What is known lies apart from the block g, whose cells are cs. -/
def Fact.off (g : Nat) (cs : Array Value) : Fact → Prop
  | .blk g' _ _ => g' ≠ g
  | .rd k _ _ _ => NoInt k cs
  | .rows _ n _ => n = 0
  | .bel w0 => w0.heap.size ≤ g
  | .rdb _ B _ _ _ => B ≤ g
def Fx.off (g : Nat) (cs : Array Value) : List Fact → Prop
  | [] => True
  | f :: l => f.off g cs ∧ Fx.off g cs l
theorem Fx.store {l : List Fact} {w w' : World} {g : Nat} {t : TypeId} {cs : Array Value} (h : Fx l w) (hk : Blk w g t cs) (ha : Fx.off g cs l) (hs : w'.heap.size = w.heap.size) (hb : ∀ B, B ≤ g → Below B w w') (ho : ∀ j, j ≠ g → w'.heap[j]? = w.heap[j]?) : Fx l w' := by
  induction l with
  | nil => exact trivial
  | cons f l ih =>
    refine ⟨?_, ih h.2 ha.2⟩
    have h1 := h.1
    have h2 := ha.1
    cases f with
    | blk g' t' cs' => exact Blk.other h1 ho h2
    | rd k A n zs => exact Rd.apartB h1 hk h2 (by omega) ho
    | rows A n rs =>
      have h3 : n = 0 := h2
      subst h3
      have h4 : rs.length = 0 := h1.1
      exact ⟨h4, fun hn => absurd hn (by omega), fun r hr => by rw [List.eq_nil_of_length_eq_zero h4] at hr; cases hr⟩
    | bel w0 => exact Below.trans h1 (hb _ h2)
    | rdb k B A n zs => exact ⟨Rd.below h1.1 (hb _ h2), by rw [hs]; exact h1.2⟩
end Go.Proofs.YtmeefnhmkffdlaaDoor
/-
  Hashes as lists of numbers: a padded message's blocks; what a writer has taken, and what it makes of more.
  Conditions: those that each theorem names.
-/
set_option maxRecDepth 100000
namespace Go.Proofs.YtmeefnhmkffdlaaDoor
open Go.ChangeShapes Go.WideShapes Go.ChangeAt Go.RowKit
theorem padL_eq5 (b : List Int) : padL b = b ++ (128 :: (List.replicate (zer (b.length % 64)) 0 ++ put8L (8 * b.length))) := by
  have hd : (b.drop (b.length - b.length % 64)).length = b.length % 64 := by rw [List.length_drop]; omega
  unfold padL tailL
  rw [hd, ← List.append_assoc, ← List.append_assoc, List.take_append_drop]
  simp
theorem padL_len5 (b : List Int) : (padL b).length = 64 * ((b.length + 72) / 64) := by
  rw [padL_eq5, List.length_append, List.length_cons, List.length_append, List.length_replicate, show ∀ x, (put8L x).length = 8 from fun _ => rfl]
  unfold zer
  split <;> omega
theorem put8L_in (x : Int) (h0 : 0 ≤ x) (h1 : x < 18446744073709551616) : ∀ z ∈ put8L x, 0 ≤ z ∧ z < 256 := by
  intro z hz
  simp only [put8L, List.mem_cons, List.not_mem_nil, or_false] at hz
  rcases hz with h | h | h | h | h | h | h | h <;> subst h <;> omega
theorem tailL_in (r : List Int) (n : Int) (hr : ∀ z ∈ r, 0 ≤ z ∧ z < 256) (n0 : 0 ≤ n) (n1 : n < 2305843009213693952) : ∀ z ∈ tailL r n, 0 ≤ z ∧ z < 256 := by
  intro z hz
  unfold tailL at hz
  rcases List.mem_append.1 hz with h | h
  · rcases List.mem_append.1 h with h | h
    · exact hr z h
    · rcases List.mem_cons.1 h with h | h
      · omega
      · have := List.eq_of_mem_replicate h; omega
  · exact put8L_in _ (by omega) (by omega) z h
theorem padL_in (b : List Int) (hb : ∀ z ∈ b, 0 ≤ z ∧ z < 256) (hl : b.length < 2305843009213693952) : ∀ z ∈ padL b, 0 ≤ z ∧ z < 256 := by
  intro z hz
  unfold padL at hz
  rcases List.mem_append.1 hz with h | h
  · exact hb z (List.mem_of_mem_take h)
  · exact tailL_in _ _ (fun y hy => hb y (List.mem_of_mem_drop hy)) (by omega) (by omega) z h
theorem cutN_in (zs : List Int) (q : Nat) (hz : ∀ z ∈ zs, 0 ≤ z ∧ z < 256) : ∀ b ∈ cutN zs q, ∀ z ∈ b, 0 ≤ z ∧ z < 256 := by
  intro b hb z h
  unfold cutN at hb
  obtain ⟨i, _, rfl⟩ := List.mem_map.1 hb
  exact hz z (List.mem_of_mem_drop (List.mem_of_mem_take h))
theorem cutN_length (zs : List Int) (q : Nat) : (cutN zs q).length = q := by simp [cutN]
theorem cutN_append (x y : List Int) (m k : Nat) (hx : x.length = 64 * m) : cutN (x ++ y) (m + k) = cutN x m ++ cutN y k := by
  unfold cutN
  rw [List.range_add, List.map_append, List.map_map]
  congr 1
  · apply List.map_congr_left
    intro i hi
    have := List.mem_range.1 hi
    rw [List.drop_append_of_le_length (by omega), List.take_append_of_le_length (by rw [List.length_drop]; omega)]
  · apply List.map_congr_left
    intro j _
    simp only [Function.comp]
    rw [List.drop_append, List.drop_eq_nil_of_le (by omega), List.nil_append, show 64 * (m + j) - x.length = 64 * j by omega]
theorem cutN_take (zs : List Int) (q : Nat) : cutN (zs.take (64 * q)) q = cutN zs q := by
  unfold cutN
  apply List.map_congr_left
  intro i hi
  have := List.mem_range.1 hi
  rw [List.drop_take, List.take_take, show min 64 (64 * q - 64 * i) = 64 by omega]
/-- The hash of a message. -/
def shaL (b : List Int) : List Int := hashL (takesL startL (cutN (padL b) ((padL b).length / 64)))
theorem shaL_len (b : List Int) : (shaL b).length = 32 := hashL_len _
theorem shaL_in (b : List Int) : ∀ z ∈ shaL b, 0 ≤ z ∧ z < 256 := hashL_in _ (takesL_in _ _ startL_in)
/-- What a writer that has taken zs has: its state and its rest. -/
def wrS (zs : List Int) : List Int := takesL startL (cutN zs (zs.length / 64))
def wrR (zs : List Int) : List Int := zs.drop (64 * (zs.length / 64))
theorem wrR_len (zs : List Int) : (wrR zs).length = zs.length % 64 := by unfold wrR; rw [List.length_drop]; omega
theorem wrS_len (zs : List Int) : (wrS zs).length = 8 := takesL_len _ _ rfl
theorem wrS_in (zs : List Int) : WIn (wrS zs) := takesL_in _ _ startL_in
theorem wrR_in (zs : List Int) (hz : ∀ z ∈ zs, 0 ≤ z ∧ z < 256) : ∀ z ∈ wrR zs, 0 ≤ z ∧ z < 256 := fun z h => hz z (List.mem_of_mem_drop h)
/-- What a state and a rest make of more bytes. -/
def nextS (s r b : List Int) : List Int := takesL s (cutN (r ++ b) ((r ++ b).length / 64))
def nextR (r b : List Int) : List Int := (r ++ b).drop (64 * ((r ++ b).length / 64))
/-- What they hash to behind n bytes. -/
def finL (s r : List Int) (n : Int) : List Int := hashL (takesL s (cutN (tailL r n) ((tailL r n).length / 64)))
theorem wr_split (zs b : List Int) : zs ++ b = zs.take (64 * (zs.length / 64)) ++ (wrR zs ++ b) := by
  unfold wrR
  rw [← List.append_assoc, List.take_append_drop]
theorem wr_parts (zs b : List Int) : (zs ++ b).length / 64 = zs.length / 64 + (wrR zs ++ b).length / 64 := by
  rw [List.length_append, List.length_append, wrR_len]; omega
theorem wrS_next (zs b : List Int) : wrS (zs ++ b) = nextS (wrS zs) (wrR zs) b := by
  unfold wrS nextS
  rw [wr_parts, ← takesL_append, ← cutN_take zs, ← cutN_append _ _ _ _ (by rw [List.length_take]; omega), ← wr_split]
theorem wrR_next (zs b : List Int) : wrR (zs ++ b) = nextR (wrR zs) b := by
  have h := wr_parts zs b
  have e := wr_split zs b
  obtain ⟨m, hm⟩ : ∃ m, wrR zs ++ b = m := ⟨_, rfl⟩
  rw [show wrR (zs ++ b) = (zs ++ b).drop (64 * ((zs ++ b).length / 64)) from rfl, show nextR (wrR zs) b = (wrR zs ++ b).drop (64 * ((wrR zs ++ b).length / 64)) from rfl, h, hm]
  rw [hm] at e
  rw [e, List.drop_append, List.drop_eq_nil_of_le (by rw [List.length_take]; omega), List.nil_append, List.length_take]
  congr 1
  omega
theorem sha_fin (zs : List Int) : finL (wrS zs) (wrR zs) zs.length = shaL zs := by
  have hp : padL zs = zs.take (64 * (zs.length / 64)) ++ tailL (wrR zs) zs.length := by
    unfold padL wrR
    rw [show zs.length - zs.length % 64 = 64 * (zs.length / 64) by omega]
  have hl : (padL zs).length / 64 = zs.length / 64 + (tailL (wrR zs) zs.length).length / 64 := by
    rw [hp, List.length_append, List.length_take]; omega
  unfold finL shaL
  rw [hl, hp, cutN_append _ _ _ _ (by rw [List.length_take]; omega), takesL_append, cutN_take]
  rfl
theorem sha_nil : wrS [] = startL ∧ wrR [] = [] := ⟨rfl, rfl⟩
end Go.Proofs.YtmeefnhmkffdlaaDoor
/-
  What the document's answers for layer 5 return (Sum, New, Right, Write, Finish), and that they leave memory as it was.
  Conditions: the arguments lie in their types' ranges; what is hashed is small.
-/
set_option maxRecDepth 100000
set_option linter.unusedSimpArgs false
namespace Go.Proofs.YtmeefnhmkffdlaaDoor
open Go.ChangeShapes Go.WideShapes Go.ChangeAt Go.RowKit
set_option linter.unusedVariables false
theorem OwnI.cap {w : World} {base : Nat} {e : TypeId} {k : IntKind} {A : Option Addr} {n c : Nat} {zs : List Int} (h : OwnI w base e k (.slice A n c) zs) : n ≤ c ∧ zs.length = n := by
  obtain ⟨A', c', e', h1, h2⟩ := h.form
  injection e' with e1 e2 e3
  subst e2 e3
  exact ⟨h1, rfl⟩
/-! ### a writer as a value -/
def wrV (s : List Int) (A : Option Addr) (r c : Nat) (n : Int) : Array Value := (s.map (Value.int .u32) ++ [Value.slice A r c, Value.int .u64 n]).toArray
theorem wrV_size (s : List Int) (hl : s.length = 8) (A : Option Addr) (r c : Nat) (n : Int) : (wrV s A r c n).size = 10 := by simp [wrV, hl]
theorem wrV_ones (s : List Int) (A : Option Addr) (r c : Nat) (n : Int) : (wrV s A r c n).all (·.oneCell') = true := all_oneCell_toArray (by
  intro u hu
  rcases List.mem_append.1 hu with h | h
  · exact ints_one .u32 s u h
  · simp only [List.mem_cons, List.not_mem_nil, or_false] at h
    rcases h with h | h <;> subst h <;> rfl)
theorem wrV_rest (s : List Int) (hl : s.length = 8) (A : Option Addr) (r c : Nat) (n : Int) : (wrV s A r c n)[8]? = some (.slice A r c) := by
  unfold wrV
  rw [List.getElem?_toArray, List.getElem?_append_right (by simp; omega)]
  simp [hl]
theorem wrV_bytes (s : List Int) (hl : s.length = 8) (A : Option Addr) (r c : Nat) (n : Int) : (wrV s A r c n)[9]? = some (.int .u64 n) := by
  unfold wrV
  rw [List.getElem?_toArray, List.getElem?_append_right (by simp; omega)]
  simp [hl]
theorem wrV_state {w : World} {g : Nat} {t : TypeId} {s : List Int} {A : Option Addr} {r c : Nat} {n : Int} (h : Blk w g t (wrV s A r c n)) : w.rangeAt g 0 (s.map (Value.int .u32)) := by
  intro j v hv
  rw [Nat.zero_add, h.cell]
  unfold wrV
  rw [List.getElem?_toArray]
  have hj : j < (s.map (Value.int .u32)).length := by
    rcases Nat.lt_or_ge j (s.map (Value.int .u32)).length with h1 | h1
    · exact h1
    · rw [List.getElem?_eq_none h1] at hv; cases hv
  rw [List.getElem?_append_left hj]
  exact hv
theorem size_wr : (Tryd.prog.info? 77).map (·.size) = some 10 := by kernel_rfl
theorem zero_wr : ∀ W, (zeroValue 77).run Tryd.prog W = .ok (.agg (wrV Z8 none 0 0 0)) W := (zero_of_info (n := 10) (by kernel_rfl)).1
theorem sizedW (s : List Int) (hl : s.length = 8) (A : Option Addr) (r c : Nat) (n : Int) : (Tryd.prog.info? 77).map (·.size) = some (wrV s A r c n).size := by rw [wrV_size s hl]; exact size_wr
theorem sizedWL (s : List Int) (hl : s.length = 8) (A : Option Addr) (r c : Nat) (n : Int) : (Tryd.prog.info? 77).map (·.size) = some (wrV s A r c n).toList.length := by rw [Array.length_toList]; exact sizedW s hl A r c n
theorem run_build_wr (s0 s1 s2 s3 s4 s5 s6 s7 : Int) (A : Option Addr) (r c : Nat) (n : Int) (w : World) :
    (Instr.build 77 #[(0, .agg #[.int .u32 s0, .int .u32 s1, .int .u32 s2, .int .u32 s3, .int .u32 s4, .int .u32 s5, .int .u32 s6, .int .u32 s7]), (1, .slice A r c), (2, .int .u64 n)]).run Tryd.prog w = .ok (.agg #[.int .u32 s0, .int .u32 s1, .int .u32 s2, .int .u32 s3, .int .u32 s4, .int .u32 s5, .int .u32 s6, .int .u32 s7, .slice A r c, .int .u64 n]) w := by
  go_simp
theorem build_wr {a : Act} {o : Oper} {x y z : Operand} (w : World) (s : List Int) (hl : s.length = 8) (A : Option Addr) (r c : Nat) (n : Int) (ho : o.op = .build 77 #[(0, x), (1, y), (2, z)]) (hx : a.eval x = .agg (intsA .u32 s)) (hy : a.eval y = .slice A r c) (hz : a.eval z = .int .u64 n) :
    (execOp a.eval o).run Tryd.prog w = .ok (.value (.agg (wrV s A r c n))) w := by
  rw [list8 s hl] at hx ⊢
  have h := run_build_wr (s.getD 0 0) (s.getD 1 0) (s.getD 2 0) (s.getD 3 0) (s.getD 4 0) (s.getD 5 0) (s.getD 6 0) (s.getD 7 0) A r c n w
  unfold execOp
  simp only [ho, List.map_toArray, List.map_cons, List.map_nil, hx, hy, hz]
  change ((Instr.build 77 #[(0, .agg #[.int .u32 (s.getD 0 0), .int .u32 (s.getD 1 0), .int .u32 (s.getD 2 0), .int .u32 (s.getD 3 0), .int .u32 (s.getD 4 0), .int .u32 (s.getD 5 0), .int .u32 (s.getD 6 0), .int .u32 (s.getD 7 0)]), (1, .slice A r c), (2, .int .u64 n)]) >>= fun v => pure (Next.value v)).run Tryd.prog w = _
  simp only [Sem.run_bind, h, Result.andThen_ok, Sem.run_pure]
  rfl
set_option maxHeartbeats 1000000 in
theorem rsum_c (A : Option Addr) (c L : Nat) (b : List Int) (w : World) (hr : Rd .u8 w w.heap.size A L b) (hc : L ≤ c) (hL : L ≤ 100000) (hbb : ∀ z ∈ b, 0 ≤ z ∧ z < 256) :
    Calls Tryd.prog 37 #[.slice A L c] w fun e w' => e = .returned (.agg (intsA .u8 (shaL b))) ∧ Below w.heap.size w w' := by
  have hpl := padL_len5 b
  have hlen := hr.len
  have hpi := padL_in b hbb (by omega)
  have hpc := rpad_c A c L b
  obtain ⟨P, hP⟩ : ∃ P, padL b = P := ⟨_, rfl⟩
  obtain ⟨q, hq⟩ : ∃ q, P.length / 64 = q := ⟨_, rfl⟩
  obtain ⟨BS, hBS⟩ : ∃ BS, cutN P q = BS := ⟨_, rfl⟩
  have hR : shaL b = hashL (takesL startL BS) := by unfold shaL; rw [hP, hq, hBS]
  obtain ⟨X, hX⟩ : ∃ X, takesL startL BS = X := ⟨_, rfl⟩
  obtain ⟨R, hRR⟩ : ∃ R, hashL X = R := ⟨_, rfl⟩
  rw [hX, hRR] at hR
  rw [hP] at hpl hpi hpc
  have hbi := cutN_in P q hpi
  have hbl := cutN_length P q
  rw [hBS] at hbi hbl
  have hxl : X.length = 8 := by rw [← hX]; exact takesL_len _ _ rfl
  have hxi : WIn X := by rw [← hX]; exact takesL_in _ _ startL_in
  have hrl : R.length = 32 := by rw [← hRR]; exact hashL_len X
  have HT1 := Lib.hid (fun A n c W h1 h2 => rtakes_c startL A n c BS rfl startL_in W h1 hbi h2)
  have HH1 := Lib.hid (fun W => rhash_c X hxl hxi W)
  rw [hX] at HT1
  rw [hRR] at HH1
  have HC1 := Lib.hid (fun A c W h1 h2 => rcut_c A c P.length P W h1 h2 (by omega))
  rw [hq, hBS] at HC1
  have HPL := Lib.hid hpl
  have hq1 : q ≤ 10000 := by omega
  have HPC := Lib.hid hpc
  have HRR := Lib.hid hR
  have HBL := Lib.hid hbl
  have SR := Lib.hid (show (Tryd.prog.info? 25).map (·.size) = some R.length by rw [hrl]; exact size_hash)
  have ZR := Lib.hid (show (List.replicate 32 (0 : Int)).length = R.length by rw [hrl]; simp)
  have HR0 := Lib.hid hr
  clear hpl hpi hpc hP hq hBS hR hX hRR hbi hbl hxl hxi hrl hr hlen
  go_enter Tryd.func37, Tryd.ntmps37
  go_wp2_with (first
    | (with_reducible refine at_any ?_; refine at_dst 2 rfl ?_; refine wpList_alloc_ints rfl 25 rfl .u8 (List.replicate 32 0) zero_hash ?_; intro w1 hk1 hs1 hb1; have HR1 := Lib.hid (HR0.out.below hb1).fit)
    | (go_at_call 41; (with_reducible refine (HPC.out w1 HR1.out hc (by omega)).mono ?_); rintro e w2 ⟨A2, c2, rfl, how2, hb2⟩; have hk2 := Lib.hid (hk1.out.below hb2 hk1.out.lt); have bl2 := Lib.hid (hb1.trans (hb2.mono hb1.size)); have HO2 := Lib.hid how2; clear how2)
    | (go_at_call 40; (with_reducible refine (HC1.out A2 c2 w2 (HO2.out.rd rfl) HO2.out.cap.1).mono ?_); rintro e w3 ⟨A3, c3, A4, c4, rfl, how3, hrd3, hc4, hb3⟩; have hk3 := Lib.hid (hk2.out.below hb3 hk2.out.lt); have bl3 := Lib.hid (bl2.out.trans (hb3.mono bl2.out.size)); have HO3 := Lib.hid how3; clear how3 hrd3 hc4)
    | (go_at_call 44; (with_reducible refine (rstart_c _).mono ?_); rintro e w4 ⟨rfl, hb4⟩; have hk4 := Lib.hid (hk3.out.below hb4 hk3.out.lt); have bl4 := Lib.hid (bl3.out.trans (hb4.mono bl3.out.size)); have HA4 := Lib.hid (((HO3.out.rd rfl).below hb4).mono hb4.size))
    | (go_at_call 43; (with_reducible refine (HT1.out A3 BS.length c3 w4 HA4.out (by rw [HBL.out]; omega)).mono ?_); rintro e w5 ⟨rfl, hb5⟩; have hk5 := Lib.hid (hk4.out.below hb5 hk4.out.lt); have bl5 := Lib.hid (bl4.out.trans (hb5.mono bl4.out.size)))
    | (go_at_call 42; (with_reducible refine (HH1.out w5).mono ?_); rintro e w6 ⟨rfl, hb6⟩; have hk6 := Lib.hid (hk5.out.below hb6 hk5.out.lt); have bl6 := Lib.hid (bl5.out.trans (hb6.mono bl5.out.size)))
    | (with_reducible refine at_any ?_; refine at_store 2 rfl ?_; refine wpList_store_ints rfl 25 (.tmp 2) (.tmp 14) rfl w.heap.size rfl 25 .u8 (List.replicate 32 0) R hk6.out rfl ZR.out SR.out ?_; intro w9 hk9 hs9 hb9 ho9)
    | (refine bodyPost_cell 2 25 rfl w.heap.size rfl 25 .u8 R hk9.out _ Tryd.underlying25 rfl SR.out rfl ?_))
  exact ⟨by rw [HRR.out], bl6.out.trans (hb9 _ (Nat.le_refl _))⟩
theorem run_build_new (s0 s1 s2 s3 s4 s5 s6 s7 : Int) (w : World) :
    (Instr.build 77 #[(0, .agg #[.int .u32 s0, .int .u32 s1, .int .u32 s2, .int .u32 s3, .int .u32 s4, .int .u32 s5, .int .u32 s6, .int .u32 s7])]).run Tryd.prog w = .ok (.agg #[.int .u32 s0, .int .u32 s1, .int .u32 s2, .int .u32 s3, .int .u32 s4, .int .u32 s5, .int .u32 s6, .int .u32 s7, .slice none 0 0, .int .u64 0]) w := by
  go_simp
theorem build_new {a : Act} {o : Oper} {x : Operand} (w : World) (s : List Int) (hl : s.length = 8) (ho : o.op = .build 77 #[(0, x)]) (hx : a.eval x = .agg (intsA .u32 s)) :
    (execOp a.eval o).run Tryd.prog w = .ok (.value (.agg (wrV s none 0 0 0))) w := by
  rw [list8 s hl] at hx ⊢
  have h := run_build_new (s.getD 0 0) (s.getD 1 0) (s.getD 2 0) (s.getD 3 0) (s.getD 4 0) (s.getD 5 0) (s.getD 6 0) (s.getD 7 0) w
  unfold execOp
  simp only [ho, List.map_toArray, List.map_cons, List.map_nil, hx]
  change ((Instr.build 77 #[(0, .agg #[.int .u32 (s.getD 0 0), .int .u32 (s.getD 1 0), .int .u32 (s.getD 2 0), .int .u32 (s.getD 3 0), .int .u32 (s.getD 4 0), .int .u32 (s.getD 5 0), .int .u32 (s.getD 6 0), .int .u32 (s.getD 7 0)])]) >>= fun v => pure (Next.value v)).run Tryd.prog w = _
  simp only [Sem.run_bind, h, Result.andThen_ok, Sem.run_pure]
  rfl
def rightB (r : Nat) (n : Int) : Bool := decide (n < 2305843009213693952 ∧ (r : Int) = n % 64)
end Go.Proofs.YtmeefnhmkffdlaaDoor
/-
  What the document's answers for layer 5 return (Write, Finish), and that they leave memory as it was.
  Conditions: the arguments lie in their types' ranges; what is hashed is small.
-/
set_option maxRecDepth 100000
set_option linter.unusedSimpArgs false
namespace Go.Proofs.YtmeefnhmkffdlaaDoor
open Go.ChangeShapes Go.WideShapes Go.ChangeAt Go.RowKit
set_option linter.unusedVariables false
section
variable {P : Program} {w w' : World} {ops : Array Oper} {rest : List Oper} {o : Oper} {a : Act} {Q : Exit → Act → World → Prop}
theorem wpList_load_blk (hgd : o.guard = none) (ty : TypeId) (x : Operand) (ho : o.op = .load ty x) (g : Nat) (hx : a.eval x = .pointer (some ⟨g, 0, none⟩)) (t : TypeId) (cs : Array Value) (hb : Blk w g t cs)
    (d : TypeDesc) (hu : P.underlying ty = some d) (hd : d.isRow = true) (hi : (P.info? ty).map (·.size) = some cs.size)
    (h : wpList P ops Q rest (a.put o.dst (.agg cs)) w) : wpList P ops Q (o :: rest) a w :=
  wpList_load_mid hgd ty x ho g 0 hx cs.toList d hb.range hu hd (by rw [Array.length_toList]; exact hi) (by rw [Array.toArray_toList]; exact h)
end
theorem Rd.other {k : IntKind} {w w' : World} {B n r : Nat} {A : Option Addr} {zs : List Int} (h : Rd k w B A n zs) (ho : ∀ j, j ≠ r → w'.heap[j]? = w.heap[j]?) (hne : ∀ b off, 0 < n → A = some ⟨b, off, none⟩ → b ≠ r) : Rd k w' B A n zs :=
  ⟨h.1, fun hn => by
    obtain ⟨b, off, e, hb, hc⟩ := h.2 hn
    refine ⟨b, off, e, hb, fun j hj => ?_⟩
    rw [← hc j hj]
    simp only [World.cell?, ho b (hne b off hn e)]⟩
theorem wrV_kind (s : List Int) (A : Option Addr) (r c : Nat) (n : Int) (j : Nat) (z : Int) : (wrV s A r c n)[j]? ≠ some (.int .u8 z) := by
  intro h
  unfold wrV at h
  rw [List.getElem?_toArray] at h
  rcases List.mem_append.1 (List.mem_of_getElem? h) with h1 | h1
  · obtain ⟨x, _, hx⟩ := List.mem_map.1 h1
    injection hx with h2 h3
    cases h2
  · simp at h1
theorem Rd.apart {w : World} {B n g : Nat} {A : Option Addr} {zs : List Int} {t : TypeId} {s : List Int} {A' : Option Addr} {r c : Nat} {m : Int} (h : Rd .u8 w B A n zs) (hk : Blk w g t (wrV s A' r c m)) : ∀ b off, 0 < n → A = some ⟨b, off, none⟩ → b ≠ g := by
  intro b off hn e hbg
  obtain ⟨b1, off1, e1, _, hc⟩ := h.2 hn
  rw [e] at e1
  injection e1 with e1
  injection e1 with e2 e3
  have h0 := hc 0 hn
  rw [← e2, ← e3, hbg, hk.cell] at h0
  exact wrV_kind _ _ _ _ _ _ _ h0
theorem run_build_zero (w : World) : (Instr.build 77 #[]).run Tryd.prog w = .ok (.agg #[.int .u32 0, .int .u32 0, .int .u32 0, .int .u32 0, .int .u32 0, .int .u32 0, .int .u32 0, .int .u32 0, .slice none 0 0, .int .u64 0]) w := by
  go_simp
theorem build_zero {a : Act} {o : Oper} (w : World) (ho : o.op = .build 77 #[]) : (execOp a.eval o).run Tryd.prog w = .ok (.value (.agg (wrV Z8 none 0 0 0))) w := by
  unfold execOp
  simp only [ho, List.map_toArray, List.map_nil]
  change ((Instr.build 77 #[]) >>= fun v => pure (Next.value v)).run Tryd.prog w = _
  simp only [Sem.run_bind, run_build_zero, Result.andThen_ok, Sem.run_pure]
  rfl
/-- Nothing, and the reason. -/
def RetWE (w : World) (k : Int) (e : Ending) (w' : World) : Prop := e = .returned (.tuple #[.agg (wrV Z8 none 0 0 0), .int .i64 k]) ∧ Below w.heap.size w w'
/-- A writer of this state and rest, that has taken n bytes. -/
def RetW (w : World) (s r : List Int) (n : Int) (e : Ending) (w' : World) : Prop :=
  ∃ A c, e = .returned (.tuple #[.agg (wrV s A r.length c n), .int .i64 0]) ∧ Rd .u8 w' w'.heap.size A r.length r ∧ r.length ≤ c ∧ Below w.heap.size w w'
end Go.Proofs.YtmeefnhmkffdlaaDoor
/-
  What the document's answers for layer 5 return (Finish), and that they leave memory as it was.
  Conditions: the arguments lie in their types' ranges; what is hashed is small.
-/
set_option maxRecDepth 100000
set_option linter.unusedSimpArgs false
namespace Go.Proofs.YtmeefnhmkffdlaaDoor
open Go.ChangeShapes Go.WideShapes Go.ChangeAt Go.RowKit
set_option linter.unusedVariables false
section
variable {P : Program} {w w' : World} {ops : Array Oper} {rest : List Oper} {o : Oper} {a : Act} {Q : Exit → Act → World → Prop}
theorem wpList_load_at (hgd : o.guard = none) (ty : TypeId) (x : Operand) (ho : o.op = .load ty x) (g off : Nat) (hx : a.eval x = .pointer (some ⟨g, off, none⟩)) (k : IntKind) (zs : List Int) (hb : w.rangeAt g off (zs.map (Value.int k)))
    (d : TypeDesc) (hu : P.underlying ty = some d) (hd : d.isRow = true) (hi : (P.info? ty).map (·.size) = some zs.length)
    (h : wpList P ops Q rest (a.put o.dst (.agg (intsA k zs))) w) : wpList P ops Q (o :: rest) a w :=
  wpList_load_mid hgd ty x ho g off hx (zs.map (Value.int k)) d hb hu hd (by rw [List.length_map]; exact hi) h
end
theorem run_build_hash (w : World) : (Instr.build 25 #[]).run Tryd.prog w = .ok (.agg (intsA .u8 (List.replicate 32 0))) w := by
  obtain ⟨i0, hi0, _, hs0, _⟩ := info_parts info_u8'
  have h := Tryd.underlying25
  simp [Instr.build, zero_hash, run_underlying h, Instr.fill, sizeOf, typeInfo, hi0, go_sem, Value.cells, intsA]
theorem build_hash {a : Act} {o : Oper} (w : World) (ho : o.op = .build 25 #[]) : (execOp a.eval o).run Tryd.prog w = .ok (.value (.agg (intsA .u8 (List.replicate 32 0)))) w := by
  unfold execOp
  simp only [ho, List.map_toArray, List.map_nil]
  change ((Instr.build 25 #[]) >>= fun v => pure (Next.value v)).run Tryd.prog w = _
  simp only [Sem.run_bind, run_build_hash, Result.andThen_ok, Sem.run_pure]
theorem BlkI.blk {w : World} {g : Nat} {t : TypeId} {k : IntKind} {zs : List Int} (h : BlkI w g t k zs) : Blk w g t (intsA k zs) := h
theorem hash_size (R : List Int) (hl : R.length = 32) : (Tryd.prog.info? 25).map (·.size) = some (intsA .u8 R).size := by rw [intsA_size, hl]; exact size_hash
end Go.Proofs.YtmeefnhmkffdlaaDoor
/-
  What the document's answers for layer 5 return (Same, Great), and that they leave memory as it was.
  Conditions: the arguments lie in their types' ranges.
-/
set_option maxRecDepth 100000
set_option linter.unusedSimpArgs false
namespace Go.Proofs.YtmeefnhmkffdlaaDoor
open Go.ChangeShapes Go.WideShapes Go.ChangeAt Go.RowKit
set_option linter.unusedVariables false
theorem str_rd5 {w : World} {B : Nat} {A : Option Addr} {n c : Nat} {zs : List Int} (h : Rd .u8 w B A n zs) : (convert 22 9 (.slice A n c)).run Tryd.prog w = .ok (.string (strB zs)) w :=
  run_str Tryd.underlying22 Tryd.underlying5 Tryd.underlying9 h (fun hA => by
    rcases Nat.eq_zero_or_pos n with h0 | h0
    · exact h0
    · obtain ⟨b, off, e, _⟩ := h.2 h0; rw [hA] at e; cases e)
theorem eq_state5 (zs ys : List Int) (hz : zs.length = 8) (hy : ys.length = 8) (w : World) : (Op.equalIn 10000 70 (.agg (intsA .u32 zs)) (.agg (intsA .u32 ys))).run Tryd.prog w = .ok (decide (zs = ys)) w := by
  obtain ⟨i0, hi, _, hs, _⟩ := info_parts info_u32c
  exact run_equal_ints Tryd.underlying70 Tryd.underlying45 hi hs (by kernel_rfl) zs ys hz hy w
theorem toL_eq5 {a b : ByteArray} : a.toList = b.toList ↔ a = b := by
  rw [ByteArray.toList_eq, ByteArray.toList_eq]
  constructor
  · intro h
    obtain ⟨⟨x⟩⟩ := a
    obtain ⟨⟨y⟩⟩ := b
    simp at h
    rw [h]
  · intro h; rw [h]
def sameB (s1 s2 z1 z2 : List Int) (n1 n2 : Int) : Bool := decide (s1 = s2 ∧ z1 = z2 ∧ n1 = n2)
def greatAt (rs : List Row) (i : Nat) : Bool := (rs.take i).any fun r => decide (500 < r.n)
def greatB (rs : List Row) : Bool := decide (20 < rs.length) || rs.any fun r => decide (500 < r.n)
end Go.Proofs.YtmeefnhmkffdlaaDoor
/-
  A writer that writes, in memory: its block's cells set one by one or together; what else lies there stays.
  Conditions: those that each theorem names.
-/
set_option maxRecDepth 100000
set_option linter.unusedSimpArgs false
namespace Go.Proofs.YtmeefnhmkffdlaaDoor
open Go.ChangeShapes Go.WideShapes Go.ChangeAt Go.RowKit
set_option linter.unusedVariables false
/-! ### a writer's cells -/
theorem wrV_put (s y : List Int) (hs : s.length = 8) (hy : y.length = 8) (A : Option Addr) (r c : Nat) (n : Int) : putAll (wrV s A r c n) 0 (intsA .u32 y).toList = wrV y A r c n := by
  obtain ⟨a, b, d, e, f, p, q, u, rfl⟩ : ∃ a b d e f p q u, s = [a, b, d, e, f, p, q, u] := ⟨_, _, _, _, _, _, _, _, list8 s hs⟩
  obtain ⟨a', b', d', e', f', p', q', u', rfl⟩ : ∃ a b d e f p q u, y = [a, b, d, e, f, p, q, u] := ⟨_, _, _, _, _, _, _, _, list8 y hy⟩
  simp [wrV, putAll, intsA]
theorem wrV_set9 (s : List Int) (hs : s.length = 8) (A : Option Addr) (r c : Nat) (n m : Int) : (wrV s A r c n).setIfInBounds 9 (.int .u64 m) = wrV s A r c m := by
  obtain ⟨a, b, d, e, f, p, q, u, rfl⟩ : ∃ a b d e f p q u, s = [a, b, d, e, f, p, q, u] := ⟨_, _, _, _, _, _, _, _, list8 s hs⟩
  simp [wrV]
theorem wrV_set8 (s : List Int) (hs : s.length = 8) (A A' : Option Addr) (r c r' c' : Nat) (n : Int) : (wrV s A r c n).setIfInBounds 8 (.slice A' r' c') = wrV s A' r' c' n := by
  obtain ⟨a, b, d, e, f, p, q, u, rfl⟩ : ∃ a b d e f p q u, s = [a, b, d, e, f, p, q, u] := ⟨_, _, _, _, _, _, _, _, list8 s hs⟩
  simp [wrV]
/-- A block of 64 bytes lies at q. -/
def LiesB (q : Nat) (b : List Int) (W : World) : Prop := BlkI W q 81 .u8 b
/-- A writer that writes, at g, behind the world w0: its state s, its rest r (a row of the call's own), its bytes n. -/
def Wrt (w0 : World) (g : Nat) (A : Option Addr) (c : Nat) (s r : List Int) (n : Int) (w : World) : Prop :=
  Blk w g 88 (wrV s A r.length c n) ∧ OwnI w w0.heap.size 5 .u8 (.slice A r.length c) r ∧ Below w0.heap.size w0 w ∧ w0.heap.size ≤ g
section
variable {w0 w w' : World} {g : Nat} {A : Option Addr} {c : Nat} {s r : List Int} {n : Int}
theorem Wrt.bel (h : Wrt w0 g A c s r n w) : Below w0.heap.size w0 w := h.2.2.1
theorem Wrt.size (h : Wrt w0 g A c s r n w) : w0.heap.size ≤ w.heap.size := h.2.2.1.size
theorem Wrt.lt (h : Wrt w0 g A c s r n w) : g < w.heap.size := h.1.lt
theorem Wrt.drew (h : Wrt w0 g A c s r n w) : Wrt w0 g A c s r n w.drew := ⟨h.1, h.2.1, h.2.2.1.drew, h.2.2.2⟩
theorem Wrt.below (h : Wrt w0 g A c s r n w) (hb : Below w.heap.size w w') : Wrt w0 g A c s r n w' :=
  ⟨h.1.below hb h.lt, h.2.1.below hb, h.bel.trans (hb.mono h.size), h.2.2.2⟩
theorem Wrt.only {s' : List Int} {n' : Int} (h : Wrt w0 g A c s r n w) (ho : Only g w w') (hk : Blk w' g 88 (wrV s' A r.length c n')) : Wrt w0 g A c s' r n' w' :=
  ⟨hk, h.2.1.only h.1 (by decide) ho, h.bel.trans (ho.below h.2.2.2 h.size), h.2.2.2⟩
theorem Wrt.rd (h : Wrt w0 g A c s r n w) : Rd .u8 w w.heap.size A r.length r := h.2.1.rd rfl
theorem Wrt.cap (h : Wrt w0 g A c s r n w) : r.length ≤ c := h.2.1.cap.1
theorem Wrt.cell8 (h : Wrt w0 g A c s r n w) (hs : s.length = 8) : w.cell? ⟨g, 8, none⟩ = some (.slice A r.length c) := by rw [h.1.cell]; exact wrV_rest s hs _ _ _ _
theorem Wrt.cell9 (h : Wrt w0 g A c s r n w) (hs : s.length = 8) : w.cell? ⟨g, 9, none⟩ = some (.int .u64 n) := by rw [h.1.cell]; exact wrV_bytes s hs _ _ _ _
end
theorem wrV_range {w : World} {g : Nat} {t : TypeId} {s : List Int} {A : Option Addr} {r c : Nat} {n : Int} (h : Blk w g t (wrV s A r c n)) : w.rangeAt g 0 (s.map (Value.int .u32)) := by
  intro j v hv
  rw [Nat.zero_add, h.cell]
  unfold wrV
  rw [List.getElem?_toArray]
  have hj : j < (s.map (Value.int .u32)).length := by
    rcases Nat.lt_or_ge j (s.map (Value.int .u32)).length with h1 | h1
    · exact h1
    · rw [List.getElem?_eq_none h1] at hv; cases hv
  rw [List.getElem?_append_left hj]
  exact hv
def AnyW (_ : World) : Prop := True
end Go.Proofs.YtmeefnhmkffdlaaDoor
/-
  Facts of memory kept where a row of the call's own grows; rows of three slices; an operation taken where it comes up.
  Conditions: those that each theorem names.
-/
set_option maxRecDepth 100000
set_option linter.unusedVariables false
set_option linter.unusedSimpArgs false
namespace Go.Proofs.YtmeefnhmkffdlaaDoor
open Go.ChangeShapes Go.WideShapes Go.ChangeAt Go.RowKit
/-- Kept where a row of elements e grows that lies at base or above. -/
def Fact.free (e : TypeId) (base : Nat) : Fact → Prop
  | .blk _ t _ => e ≠ t
  | .bel w0 => w0.heap.size = base
  | .rdb _ B _ _ _ => B ≤ base
  | _ => False
def Fx.free (e : TypeId) (base : Nat) : List Fact → Prop
  | [] => True
  | f :: l => f.free e base ∧ Fx.free e base l
theorem Fx.grown {l : List Fact} {w w' : World} {base : Nat} {e : TypeId} {k : IntKind} {v : Value} {zs : List Int} (h : Fx l w) (ho : OwnI w base e k v zs) (hf : Fx.free e base l) (hbase : base ≤ w.heap.size) (hg : w.grownBy w' v.ownBlock) : Fx l w' := by
  induction l with
  | nil => exact trivial
  | cons f l ih =>
    refine ⟨?_, ih h.2 hf.2⟩
    have h1 := h.1
    have h2 := hf.1
    cases f with
    | blk g t cs => exact Blk.grown h1 ho h2 hg
    | rd k A n zs => exact h2.elim
    | rows A n rs => exact h2.elim
    | bel w0 =>
      have h3 : w0.heap.size = base := h2
      subst h3
      exact ho.below_ h1 hbase hg
    | rdb k B A n zs =>
      have hb : Below base w w' := ho.below_ (Below.refl _ _) hbase hg
      exact ⟨Rd.below h1.1 (hb.mono h2), Nat.le_trans h1.2 hb.size⟩
/-! ### lists of blocks, the newest first -/
def Fact.plain : Fact → Bool
  | .blk _ _ _ => true
  | .bel _ => true
  | .rdb _ _ _ _ _ => true
  | _ => false
def Fact.under (g : Nat) : Fact → Prop
  | .blk g' _ _ => g' < g
  | .bel w0 => w0.heap.size ≤ g
  | .rdb _ B _ _ _ => B ≤ g
  | _ => False
def Fx.under (g : Nat) : List Fact → Prop
  | [] => True
  | f :: l => f.under g ∧ Fx.under g l
section
variable {l : List Fact} {f : Fact} {w w' w0 : World} {g g' : Nat} {t : TypeId} {k : IntKind} {zs ys : List Int} {cs : Array Value}
theorem Fx.box (h : BlkI w' w.heap.size t k zs) (hb : Below w.heap.size w w') : Fx [.blk w.heap.size t (intsA k zs), .bel w] w' := ⟨h, hb, trivial⟩
theorem Fx.new (h : Fx l w) (hk : BlkI w' w.heap.size t k zs) (hb : Below w.heap.size w w') : Fx (.blk w.heap.size t (intsA k zs) :: l) w' := ⟨hk, h.below hb⟩
theorem Fx.bel0 (w : World) : Fx [.bel w] w := ⟨Below.refl _ _, trivial⟩
theorem Fx.fst (h : Fx (.blk g t (intsA k zs) :: l) w) : BlkI w g t k zs := h.1
theorem Fx.fstB (h : Fx (.blk g t cs :: l) w) : Blk w g t cs := h.1
theorem Fx.tl (h : Fx (f :: l) w) : Fx l w := h.2
theorem Fx.snd (h : Fx (f :: .blk g t (intsA k zs) :: l) w) : BlkI w g t k zs := h.2.1
theorem Fx.bel1 (h : Fx [.bel w0] w) : Below w0.heap.size w0 w := h.1
theorem Fx.bel2 (h : Fx [f, .bel w0] w) : Below w0.heap.size w0 w := h.2.1
theorem Fx.bel3 {f2 : Fact} (h : Fx [f, f2, .bel w0] w) : Below w0.heap.size w0 w := h.2.2.1
theorem Fx.bel4 {f2 f3 : Fact} (h : Fx [f, f2, f3, .bel w0] w) : Below w0.heap.size w0 w := h.2.2.2.1
theorem Fx.under_new (h : Fx l w) (hp : l.all Fact.plain = true) : Fx.under w.heap.size l := by
  induction l with
  | nil => exact trivial
  | cons f l ih =>
    rw [List.all_cons, Bool.and_eq_true] at hp
    refine ⟨?_, ih h.2 hp.2⟩
    have h1 := h.1
    cases f with
    | blk g t cs => exact Blk.lt h1
    | bel w0 => exact Below.size h1
    | rdb k B A n zs => exact h1.2
    | rd k A n zs => cases hp.1
    | rows A n rs => cases hp.1
theorem Fx.off_under (h : Fx.under g l) (cs : Array Value) : Fx.off g cs l := by
  induction l with
  | nil => exact trivial
  | cons f l ih =>
    refine ⟨?_, ih h.2⟩
    have h1 := h.1
    cases f with
    | blk g' t cs => exact Nat.ne_of_lt h1
    | bel w0 => exact h1
    | rdb k B A n zs => exact h1
    | rd k A n zs => exact h1.elim
    | rows A n rs => exact h1.elim
/-- The newest block is written. -/
theorem Fx.put1 (h : Fx (.blk g t cs :: l) w) (hu : Fx.under g l) (hk : BlkI w' g t k ys) (hs : w'.heap.size = w.heap.size) (hb : ∀ B, B ≤ g → Below B w w') (ho : ∀ j, j ≠ g → w'.heap[j]? = w.heap[j]?) : Fx (.blk g t (intsA k ys) :: l) w' :=
  ⟨hk, h.2.store h.1 (Fx.off_under hu _) hs hb ho⟩
/-- The one below it is written. -/
theorem Fx.put2 {t' : TypeId} {cs' : Array Value} (h : Fx (.blk g' t' cs' :: .blk g t cs :: l) w) (hu : Fx.under g' (.blk g t cs :: l)) (hu2 : Fx.under g l) (hk : BlkI w' g t k ys) (hs : w'.heap.size = w.heap.size) (hb : ∀ B, B ≤ g → Below B w w') (ho : ∀ j, j ≠ g → w'.heap[j]? = w.heap[j]?) : Fx (.blk g' t' cs' :: .blk g t (intsA k ys) :: l) w' :=
  ⟨Blk.other h.1 ho (Nat.ne_of_gt hu.1), Fx.put1 h.2 hu2 hk hs hb ho⟩
theorem Fx.under_put (h : Fx.under g' (.blk g t cs :: l)) (cs' : Array Value) : Fx.under g' (.blk g t cs' :: l) := h
end
theorem Fx.free2 {e t : TypeId} {g : Nat} {cs : Array Value} {w : World} (h : e ≠ t) : Fx.free e w.heap.size [.blk g t cs, .bel w] := ⟨h, rfl, trivial⟩
theorem Fx.free3 {e t t2 : TypeId} {g g2 : Nat} {cs cs2 : Array Value} {w : World} (h : e ≠ t) (h2 : e ≠ t2) : Fx.free e w.heap.size [.blk g t cs, .blk g2 t2 cs2, .bel w] := ⟨h, h2, rfl, trivial⟩
section
variable {P : Program} {ops : Array Oper} {Q : Exit → Act → World → Prop} {a : Act} {w w1 : World}
/-- An operation whose value and world are known, where it comes up. -/
theorem step_run {o : Oper} {K : Act → World → Prop} {E : Prop} (d : Option Tmp) (hd : o.dst = d) (hw : Region.wanted o (yielded ops a.tmps) = true) (v : Value) (he : (execOp a.eval o).run P w = .ok (.value v) w1) (h : K (a.put d v) w1) :
    if Region.wanted o (yielded ops a.tmps) = true then Oper.wp P o a w K Q else E := by
  subst hd
  rw [if_pos hw]
  unfold Oper.wp
  rw [he]
  exact h
end
/-- Four blocks of the call's own: 8 cells, 8 cells, 32 and 32. -/
def Blk4 (w : World) (g8 g7 g6 g3 : Nat) (Y X Z s : List Int) : World → Prop := Fx [.blk g8 60 (intsA .u8 Y), .blk g7 60 (intsA .u8 X), .blk g6 25 (intsA .u8 Z), .blk g3 25 (intsA .u8 s), .bel w]
section
variable {w w1 w2 : World} {g8 g7 g6 g3 : Nat} {Y X Z s R : List Int}
theorem Blk4.below (h : Blk4 w g8 g7 g6 g3 Y X Z s w1) (hb : Below w1.heap.size w1 w2) : Blk4 w g8 g7 g6 g3 Y X Z s w2 := Fx.below h hb
theorem Blk4.drew (h : Blk4 w g8 g7 g6 g3 Y X Z s w1) : Blk4 w g8 g7 g6 g3 Y X Z s w1.drew := Fx.drew h
theorem Blk4.alloc (h : Blk4 w g8 g7 g6 g3 Y X Z s w1) (o : Obj) : Blk4 w g8 g7 g6 g3 Y X Z s (w1.alloc o) := Fx.alloc h o
theorem Blk4.grown {k : IntKind} {v : Value} {zs : List Int} (h : Blk4 w g8 g7 g6 g3 Y X Z s w1) (ho : OwnI w1 w.heap.size 5 k v zs) (hs : w.heap.size ≤ w1.heap.size) (hg : w1.grownBy w2 v.ownBlock) : Blk4 w g8 g7 g6 g3 Y X Z s w2 :=
  Fx.grown h ho ⟨show _ ≠ _ by decide, show _ ≠ _ by decide, show _ ≠ _ by decide, show _ ≠ _ by decide, rfl, trivial⟩ hs hg
theorem Blk4.c8 (h : Blk4 w g8 g7 g6 g3 Y X Z s w1) : BlkI w1 g8 60 .u8 Y := h.1
theorem Blk4.c7 (h : Blk4 w g8 g7 g6 g3 Y X Z s w1) : BlkI w1 g7 60 .u8 X := h.2.1
theorem Blk4.c6 (h : Blk4 w g8 g7 g6 g3 Y X Z s w1) : BlkI w1 g6 25 .u8 Z := h.2.2.1
theorem Blk4.c3 (h : Blk4 w g8 g7 g6 g3 Y X Z s w1) : BlkI w1 g3 25 .u8 s := h.2.2.2.1
theorem Blk4.bel (h : Blk4 w g8 g7 g6 g3 Y X Z s w1) : Below w.heap.size w w1 := h.2.2.2.2.1
/-- With whatever in the third. -/
def Blk4W (w : World) (g8 g7 g6 g3 : Nat) (Y X s : List Int) (w1 : World) : Prop := ∃ Z, Blk4 w g8 g7 g6 g3 Y X Z s w1
theorem Blk4.any (h : Blk4 w g8 g7 g6 g3 Y X Z s w1) : Blk4W w g8 g7 g6 g3 Y X s w1 := ⟨Z, h⟩
/-- The third is written. -/
theorem Blk4.put6 (h : Blk4 w g8 g7 g6 g3 Y X Z s w1) (h6 : g6 < g7) (h7 : g7 < g8) (h3 : g3 < g6) (h0 : w.heap.size ≤ g3) (hk : BlkI w2 g6 25 .u8 R) (hs : w2.heap.size = w1.heap.size) (hb : ∀ B, B ≤ g6 → Below B w1 w2) (ho : ∀ j, j ≠ g6 → w2.heap[j]? = w1.heap[j]?) : Blk4 w g8 g7 g6 g3 Y X R s w2 :=
  ⟨Blk.other h.1 ho (by omega), Blk.other h.2.1 ho (by omega), hk, Blk.other h.2.2.2.1 ho (by omega), Below.trans h.bel (hb _ (by omega)), trivial⟩
end
theorem zero_b8s : ∀ W, (zeroValue 60).run Tryd.prog W = .ok (.agg (intsA .u8 (List.replicate 8 0))) W := (zero_of_info (n := 8) (by kernel_rfl)).1
theorem size_b8s : (Tryd.prog.info? 60).map (·.size) = some 8 := by kernel_rfl
/-- Three slices in a row of their own. -/
def row3 (g1 g2 g3 n1 n2 n3 : Nat) : Array Value := #[.slice (some ⟨g1, 0, none⟩) n1 n1, .slice (some ⟨g2, 0, none⟩) n2 n2, .slice (some ⟨g3, 0, none⟩) n3 n3]
theorem rows3 {W : World} {g1 g2 g3 n1 n2 n3 : Nat} {t1 t2 t3 : TypeId} {x y z : List Int} (h1 : BlkI W g1 t1 .u8 x) (h2 : BlkI W g2 t2 .u8 y) (h3 : BlkI W g3 t3 .u8 z) (l1 : x.length = n1) (l2 : y.length = n2) (l3 : z.length = n3) :
    RdRows (W.alloc (.cells (row3 g1 g2 g3 n1 n2 n3) 22)) (W.alloc (.cells (row3 g1 g2 g3 n1 n2 n3) 22)).heap.size (some ⟨W.heap.size, 0, none⟩) 3 [⟨some ⟨g1, 0, none⟩, n1, n1, x⟩, ⟨some ⟨g2, 0, none⟩, n2, n2, y⟩, ⟨some ⟨g3, 0, none⟩, n3, n3, z⟩] := by
  subst l1 l2 l3
  have hk := Blk.new W 22 (row3 g1 g2 g3 x.length y.length z.length)
  have hb : Below W.heap.size W (W.alloc (.cells (row3 g1 g2 g3 x.length y.length z.length) 22)) := (Below.refl _ _).alloc (Nat.le_refl _) _
  have r1 := (h1.below hb h1.lt).rd
  have r2 := (h2.below hb h2.lt).rd
  have r3 := (h3.below hb h3.lt).rd
  refine ⟨rfl, fun _ => ⟨_, 0, rfl, hk.lt, fun j r hj => ?_⟩, fun r hr => ?_⟩
  · match j, hj with
    | 0, hj => injection hj with hj; subst hj; rw [hk.cell]; rfl
    | 1, hj => injection hj with hj; subst hj; rw [hk.cell]; rfl
    | 2, hj => injection hj with hj; subst hj; rw [hk.cell]; rfl
  · simp only [List.mem_cons, List.not_mem_nil, or_false] at hr
    rcases hr with rfl | rfl | rfl
    · exact ⟨r1, Nat.le_refl _⟩
    · exact ⟨r2, Nat.le_refl _⟩
    · exact ⟨r3, Nat.le_refl _⟩
theorem run_build3 (g1 g2 g3 n1 n2 n3 : Nat) (w : World) : (Instr.buildSlice 73 3 #[(0, .slice (some ⟨g1, 0, none⟩) n1 n1), (1, .slice (some ⟨g2, 0, none⟩) n2 n2), (2, .slice (some ⟨g3, 0, none⟩) n3 n3)]).run Tryd.prog w = .ok (.slice (some ⟨w.heap.size, 0, none⟩) 3 3) (w.alloc (.cells (row3 g1 g2 g3 n1 n2 n3) 22)) := by
  unfold row3
  go_simp
theorem exec_build3 {o : Oper} {a : Act} {w : World} (p q r : Operand) (g1 g2 g3 n1 n2 n3 : Nat) (ho : o.op = .buildSlice 73 3 #[(0, p), (1, q), (2, r)]) (hp : a.eval p = .slice (some ⟨g1, 0, none⟩) n1 n1) (hq : a.eval q = .slice (some ⟨g2, 0, none⟩) n2 n2) (hr : a.eval r = .slice (some ⟨g3, 0, none⟩) n3 n3) :
    (execOp a.eval o).run Tryd.prog w = .ok (.value (.slice (some ⟨w.heap.size, 0, none⟩) 3 3)) (w.alloc (.cells (row3 g1 g2 g3 n1 n2 n3) 22)) := by
  unfold execOp
  simp only [ho, List.map_toArray, List.map_cons, List.map_nil, hp, hq, hr]
  change ((Instr.buildSlice 73 3 #[(0, .slice (some ⟨g1, 0, none⟩) n1 n1), (1, .slice (some ⟨g2, 0, none⟩) n2 n2), (2, .slice (some ⟨g3, 0, none⟩) n3 n3)]) >>= fun v => pure (Next.value v)).run Tryd.prog w = _
  simp only [Sem.run_bind, run_build3, Result.andThen_ok, Sem.run_pure]
end Go.Proofs.YtmeefnhmkffdlaaDoor
/-
  Lists of facts of memory: each one by its place, what is added in front, what is written in front.
  Conditions: those that each theorem names.
-/
set_option maxRecDepth 100000
set_option linter.unusedVariables false
set_option linter.unusedSimpArgs false
namespace Go.Proofs.YtmeefnhmkffdlaaDoor
open Go.ChangeShapes Go.WideShapes Go.ChangeAt Go.RowKit
section
variable {l : List Fact} {w w' w0 : World} {g B n : Nat} {t : TypeId} {k : IntKind} {zs : List Int} {A : Option Addr} {cs ys : Array Value} {f0 : Fact} {f1 : Fact} {f2 : Fact} {f3 : Fact} {f4 : Fact} {f5 : Fact} {f6 : Fact} {f7 : Fact} {f8 : Fact} {f9 : Fact} {f10 : Fact} {f11 : Fact} {f12 : Fact} {f13 : Fact} {f14 : Fact} {f15 : Fact} {f16 : Fact} {f17 : Fact} {f18 : Fact} {f19 : Fact} {f20 : Fact} {f21 : Fact} {f22 : Fact} {f23 : Fact} {f24 : Fact} {f25 : Fact} {f26 : Fact} {f27 : Fact} {f28 : Fact} {f29 : Fact} {f30 : Fact} {f31 : Fact}
theorem Fx.newB (h : Fx l w) (hk : Blk w' w.heap.size t cs) (hb : Below w.heap.size w w') : Fx (.blk w.heap.size t cs :: l) w' := ⟨hk, h.below hb⟩
theorem Fx.addR (h : Fx l w) (hb : Below w.heap.size w w') (hr : Rd k w' w'.heap.size A n zs) : Fx (.rdb k w'.heap.size A n zs :: l) w' := ⟨⟨hr, Nat.le_refl _⟩, h.below hb⟩
theorem Fx.put1B (h : Fx (.blk g t cs :: l) w) (hu : Fx.under g l) (hk : Blk w' g t ys) (hs : w'.heap.size = w.heap.size) (hb : ∀ B, B ≤ g → Below B w w') (ho : ∀ j, j ≠ g → w'.heap[j]? = w.heap[j]?) : Fx (.blk g t ys :: l) w' :=
  ⟨hk, h.2.store h.1 (Fx.off_under hu _) hs hb ho⟩
theorem Fx.b0 (h : Fx (.blk g t cs :: l) w) : Blk w g t cs := h.1
theorem Fx.i0 (h : Fx (.blk g t (intsA k zs) :: l) w) : BlkI w g t k zs := h.1
theorem Fx.r0 (h : Fx (.rdb k B A n zs :: l) w) : Rd k w w.heap.size A n zs := h.1.1.mono h.1.2
theorem Fx.q0 (h : Fx (.rdb k B A n zs :: l) w) : Rd k w B A n zs := h.1.1
theorem Fx.e0 (h : Fx (.bel w0 :: l) w) : Below w0.heap.size w0 w := h.1
theorem Fx.b1 (h : Fx (f0 :: .blk g t cs :: l) w) : Blk w g t cs := h.2.1
theorem Fx.i1 (h : Fx (f0 :: .blk g t (intsA k zs) :: l) w) : BlkI w g t k zs := h.2.1
theorem Fx.r1 (h : Fx (f0 :: .rdb k B A n zs :: l) w) : Rd k w w.heap.size A n zs := h.2.1.1.mono h.2.1.2
theorem Fx.q1 (h : Fx (f0 :: .rdb k B A n zs :: l) w) : Rd k w B A n zs := h.2.1.1
theorem Fx.e1 (h : Fx (f0 :: .bel w0 :: l) w) : Below w0.heap.size w0 w := h.2.1
theorem Fx.b2 (h : Fx (f0 :: f1 :: .blk g t cs :: l) w) : Blk w g t cs := h.2.2.1
theorem Fx.i2 (h : Fx (f0 :: f1 :: .blk g t (intsA k zs) :: l) w) : BlkI w g t k zs := h.2.2.1
theorem Fx.r2 (h : Fx (f0 :: f1 :: .rdb k B A n zs :: l) w) : Rd k w w.heap.size A n zs := h.2.2.1.1.mono h.2.2.1.2
theorem Fx.q2 (h : Fx (f0 :: f1 :: .rdb k B A n zs :: l) w) : Rd k w B A n zs := h.2.2.1.1
theorem Fx.e2 (h : Fx (f0 :: f1 :: .bel w0 :: l) w) : Below w0.heap.size w0 w := h.2.2.1
theorem Fx.b3 (h : Fx (f0 :: f1 :: f2 :: .blk g t cs :: l) w) : Blk w g t cs := h.2.2.2.1
theorem Fx.i3 (h : Fx (f0 :: f1 :: f2 :: .blk g t (intsA k zs) :: l) w) : BlkI w g t k zs := h.2.2.2.1
theorem Fx.r3 (h : Fx (f0 :: f1 :: f2 :: .rdb k B A n zs :: l) w) : Rd k w w.heap.size A n zs := h.2.2.2.1.1.mono h.2.2.2.1.2
theorem Fx.q3 (h : Fx (f0 :: f1 :: f2 :: .rdb k B A n zs :: l) w) : Rd k w B A n zs := h.2.2.2.1.1
theorem Fx.e3 (h : Fx (f0 :: f1 :: f2 :: .bel w0 :: l) w) : Below w0.heap.size w0 w := h.2.2.2.1
theorem Fx.b4 (h : Fx (f0 :: f1 :: f2 :: f3 :: .blk g t cs :: l) w) : Blk w g t cs := h.2.2.2.2.1
theorem Fx.i4 (h : Fx (f0 :: f1 :: f2 :: f3 :: .blk g t (intsA k zs) :: l) w) : BlkI w g t k zs := h.2.2.2.2.1
theorem Fx.r4 (h : Fx (f0 :: f1 :: f2 :: f3 :: .rdb k B A n zs :: l) w) : Rd k w w.heap.size A n zs := h.2.2.2.2.1.1.mono h.2.2.2.2.1.2
theorem Fx.q4 (h : Fx (f0 :: f1 :: f2 :: f3 :: .rdb k B A n zs :: l) w) : Rd k w B A n zs := h.2.2.2.2.1.1
theorem Fx.e4 (h : Fx (f0 :: f1 :: f2 :: f3 :: .bel w0 :: l) w) : Below w0.heap.size w0 w := h.2.2.2.2.1
theorem Fx.b5 (h : Fx (f0 :: f1 :: f2 :: f3 :: f4 :: .blk g t cs :: l) w) : Blk w g t cs := h.2.2.2.2.2.1
theorem Fx.i5 (h : Fx (f0 :: f1 :: f2 :: f3 :: f4 :: .blk g t (intsA k zs) :: l) w) : BlkI w g t k zs := h.2.2.2.2.2.1
theorem Fx.r5 (h : Fx (f0 :: f1 :: f2 :: f3 :: f4 :: .rdb k B A n zs :: l) w) : Rd k w w.heap.size A n zs := h.2.2.2.2.2.1.1.mono h.2.2.2.2.2.1.2
theorem Fx.q5 (h : Fx (f0 :: f1 :: f2 :: f3 :: f4 :: .rdb k B A n zs :: l) w) : Rd k w B A n zs := h.2.2.2.2.2.1.1
theorem Fx.e5 (h : Fx (f0 :: f1 :: f2 :: f3 :: f4 :: .bel w0 :: l) w) : Below w0.heap.size w0 w := h.2.2.2.2.2.1
theorem Fx.b6 (h : Fx (f0 :: f1 :: f2 :: f3 :: f4 :: f5 :: .blk g t cs :: l) w) : Blk w g t cs := h.2.2.2.2.2.2.1
theorem Fx.i6 (h : Fx (f0 :: f1 :: f2 :: f3 :: f4 :: f5 :: .blk g t (intsA k zs) :: l) w) : BlkI w g t k zs := h.2.2.2.2.2.2.1
theorem Fx.r6 (h : Fx (f0 :: f1 :: f2 :: f3 :: f4 :: f5 :: .rdb k B A n zs :: l) w) : Rd k w w.heap.size A n zs := h.2.2.2.2.2.2.1.1.mono h.2.2.2.2.2.2.1.2
theorem Fx.q6 (h : Fx (f0 :: f1 :: f2 :: f3 :: f4 :: f5 :: .rdb k B A n zs :: l) w) : Rd k w B A n zs := h.2.2.2.2.2.2.1.1
theorem Fx.e6 (h : Fx (f0 :: f1 :: f2 :: f3 :: f4 :: f5 :: .bel w0 :: l) w) : Below w0.heap.size w0 w := h.2.2.2.2.2.2.1
theorem Fx.b7 (h : Fx (f0 :: f1 :: f2 :: f3 :: f4 :: f5 :: f6 :: .blk g t cs :: l) w) : Blk w g t cs := h.2.2.2.2.2.2.2.1
theorem Fx.i7 (h : Fx (f0 :: f1 :: f2 :: f3 :: f4 :: f5 :: f6 :: .blk g t (intsA k zs) :: l) w) : BlkI w g t k zs := h.2.2.2.2.2.2.2.1
theorem Fx.r7 (h : Fx (f0 :: f1 :: f2 :: f3 :: f4 :: f5 :: f6 :: .rdb k B A n zs :: l) w) : Rd k w w.heap.size A n zs := h.2.2.2.2.2.2.2.1.1.mono h.2.2.2.2.2.2.2.1.2
theorem Fx.q7 (h : Fx (f0 :: f1 :: f2 :: f3 :: f4 :: f5 :: f6 :: .rdb k B A n zs :: l) w) : Rd k w B A n zs := h.2.2.2.2.2.2.2.1.1
theorem Fx.e7 (h : Fx (f0 :: f1 :: f2 :: f3 :: f4 :: f5 :: f6 :: .bel w0 :: l) w) : Below w0.heap.size w0 w := h.2.2.2.2.2.2.2.1
theorem Fx.b8 (h : Fx (f0 :: f1 :: f2 :: f3 :: f4 :: f5 :: f6 :: f7 :: .blk g t cs :: l) w) : Blk w g t cs := h.2.2.2.2.2.2.2.2.1
theorem Fx.i8 (h : Fx (f0 :: f1 :: f2 :: f3 :: f4 :: f5 :: f6 :: f7 :: .blk g t (intsA k zs) :: l) w) : BlkI w g t k zs := h.2.2.2.2.2.2.2.2.1
theorem Fx.r8 (h : Fx (f0 :: f1 :: f2 :: f3 :: f4 :: f5 :: f6 :: f7 :: .rdb k B A n zs :: l) w) : Rd k w w.heap.size A n zs := h.2.2.2.2.2.2.2.2.1.1.mono h.2.2.2.2.2.2.2.2.1.2
theorem Fx.q8 (h : Fx (f0 :: f1 :: f2 :: f3 :: f4 :: f5 :: f6 :: f7 :: .rdb k B A n zs :: l) w) : Rd k w B A n zs := h.2.2.2.2.2.2.2.2.1.1
theorem Fx.e8 (h : Fx (f0 :: f1 :: f2 :: f3 :: f4 :: f5 :: f6 :: f7 :: .bel w0 :: l) w) : Below w0.heap.size w0 w := h.2.2.2.2.2.2.2.2.1
theorem Fx.b9 (h : Fx (f0 :: f1 :: f2 :: f3 :: f4 :: f5 :: f6 :: f7 :: f8 :: .blk g t cs :: l) w) : Blk w g t cs := h.2.2.2.2.2.2.2.2.2.1
theorem Fx.i9 (h : Fx (f0 :: f1 :: f2 :: f3 :: f4 :: f5 :: f6 :: f7 :: f8 :: .blk g t (intsA k zs) :: l) w) : BlkI w g t k zs := h.2.2.2.2.2.2.2.2.2.1
theorem Fx.r9 (h : Fx (f0 :: f1 :: f2 :: f3 :: f4 :: f5 :: f6 :: f7 :: f8 :: .rdb k B A n zs :: l) w) : Rd k w w.heap.size A n zs := h.2.2.2.2.2.2.2.2.2.1.1.mono h.2.2.2.2.2.2.2.2.2.1.2
theorem Fx.q9 (h : Fx (f0 :: f1 :: f2 :: f3 :: f4 :: f5 :: f6 :: f7 :: f8 :: .rdb k B A n zs :: l) w) : Rd k w B A n zs := h.2.2.2.2.2.2.2.2.2.1.1
theorem Fx.e9 (h : Fx (f0 :: f1 :: f2 :: f3 :: f4 :: f5 :: f6 :: f7 :: f8 :: .bel w0 :: l) w) : Below w0.heap.size w0 w := h.2.2.2.2.2.2.2.2.2.1
theorem Fx.b10 (h : Fx (f0 :: f1 :: f2 :: f3 :: f4 :: f5 :: f6 :: f7 :: f8 :: f9 :: .blk g t cs :: l) w) : Blk w g t cs := h.2.2.2.2.2.2.2.2.2.2.1
theorem Fx.i10 (h : Fx (f0 :: f1 :: f2 :: f3 :: f4 :: f5 :: f6 :: f7 :: f8 :: f9 :: .blk g t (intsA k zs) :: l) w) : BlkI w g t k zs := h.2.2.2.2.2.2.2.2.2.2.1
theorem Fx.r10 (h : Fx (f0 :: f1 :: f2 :: f3 :: f4 :: f5 :: f6 :: f7 :: f8 :: f9 :: .rdb k B A n zs :: l) w) : Rd k w w.heap.size A n zs := h.2.2.2.2.2.2.2.2.2.2.1.1.mono h.2.2.2.2.2.2.2.2.2.2.1.2
theorem Fx.q10 (h : Fx (f0 :: f1 :: f2 :: f3 :: f4 :: f5 :: f6 :: f7 :: f8 :: f9 :: .rdb k B A n zs :: l) w) : Rd k w B A n zs := h.2.2.2.2.2.2.2.2.2.2.1.1
theorem Fx.e10 (h : Fx (f0 :: f1 :: f2 :: f3 :: f4 :: f5 :: f6 :: f7 :: f8 :: f9 :: .bel w0 :: l) w) : Below w0.heap.size w0 w := h.2.2.2.2.2.2.2.2.2.2.1
theorem Fx.b11 (h : Fx (f0 :: f1 :: f2 :: f3 :: f4 :: f5 :: f6 :: f7 :: f8 :: f9 :: f10 :: .blk g t cs :: l) w) : Blk w g t cs := h.2.2.2.2.2.2.2.2.2.2.2.1
theorem Fx.i11 (h : Fx (f0 :: f1 :: f2 :: f3 :: f4 :: f5 :: f6 :: f7 :: f8 :: f9 :: f10 :: .blk g t (intsA k zs) :: l) w) : BlkI w g t k zs := h.2.2.2.2.2.2.2.2.2.2.2.1
theorem Fx.r11 (h : Fx (f0 :: f1 :: f2 :: f3 :: f4 :: f5 :: f6 :: f7 :: f8 :: f9 :: f10 :: .rdb k B A n zs :: l) w) : Rd k w w.heap.size A n zs := h.2.2.2.2.2.2.2.2.2.2.2.1.1.mono h.2.2.2.2.2.2.2.2.2.2.2.1.2
theorem Fx.q11 (h : Fx (f0 :: f1 :: f2 :: f3 :: f4 :: f5 :: f6 :: f7 :: f8 :: f9 :: f10 :: .rdb k B A n zs :: l) w) : Rd k w B A n zs := h.2.2.2.2.2.2.2.2.2.2.2.1.1
theorem Fx.e11 (h : Fx (f0 :: f1 :: f2 :: f3 :: f4 :: f5 :: f6 :: f7 :: f8 :: f9 :: f10 :: .bel w0 :: l) w) : Below w0.heap.size w0 w := h.2.2.2.2.2.2.2.2.2.2.2.1
theorem Fx.b12 (h : Fx (f0 :: f1 :: f2 :: f3 :: f4 :: f5 :: f6 :: f7 :: f8 :: f9 :: f10 :: f11 :: .blk g t cs :: l) w) : Blk w g t cs := h.2.2.2.2.2.2.2.2.2.2.2.2.1
theorem Fx.i12 (h : Fx (f0 :: f1 :: f2 :: f3 :: f4 :: f5 :: f6 :: f7 :: f8 :: f9 :: f10 :: f11 :: .blk g t (intsA k zs) :: l) w) : BlkI w g t k zs := h.2.2.2.2.2.2.2.2.2.2.2.2.1
theorem Fx.r12 (h : Fx (f0 :: f1 :: f2 :: f3 :: f4 :: f5 :: f6 :: f7 :: f8 :: f9 :: f10 :: f11 :: .rdb k B A n zs :: l) w) : Rd k w w.heap.size A n zs := h.2.2.2.2.2.2.2.2.2.2.2.2.1.1.mono h.2.2.2.2.2.2.2.2.2.2.2.2.1.2
theorem Fx.q12 (h : Fx (f0 :: f1 :: f2 :: f3 :: f4 :: f5 :: f6 :: f7 :: f8 :: f9 :: f10 :: f11 :: .rdb k B A n zs :: l) w) : Rd k w B A n zs := h.2.2.2.2.2.2.2.2.2.2.2.2.1.1
theorem Fx.e12 (h : Fx (f0 :: f1 :: f2 :: f3 :: f4 :: f5 :: f6 :: f7 :: f8 :: f9 :: f10 :: f11 :: .bel w0 :: l) w) : Below w0.heap.size w0 w := h.2.2.2.2.2.2.2.2.2.2.2.2.1
theorem Fx.b13 (h : Fx (f0 :: f1 :: f2 :: f3 :: f4 :: f5 :: f6 :: f7 :: f8 :: f9 :: f10 :: f11 :: f12 :: .blk g t cs :: l) w) : Blk w g t cs := h.2.2.2.2.2.2.2.2.2.2.2.2.2.1
theorem Fx.i13 (h : Fx (f0 :: f1 :: f2 :: f3 :: f4 :: f5 :: f6 :: f7 :: f8 :: f9 :: f10 :: f11 :: f12 :: .blk g t (intsA k zs) :: l) w) : BlkI w g t k zs := h.2.2.2.2.2.2.2.2.2.2.2.2.2.1
theorem Fx.r13 (h : Fx (f0 :: f1 :: f2 :: f3 :: f4 :: f5 :: f6 :: f7 :: f8 :: f9 :: f10 :: f11 :: f12 :: .rdb k B A n zs :: l) w) : Rd k w w.heap.size A n zs := h.2.2.2.2.2.2.2.2.2.2.2.2.2.1.1.mono h.2.2.2.2.2.2.2.2.2.2.2.2.2.1.2
theorem Fx.q13 (h : Fx (f0 :: f1 :: f2 :: f3 :: f4 :: f5 :: f6 :: f7 :: f8 :: f9 :: f10 :: f11 :: f12 :: .rdb k B A n zs :: l) w) : Rd k w B A n zs := h.2.2.2.2.2.2.2.2.2.2.2.2.2.1.1
theorem Fx.e13 (h : Fx (f0 :: f1 :: f2 :: f3 :: f4 :: f5 :: f6 :: f7 :: f8 :: f9 :: f10 :: f11 :: f12 :: .bel w0 :: l) w) : Below w0.heap.size w0 w := h.2.2.2.2.2.2.2.2.2.2.2.2.2.1
theorem Fx.b14 (h : Fx (f0 :: f1 :: f2 :: f3 :: f4 :: f5 :: f6 :: f7 :: f8 :: f9 :: f10 :: f11 :: f12 :: f13 :: .blk g t cs :: l) w) : Blk w g t cs := h.2.2.2.2.2.2.2.2.2.2.2.2.2.2.1
theorem Fx.i14 (h : Fx (f0 :: f1 :: f2 :: f3 :: f4 :: f5 :: f6 :: f7 :: f8 :: f9 :: f10 :: f11 :: f12 :: f13 :: .blk g t (intsA k zs) :: l) w) : BlkI w g t k zs := h.2.2.2.2.2.2.2.2.2.2.2.2.2.2.1
theorem Fx.r14 (h : Fx (f0 :: f1 :: f2 :: f3 :: f4 :: f5 :: f6 :: f7 :: f8 :: f9 :: f10 :: f11 :: f12 :: f13 :: .rdb k B A n zs :: l) w) : Rd k w w.heap.size A n zs := h.2.2.2.2.2.2.2.2.2.2.2.2.2.2.1.1.mono h.2.2.2.2.2.2.2.2.2.2.2.2.2.2.1.2
theorem Fx.q14 (h : Fx (f0 :: f1 :: f2 :: f3 :: f4 :: f5 :: f6 :: f7 :: f8 :: f9 :: f10 :: f11 :: f12 :: f13 :: .rdb k B A n zs :: l) w) : Rd k w B A n zs := h.2.2.2.2.2.2.2.2.2.2.2.2.2.2.1.1
theorem Fx.e14 (h : Fx (f0 :: f1 :: f2 :: f3 :: f4 :: f5 :: f6 :: f7 :: f8 :: f9 :: f10 :: f11 :: f12 :: f13 :: .bel w0 :: l) w) : Below w0.heap.size w0 w := h.2.2.2.2.2.2.2.2.2.2.2.2.2.2.1
theorem Fx.b15 (h : Fx (f0 :: f1 :: f2 :: f3 :: f4 :: f5 :: f6 :: f7 :: f8 :: f9 :: f10 :: f11 :: f12 :: f13 :: f14 :: .blk g t cs :: l) w) : Blk w g t cs := h.2.2.2.2.2.2.2.2.2.2.2.2.2.2.2.1
theorem Fx.i15 (h : Fx (f0 :: f1 :: f2 :: f3 :: f4 :: f5 :: f6 :: f7 :: f8 :: f9 :: f10 :: f11 :: f12 :: f13 :: f14 :: .blk g t (intsA k zs) :: l) w) : BlkI w g t k zs := h.2.2.2.2.2.2.2.2.2.2.2.2.2.2.2.1
theorem Fx.r15 (h : Fx (f0 :: f1 :: f2 :: f3 :: f4 :: f5 :: f6 :: f7 :: f8 :: f9 :: f10 :: f11 :: f12 :: f13 :: f14 :: .rdb k B A n zs :: l) w) : Rd k w w.heap.size A n zs := h.2.2.2.2.2.2.2.2.2.2.2.2.2.2.2.1.1.mono h.2.2.2.2.2.2.2.2.2.2.2.2.2.2.2.1.2
theorem Fx.q15 (h : Fx (f0 :: f1 :: f2 :: f3 :: f4 :: f5 :: f6 :: f7 :: f8 :: f9 :: f10 :: f11 :: f12 :: f13 :: f14 :: .rdb k B A n zs :: l) w) : Rd k w B A n zs := h.2.2.2.2.2.2.2.2.2.2.2.2.2.2.2.1.1
theorem Fx.e15 (h : Fx (f0 :: f1 :: f2 :: f3 :: f4 :: f5 :: f6 :: f7 :: f8 :: f9 :: f10 :: f11 :: f12 :: f13 :: f14 :: .bel w0 :: l) w) : Below w0.heap.size w0 w := h.2.2.2.2.2.2.2.2.2.2.2.2.2.2.2.1
theorem Fx.b16 (h : Fx (f0 :: f1 :: f2 :: f3 :: f4 :: f5 :: f6 :: f7 :: f8 :: f9 :: f10 :: f11 :: f12 :: f13 :: f14 :: f15 :: .blk g t cs :: l) w) : Blk w g t cs := h.2.2.2.2.2.2.2.2.2.2.2.2.2.2.2.2.1
theorem Fx.i16 (h : Fx (f0 :: f1 :: f2 :: f3 :: f4 :: f5 :: f6 :: f7 :: f8 :: f9 :: f10 :: f11 :: f12 :: f13 :: f14 :: f15 :: .blk g t (intsA k zs) :: l) w) : BlkI w g t k zs := h.2.2.2.2.2.2.2.2.2.2.2.2.2.2.2.2.1
theorem Fx.r16 (h : Fx (f0 :: f1 :: f2 :: f3 :: f4 :: f5 :: f6 :: f7 :: f8 :: f9 :: f10 :: f11 :: f12 :: f13 :: f14 :: f15 :: .rdb k B A n zs :: l) w) : Rd k w w.heap.size A n zs := h.2.2.2.2.2.2.2.2.2.2.2.2.2.2.2.2.1.1.mono h.2.2.2.2.2.2.2.2.2.2.2.2.2.2.2.2.1.2
theorem Fx.q16 (h : Fx (f0 :: f1 :: f2 :: f3 :: f4 :: f5 :: f6 :: f7 :: f8 :: f9 :: f10 :: f11 :: f12 :: f13 :: f14 :: f15 :: .rdb k B A n zs :: l) w) : Rd k w B A n zs := h.2.2.2.2.2.2.2.2.2.2.2.2.2.2.2.2.1.1
theorem Fx.e16 (h : Fx (f0 :: f1 :: f2 :: f3 :: f4 :: f5 :: f6 :: f7 :: f8 :: f9 :: f10 :: f11 :: f12 :: f13 :: f14 :: f15 :: .bel w0 :: l) w) : Below w0.heap.size w0 w := h.2.2.2.2.2.2.2.2.2.2.2.2.2.2.2.2.1
theorem Fx.b17 (h : Fx (f0 :: f1 :: f2 :: f3 :: f4 :: f5 :: f6 :: f7 :: f8 :: f9 :: f10 :: f11 :: f12 :: f13 :: f14 :: f15 :: f16 :: .blk g t cs :: l) w) : Blk w g t cs := h.2.2.2.2.2.2.2.2.2.2.2.2.2.2.2.2.2.1
theorem Fx.i17 (h : Fx (f0 :: f1 :: f2 :: f3 :: f4 :: f5 :: f6 :: f7 :: f8 :: f9 :: f10 :: f11 :: f12 :: f13 :: f14 :: f15 :: f16 :: .blk g t (intsA k zs) :: l) w) : BlkI w g t k zs := h.2.2.2.2.2.2.2.2.2.2.2.2.2.2.2.2.2.1
theorem Fx.r17 (h : Fx (f0 :: f1 :: f2 :: f3 :: f4 :: f5 :: f6 :: f7 :: f8 :: f9 :: f10 :: f11 :: f12 :: f13 :: f14 :: f15 :: f16 :: .rdb k B A n zs :: l) w) : Rd k w w.heap.size A n zs := h.2.2.2.2.2.2.2.2.2.2.2.2.2.2.2.2.2.1.1.mono h.2.2.2.2.2.2.2.2.2.2.2.2.2.2.2.2.2.1.2
theorem Fx.q17 (h : Fx (f0 :: f1 :: f2 :: f3 :: f4 :: f5 :: f6 :: f7 :: f8 :: f9 :: f10 :: f11 :: f12 :: f13 :: f14 :: f15 :: f16 :: .rdb k B A n zs :: l) w) : Rd k w B A n zs := h.2.2.2.2.2.2.2.2.2.2.2.2.2.2.2.2.2.1.1
theorem Fx.e17 (h : Fx (f0 :: f1 :: f2 :: f3 :: f4 :: f5 :: f6 :: f7 :: f8 :: f9 :: f10 :: f11 :: f12 :: f13 :: f14 :: f15 :: f16 :: .bel w0 :: l) w) : Below w0.heap.size w0 w := h.2.2.2.2.2.2.2.2.2.2.2.2.2.2.2.2.2.1
theorem Fx.b18 (h : Fx (f0 :: f1 :: f2 :: f3 :: f4 :: f5 :: f6 :: f7 :: f8 :: f9 :: f10 :: f11 :: f12 :: f13 :: f14 :: f15 :: f16 :: f17 :: .blk g t cs :: l) w) : Blk w g t cs := h.2.2.2.2.2.2.2.2.2.2.2.2.2.2.2.2.2.2.1
theorem Fx.i18 (h : Fx (f0 :: f1 :: f2 :: f3 :: f4 :: f5 :: f6 :: f7 :: f8 :: f9 :: f10 :: f11 :: f12 :: f13 :: f14 :: f15 :: f16 :: f17 :: .blk g t (intsA k zs) :: l) w) : BlkI w g t k zs := h.2.2.2.2.2.2.2.2.2.2.2.2.2.2.2.2.2.2.1
theorem Fx.r18 (h : Fx (f0 :: f1 :: f2 :: f3 :: f4 :: f5 :: f6 :: f7 :: f8 :: f9 :: f10 :: f11 :: f12 :: f13 :: f14 :: f15 :: f16 :: f17 :: .rdb k B A n zs :: l) w) : Rd k w w.heap.size A n zs := h.2.2.2.2.2.2.2.2.2.2.2.2.2.2.2.2.2.2.1.1.mono h.2.2.2.2.2.2.2.2.2.2.2.2.2.2.2.2.2.2.1.2
theorem Fx.q18 (h : Fx (f0 :: f1 :: f2 :: f3 :: f4 :: f5 :: f6 :: f7 :: f8 :: f9 :: f10 :: f11 :: f12 :: f13 :: f14 :: f15 :: f16 :: f17 :: .rdb k B A n zs :: l) w) : Rd k w B A n zs := h.2.2.2.2.2.2.2.2.2.2.2.2.2.2.2.2.2.2.1.1
theorem Fx.e18 (h : Fx (f0 :: f1 :: f2 :: f3 :: f4 :: f5 :: f6 :: f7 :: f8 :: f9 :: f10 :: f11 :: f12 :: f13 :: f14 :: f15 :: f16 :: f17 :: .bel w0 :: l) w) : Below w0.heap.size w0 w := h.2.2.2.2.2.2.2.2.2.2.2.2.2.2.2.2.2.2.1
theorem Fx.b19 (h : Fx (f0 :: f1 :: f2 :: f3 :: f4 :: f5 :: f6 :: f7 :: f8 :: f9 :: f10 :: f11 :: f12 :: f13 :: f14 :: f15 :: f16 :: f17 :: f18 :: .blk g t cs :: l) w) : Blk w g t cs := h.2.2.2.2.2.2.2.2.2.2.2.2.2.2.2.2.2.2.2.1
theorem Fx.i19 (h : Fx (f0 :: f1 :: f2 :: f3 :: f4 :: f5 :: f6 :: f7 :: f8 :: f9 :: f10 :: f11 :: f12 :: f13 :: f14 :: f15 :: f16 :: f17 :: f18 :: .blk g t (intsA k zs) :: l) w) : BlkI w g t k zs := h.2.2.2.2.2.2.2.2.2.2.2.2.2.2.2.2.2.2.2.1
theorem Fx.r19 (h : Fx (f0 :: f1 :: f2 :: f3 :: f4 :: f5 :: f6 :: f7 :: f8 :: f9 :: f10 :: f11 :: f12 :: f13 :: f14 :: f15 :: f16 :: f17 :: f18 :: .rdb k B A n zs :: l) w) : Rd k w w.heap.size A n zs := h.2.2.2.2.2.2.2.2.2.2.2.2.2.2.2.2.2.2.2.1.1.mono h.2.2.2.2.2.2.2.2.2.2.2.2.2.2.2.2.2.2.2.1.2
theorem Fx.q19 (h : Fx (f0 :: f1 :: f2 :: f3 :: f4 :: f5 :: f6 :: f7 :: f8 :: f9 :: f10 :: f11 :: f12 :: f13 :: f14 :: f15 :: f16 :: f17 :: f18 :: .rdb k B A n zs :: l) w) : Rd k w B A n zs := h.2.2.2.2.2.2.2.2.2.2.2.2.2.2.2.2.2.2.2.1.1
theorem Fx.e19 (h : Fx (f0 :: f1 :: f2 :: f3 :: f4 :: f5 :: f6 :: f7 :: f8 :: f9 :: f10 :: f11 :: f12 :: f13 :: f14 :: f15 :: f16 :: f17 :: f18 :: .bel w0 :: l) w) : Below w0.heap.size w0 w := h.2.2.2.2.2.2.2.2.2.2.2.2.2.2.2.2.2.2.2.1
theorem Fx.b20 (h : Fx (f0 :: f1 :: f2 :: f3 :: f4 :: f5 :: f6 :: f7 :: f8 :: f9 :: f10 :: f11 :: f12 :: f13 :: f14 :: f15 :: f16 :: f17 :: f18 :: f19 :: .blk g t cs :: l) w) : Blk w g t cs := h.2.2.2.2.2.2.2.2.2.2.2.2.2.2.2.2.2.2.2.2.1
theorem Fx.i20 (h : Fx (f0 :: f1 :: f2 :: f3 :: f4 :: f5 :: f6 :: f7 :: f8 :: f9 :: f10 :: f11 :: f12 :: f13 :: f14 :: f15 :: f16 :: f17 :: f18 :: f19 :: .blk g t (intsA k zs) :: l) w) : BlkI w g t k zs := h.2.2.2.2.2.2.2.2.2.2.2.2.2.2.2.2.2.2.2.2.1
theorem Fx.r20 (h : Fx (f0 :: f1 :: f2 :: f3 :: f4 :: f5 :: f6 :: f7 :: f8 :: f9 :: f10 :: f11 :: f12 :: f13 :: f14 :: f15 :: f16 :: f17 :: f18 :: f19 :: .rdb k B A n zs :: l) w) : Rd k w w.heap.size A n zs := h.2.2.2.2.2.2.2.2.2.2.2.2.2.2.2.2.2.2.2.2.1.1.mono h.2.2.2.2.2.2.2.2.2.2.2.2.2.2.2.2.2.2.2.2.1.2
theorem Fx.q20 (h : Fx (f0 :: f1 :: f2 :: f3 :: f4 :: f5 :: f6 :: f7 :: f8 :: f9 :: f10 :: f11 :: f12 :: f13 :: f14 :: f15 :: f16 :: f17 :: f18 :: f19 :: .rdb k B A n zs :: l) w) : Rd k w B A n zs := h.2.2.2.2.2.2.2.2.2.2.2.2.2.2.2.2.2.2.2.2.1.1
theorem Fx.e20 (h : Fx (f0 :: f1 :: f2 :: f3 :: f4 :: f5 :: f6 :: f7 :: f8 :: f9 :: f10 :: f11 :: f12 :: f13 :: f14 :: f15 :: f16 :: f17 :: f18 :: f19 :: .bel w0 :: l) w) : Below w0.heap.size w0 w := h.2.2.2.2.2.2.2.2.2.2.2.2.2.2.2.2.2.2.2.2.1
theorem Fx.b21 (h : Fx (f0 :: f1 :: f2 :: f3 :: f4 :: f5 :: f6 :: f7 :: f8 :: f9 :: f10 :: f11 :: f12 :: f13 :: f14 :: f15 :: f16 :: f17 :: f18 :: f19 :: f20 :: .blk g t cs :: l) w) : Blk w g t cs := h.2.2.2.2.2.2.2.2.2.2.2.2.2.2.2.2.2.2.2.2.2.1
theorem Fx.i21 (h : Fx (f0 :: f1 :: f2 :: f3 :: f4 :: f5 :: f6 :: f7 :: f8 :: f9 :: f10 :: f11 :: f12 :: f13 :: f14 :: f15 :: f16 :: f17 :: f18 :: f19 :: f20 :: .blk g t (intsA k zs) :: l) w) : BlkI w g t k zs := h.2.2.2.2.2.2.2.2.2.2.2.2.2.2.2.2.2.2.2.2.2.1
theorem Fx.r21 (h : Fx (f0 :: f1 :: f2 :: f3 :: f4 :: f5 :: f6 :: f7 :: f8 :: f9 :: f10 :: f11 :: f12 :: f13 :: f14 :: f15 :: f16 :: f17 :: f18 :: f19 :: f20 :: .rdb k B A n zs :: l) w) : Rd k w w.heap.size A n zs := h.2.2.2.2.2.2.2.2.2.2.2.2.2.2.2.2.2.2.2.2.2.1.1.mono h.2.2.2.2.2.2.2.2.2.2.2.2.2.2.2.2.2.2.2.2.2.1.2
theorem Fx.q21 (h : Fx (f0 :: f1 :: f2 :: f3 :: f4 :: f5 :: f6 :: f7 :: f8 :: f9 :: f10 :: f11 :: f12 :: f13 :: f14 :: f15 :: f16 :: f17 :: f18 :: f19 :: f20 :: .rdb k B A n zs :: l) w) : Rd k w B A n zs := h.2.2.2.2.2.2.2.2.2.2.2.2.2.2.2.2.2.2.2.2.2.1.1
theorem Fx.e21 (h : Fx (f0 :: f1 :: f2 :: f3 :: f4 :: f5 :: f6 :: f7 :: f8 :: f9 :: f10 :: f11 :: f12 :: f13 :: f14 :: f15 :: f16 :: f17 :: f18 :: f19 :: f20 :: .bel w0 :: l) w) : Below w0.heap.size w0 w := h.2.2.2.2.2.2.2.2.2.2.2.2.2.2.2.2.2.2.2.2.2.1
theorem Fx.b22 (h : Fx (f0 :: f1 :: f2 :: f3 :: f4 :: f5 :: f6 :: f7 :: f8 :: f9 :: f10 :: f11 :: f12 :: f13 :: f14 :: f15 :: f16 :: f17 :: f18 :: f19 :: f20 :: f21 :: .blk g t cs :: l) w) : Blk w g t cs := h.2.2.2.2.2.2.2.2.2.2.2.2.2.2.2.2.2.2.2.2.2.2.1
theorem Fx.i22 (h : Fx (f0 :: f1 :: f2 :: f3 :: f4 :: f5 :: f6 :: f7 :: f8 :: f9 :: f10 :: f11 :: f12 :: f13 :: f14 :: f15 :: f16 :: f17 :: f18 :: f19 :: f20 :: f21 :: .blk g t (intsA k zs) :: l) w) : BlkI w g t k zs := h.2.2.2.2.2.2.2.2.2.2.2.2.2.2.2.2.2.2.2.2.2.2.1
theorem Fx.r22 (h : Fx (f0 :: f1 :: f2 :: f3 :: f4 :: f5 :: f6 :: f7 :: f8 :: f9 :: f10 :: f11 :: f12 :: f13 :: f14 :: f15 :: f16 :: f17 :: f18 :: f19 :: f20 :: f21 :: .rdb k B A n zs :: l) w) : Rd k w w.heap.size A n zs := h.2.2.2.2.2.2.2.2.2.2.2.2.2.2.2.2.2.2.2.2.2.2.1.1.mono h.2.2.2.2.2.2.2.2.2.2.2.2.2.2.2.2.2.2.2.2.2.2.1.2
theorem Fx.q22 (h : Fx (f0 :: f1 :: f2 :: f3 :: f4 :: f5 :: f6 :: f7 :: f8 :: f9 :: f10 :: f11 :: f12 :: f13 :: f14 :: f15 :: f16 :: f17 :: f18 :: f19 :: f20 :: f21 :: .rdb k B A n zs :: l) w) : Rd k w B A n zs := h.2.2.2.2.2.2.2.2.2.2.2.2.2.2.2.2.2.2.2.2.2.2.1.1
theorem Fx.e22 (h : Fx (f0 :: f1 :: f2 :: f3 :: f4 :: f5 :: f6 :: f7 :: f8 :: f9 :: f10 :: f11 :: f12 :: f13 :: f14 :: f15 :: f16 :: f17 :: f18 :: f19 :: f20 :: f21 :: .bel w0 :: l) w) : Below w0.heap.size w0 w := h.2.2.2.2.2.2.2.2.2.2.2.2.2.2.2.2.2.2.2.2.2.2.1
theorem Fx.b23 (h : Fx (f0 :: f1 :: f2 :: f3 :: f4 :: f5 :: f6 :: f7 :: f8 :: f9 :: f10 :: f11 :: f12 :: f13 :: f14 :: f15 :: f16 :: f17 :: f18 :: f19 :: f20 :: f21 :: f22 :: .blk g t cs :: l) w) : Blk w g t cs := h.2.2.2.2.2.2.2.2.2.2.2.2.2.2.2.2.2.2.2.2.2.2.2.1
theorem Fx.i23 (h : Fx (f0 :: f1 :: f2 :: f3 :: f4 :: f5 :: f6 :: f7 :: f8 :: f9 :: f10 :: f11 :: f12 :: f13 :: f14 :: f15 :: f16 :: f17 :: f18 :: f19 :: f20 :: f21 :: f22 :: .blk g t (intsA k zs) :: l) w) : BlkI w g t k zs := h.2.2.2.2.2.2.2.2.2.2.2.2.2.2.2.2.2.2.2.2.2.2.2.1
theorem Fx.r23 (h : Fx (f0 :: f1 :: f2 :: f3 :: f4 :: f5 :: f6 :: f7 :: f8 :: f9 :: f10 :: f11 :: f12 :: f13 :: f14 :: f15 :: f16 :: f17 :: f18 :: f19 :: f20 :: f21 :: f22 :: .rdb k B A n zs :: l) w) : Rd k w w.heap.size A n zs := h.2.2.2.2.2.2.2.2.2.2.2.2.2.2.2.2.2.2.2.2.2.2.2.1.1.mono h.2.2.2.2.2.2.2.2.2.2.2.2.2.2.2.2.2.2.2.2.2.2.2.1.2
theorem Fx.q23 (h : Fx (f0 :: f1 :: f2 :: f3 :: f4 :: f5 :: f6 :: f7 :: f8 :: f9 :: f10 :: f11 :: f12 :: f13 :: f14 :: f15 :: f16 :: f17 :: f18 :: f19 :: f20 :: f21 :: f22 :: .rdb k B A n zs :: l) w) : Rd k w B A n zs := h.2.2.2.2.2.2.2.2.2.2.2.2.2.2.2.2.2.2.2.2.2.2.2.1.1
theorem Fx.e23 (h : Fx (f0 :: f1 :: f2 :: f3 :: f4 :: f5 :: f6 :: f7 :: f8 :: f9 :: f10 :: f11 :: f12 :: f13 :: f14 :: f15 :: f16 :: f17 :: f18 :: f19 :: f20 :: f21 :: f22 :: .bel w0 :: l) w) : Below w0.heap.size w0 w := h.2.2.2.2.2.2.2.2.2.2.2.2.2.2.2.2.2.2.2.2.2.2.2.1
theorem Fx.b24 (h : Fx (f0 :: f1 :: f2 :: f3 :: f4 :: f5 :: f6 :: f7 :: f8 :: f9 :: f10 :: f11 :: f12 :: f13 :: f14 :: f15 :: f16 :: f17 :: f18 :: f19 :: f20 :: f21 :: f22 :: f23 :: .blk g t cs :: l) w) : Blk w g t cs := h.2.2.2.2.2.2.2.2.2.2.2.2.2.2.2.2.2.2.2.2.2.2.2.2.1
theorem Fx.i24 (h : Fx (f0 :: f1 :: f2 :: f3 :: f4 :: f5 :: f6 :: f7 :: f8 :: f9 :: f10 :: f11 :: f12 :: f13 :: f14 :: f15 :: f16 :: f17 :: f18 :: f19 :: f20 :: f21 :: f22 :: f23 :: .blk g t (intsA k zs) :: l) w) : BlkI w g t k zs := h.2.2.2.2.2.2.2.2.2.2.2.2.2.2.2.2.2.2.2.2.2.2.2.2.1
theorem Fx.r24 (h : Fx (f0 :: f1 :: f2 :: f3 :: f4 :: f5 :: f6 :: f7 :: f8 :: f9 :: f10 :: f11 :: f12 :: f13 :: f14 :: f15 :: f16 :: f17 :: f18 :: f19 :: f20 :: f21 :: f22 :: f23 :: .rdb k B A n zs :: l) w) : Rd k w w.heap.size A n zs := h.2.2.2.2.2.2.2.2.2.2.2.2.2.2.2.2.2.2.2.2.2.2.2.2.1.1.mono h.2.2.2.2.2.2.2.2.2.2.2.2.2.2.2.2.2.2.2.2.2.2.2.2.1.2
theorem Fx.q24 (h : Fx (f0 :: f1 :: f2 :: f3 :: f4 :: f5 :: f6 :: f7 :: f8 :: f9 :: f10 :: f11 :: f12 :: f13 :: f14 :: f15 :: f16 :: f17 :: f18 :: f19 :: f20 :: f21 :: f22 :: f23 :: .rdb k B A n zs :: l) w) : Rd k w B A n zs := h.2.2.2.2.2.2.2.2.2.2.2.2.2.2.2.2.2.2.2.2.2.2.2.2.1.1
theorem Fx.e24 (h : Fx (f0 :: f1 :: f2 :: f3 :: f4 :: f5 :: f6 :: f7 :: f8 :: f9 :: f10 :: f11 :: f12 :: f13 :: f14 :: f15 :: f16 :: f17 :: f18 :: f19 :: f20 :: f21 :: f22 :: f23 :: .bel w0 :: l) w) : Below w0.heap.size w0 w := h.2.2.2.2.2.2.2.2.2.2.2.2.2.2.2.2.2.2.2.2.2.2.2.2.1
theorem Fx.b25 (h : Fx (f0 :: f1 :: f2 :: f3 :: f4 :: f5 :: f6 :: f7 :: f8 :: f9 :: f10 :: f11 :: f12 :: f13 :: f14 :: f15 :: f16 :: f17 :: f18 :: f19 :: f20 :: f21 :: f22 :: f23 :: f24 :: .blk g t cs :: l) w) : Blk w g t cs := h.2.2.2.2.2.2.2.2.2.2.2.2.2.2.2.2.2.2.2.2.2.2.2.2.2.1
theorem Fx.i25 (h : Fx (f0 :: f1 :: f2 :: f3 :: f4 :: f5 :: f6 :: f7 :: f8 :: f9 :: f10 :: f11 :: f12 :: f13 :: f14 :: f15 :: f16 :: f17 :: f18 :: f19 :: f20 :: f21 :: f22 :: f23 :: f24 :: .blk g t (intsA k zs) :: l) w) : BlkI w g t k zs := h.2.2.2.2.2.2.2.2.2.2.2.2.2.2.2.2.2.2.2.2.2.2.2.2.2.1
theorem Fx.r25 (h : Fx (f0 :: f1 :: f2 :: f3 :: f4 :: f5 :: f6 :: f7 :: f8 :: f9 :: f10 :: f11 :: f12 :: f13 :: f14 :: f15 :: f16 :: f17 :: f18 :: f19 :: f20 :: f21 :: f22 :: f23 :: f24 :: .rdb k B A n zs :: l) w) : Rd k w w.heap.size A n zs := h.2.2.2.2.2.2.2.2.2.2.2.2.2.2.2.2.2.2.2.2.2.2.2.2.2.1.1.mono h.2.2.2.2.2.2.2.2.2.2.2.2.2.2.2.2.2.2.2.2.2.2.2.2.2.1.2
theorem Fx.q25 (h : Fx (f0 :: f1 :: f2 :: f3 :: f4 :: f5 :: f6 :: f7 :: f8 :: f9 :: f10 :: f11 :: f12 :: f13 :: f14 :: f15 :: f16 :: f17 :: f18 :: f19 :: f20 :: f21 :: f22 :: f23 :: f24 :: .rdb k B A n zs :: l) w) : Rd k w B A n zs := h.2.2.2.2.2.2.2.2.2.2.2.2.2.2.2.2.2.2.2.2.2.2.2.2.2.1.1
theorem Fx.e25 (h : Fx (f0 :: f1 :: f2 :: f3 :: f4 :: f5 :: f6 :: f7 :: f8 :: f9 :: f10 :: f11 :: f12 :: f13 :: f14 :: f15 :: f16 :: f17 :: f18 :: f19 :: f20 :: f21 :: f22 :: f23 :: f24 :: .bel w0 :: l) w) : Below w0.heap.size w0 w := h.2.2.2.2.2.2.2.2.2.2.2.2.2.2.2.2.2.2.2.2.2.2.2.2.2.1
theorem Fx.b26 (h : Fx (f0 :: f1 :: f2 :: f3 :: f4 :: f5 :: f6 :: f7 :: f8 :: f9 :: f10 :: f11 :: f12 :: f13 :: f14 :: f15 :: f16 :: f17 :: f18 :: f19 :: f20 :: f21 :: f22 :: f23 :: f24 :: f25 :: .blk g t cs :: l) w) : Blk w g t cs := h.2.2.2.2.2.2.2.2.2.2.2.2.2.2.2.2.2.2.2.2.2.2.2.2.2.2.1
theorem Fx.i26 (h : Fx (f0 :: f1 :: f2 :: f3 :: f4 :: f5 :: f6 :: f7 :: f8 :: f9 :: f10 :: f11 :: f12 :: f13 :: f14 :: f15 :: f16 :: f17 :: f18 :: f19 :: f20 :: f21 :: f22 :: f23 :: f24 :: f25 :: .blk g t (intsA k zs) :: l) w) : BlkI w g t k zs := h.2.2.2.2.2.2.2.2.2.2.2.2.2.2.2.2.2.2.2.2.2.2.2.2.2.2.1
theorem Fx.r26 (h : Fx (f0 :: f1 :: f2 :: f3 :: f4 :: f5 :: f6 :: f7 :: f8 :: f9 :: f10 :: f11 :: f12 :: f13 :: f14 :: f15 :: f16 :: f17 :: f18 :: f19 :: f20 :: f21 :: f22 :: f23 :: f24 :: f25 :: .rdb k B A n zs :: l) w) : Rd k w w.heap.size A n zs := h.2.2.2.2.2.2.2.2.2.2.2.2.2.2.2.2.2.2.2.2.2.2.2.2.2.2.1.1.mono h.2.2.2.2.2.2.2.2.2.2.2.2.2.2.2.2.2.2.2.2.2.2.2.2.2.2.1.2
theorem Fx.q26 (h : Fx (f0 :: f1 :: f2 :: f3 :: f4 :: f5 :: f6 :: f7 :: f8 :: f9 :: f10 :: f11 :: f12 :: f13 :: f14 :: f15 :: f16 :: f17 :: f18 :: f19 :: f20 :: f21 :: f22 :: f23 :: f24 :: f25 :: .rdb k B A n zs :: l) w) : Rd k w B A n zs := h.2.2.2.2.2.2.2.2.2.2.2.2.2.2.2.2.2.2.2.2.2.2.2.2.2.2.1.1
theorem Fx.e26 (h : Fx (f0 :: f1 :: f2 :: f3 :: f4 :: f5 :: f6 :: f7 :: f8 :: f9 :: f10 :: f11 :: f12 :: f13 :: f14 :: f15 :: f16 :: f17 :: f18 :: f19 :: f20 :: f21 :: f22 :: f23 :: f24 :: f25 :: .bel w0 :: l) w) : Below w0.heap.size w0 w := h.2.2.2.2.2.2.2.2.2.2.2.2.2.2.2.2.2.2.2.2.2.2.2.2.2.2.1
theorem Fx.b27 (h : Fx (f0 :: f1 :: f2 :: f3 :: f4 :: f5 :: f6 :: f7 :: f8 :: f9 :: f10 :: f11 :: f12 :: f13 :: f14 :: f15 :: f16 :: f17 :: f18 :: f19 :: f20 :: f21 :: f22 :: f23 :: f24 :: f25 :: f26 :: .blk g t cs :: l) w) : Blk w g t cs := h.2.2.2.2.2.2.2.2.2.2.2.2.2.2.2.2.2.2.2.2.2.2.2.2.2.2.2.1
theorem Fx.i27 (h : Fx (f0 :: f1 :: f2 :: f3 :: f4 :: f5 :: f6 :: f7 :: f8 :: f9 :: f10 :: f11 :: f12 :: f13 :: f14 :: f15 :: f16 :: f17 :: f18 :: f19 :: f20 :: f21 :: f22 :: f23 :: f24 :: f25 :: f26 :: .blk g t (intsA k zs) :: l) w) : BlkI w g t k zs := h.2.2.2.2.2.2.2.2.2.2.2.2.2.2.2.2.2.2.2.2.2.2.2.2.2.2.2.1
theorem Fx.r27 (h : Fx (f0 :: f1 :: f2 :: f3 :: f4 :: f5 :: f6 :: f7 :: f8 :: f9 :: f10 :: f11 :: f12 :: f13 :: f14 :: f15 :: f16 :: f17 :: f18 :: f19 :: f20 :: f21 :: f22 :: f23 :: f24 :: f25 :: f26 :: .rdb k B A n zs :: l) w) : Rd k w w.heap.size A n zs := h.2.2.2.2.2.2.2.2.2.2.2.2.2.2.2.2.2.2.2.2.2.2.2.2.2.2.2.1.1.mono h.2.2.2.2.2.2.2.2.2.2.2.2.2.2.2.2.2.2.2.2.2.2.2.2.2.2.2.1.2
theorem Fx.q27 (h : Fx (f0 :: f1 :: f2 :: f3 :: f4 :: f5 :: f6 :: f7 :: f8 :: f9 :: f10 :: f11 :: f12 :: f13 :: f14 :: f15 :: f16 :: f17 :: f18 :: f19 :: f20 :: f21 :: f22 :: f23 :: f24 :: f25 :: f26 :: .rdb k B A n zs :: l) w) : Rd k w B A n zs := h.2.2.2.2.2.2.2.2.2.2.2.2.2.2.2.2.2.2.2.2.2.2.2.2.2.2.2.1.1
theorem Fx.e27 (h : Fx (f0 :: f1 :: f2 :: f3 :: f4 :: f5 :: f6 :: f7 :: f8 :: f9 :: f10 :: f11 :: f12 :: f13 :: f14 :: f15 :: f16 :: f17 :: f18 :: f19 :: f20 :: f21 :: f22 :: f23 :: f24 :: f25 :: f26 :: .bel w0 :: l) w) : Below w0.heap.size w0 w := h.2.2.2.2.2.2.2.2.2.2.2.2.2.2.2.2.2.2.2.2.2.2.2.2.2.2.2.1
theorem Fx.b28 (h : Fx (f0 :: f1 :: f2 :: f3 :: f4 :: f5 :: f6 :: f7 :: f8 :: f9 :: f10 :: f11 :: f12 :: f13 :: f14 :: f15 :: f16 :: f17 :: f18 :: f19 :: f20 :: f21 :: f22 :: f23 :: f24 :: f25 :: f26 :: f27 :: .blk g t cs :: l) w) : Blk w g t cs := h.2.2.2.2.2.2.2.2.2.2.2.2.2.2.2.2.2.2.2.2.2.2.2.2.2.2.2.2.1
theorem Fx.i28 (h : Fx (f0 :: f1 :: f2 :: f3 :: f4 :: f5 :: f6 :: f7 :: f8 :: f9 :: f10 :: f11 :: f12 :: f13 :: f14 :: f15 :: f16 :: f17 :: f18 :: f19 :: f20 :: f21 :: f22 :: f23 :: f24 :: f25 :: f26 :: f27 :: .blk g t (intsA k zs) :: l) w) : BlkI w g t k zs := h.2.2.2.2.2.2.2.2.2.2.2.2.2.2.2.2.2.2.2.2.2.2.2.2.2.2.2.2.1
theorem Fx.r28 (h : Fx (f0 :: f1 :: f2 :: f3 :: f4 :: f5 :: f6 :: f7 :: f8 :: f9 :: f10 :: f11 :: f12 :: f13 :: f14 :: f15 :: f16 :: f17 :: f18 :: f19 :: f20 :: f21 :: f22 :: f23 :: f24 :: f25 :: f26 :: f27 :: .rdb k B A n zs :: l) w) : Rd k w w.heap.size A n zs := h.2.2.2.2.2.2.2.2.2.2.2.2.2.2.2.2.2.2.2.2.2.2.2.2.2.2.2.2.1.1.mono h.2.2.2.2.2.2.2.2.2.2.2.2.2.2.2.2.2.2.2.2.2.2.2.2.2.2.2.2.1.2
theorem Fx.q28 (h : Fx (f0 :: f1 :: f2 :: f3 :: f4 :: f5 :: f6 :: f7 :: f8 :: f9 :: f10 :: f11 :: f12 :: f13 :: f14 :: f15 :: f16 :: f17 :: f18 :: f19 :: f20 :: f21 :: f22 :: f23 :: f24 :: f25 :: f26 :: f27 :: .rdb k B A n zs :: l) w) : Rd k w B A n zs := h.2.2.2.2.2.2.2.2.2.2.2.2.2.2.2.2.2.2.2.2.2.2.2.2.2.2.2.2.1.1
theorem Fx.e28 (h : Fx (f0 :: f1 :: f2 :: f3 :: f4 :: f5 :: f6 :: f7 :: f8 :: f9 :: f10 :: f11 :: f12 :: f13 :: f14 :: f15 :: f16 :: f17 :: f18 :: f19 :: f20 :: f21 :: f22 :: f23 :: f24 :: f25 :: f26 :: f27 :: .bel w0 :: l) w) : Below w0.heap.size w0 w := h.2.2.2.2.2.2.2.2.2.2.2.2.2.2.2.2.2.2.2.2.2.2.2.2.2.2.2.2.1
theorem Fx.b29 (h : Fx (f0 :: f1 :: f2 :: f3 :: f4 :: f5 :: f6 :: f7 :: f8 :: f9 :: f10 :: f11 :: f12 :: f13 :: f14 :: f15 :: f16 :: f17 :: f18 :: f19 :: f20 :: f21 :: f22 :: f23 :: f24 :: f25 :: f26 :: f27 :: f28 :: .blk g t cs :: l) w) : Blk w g t cs := h.2.2.2.2.2.2.2.2.2.2.2.2.2.2.2.2.2.2.2.2.2.2.2.2.2.2.2.2.2.1
theorem Fx.i29 (h : Fx (f0 :: f1 :: f2 :: f3 :: f4 :: f5 :: f6 :: f7 :: f8 :: f9 :: f10 :: f11 :: f12 :: f13 :: f14 :: f15 :: f16 :: f17 :: f18 :: f19 :: f20 :: f21 :: f22 :: f23 :: f24 :: f25 :: f26 :: f27 :: f28 :: .blk g t (intsA k zs) :: l) w) : BlkI w g t k zs := h.2.2.2.2.2.2.2.2.2.2.2.2.2.2.2.2.2.2.2.2.2.2.2.2.2.2.2.2.2.1
theorem Fx.r29 (h : Fx (f0 :: f1 :: f2 :: f3 :: f4 :: f5 :: f6 :: f7 :: f8 :: f9 :: f10 :: f11 :: f12 :: f13 :: f14 :: f15 :: f16 :: f17 :: f18 :: f19 :: f20 :: f21 :: f22 :: f23 :: f24 :: f25 :: f26 :: f27 :: f28 :: .rdb k B A n zs :: l) w) : Rd k w w.heap.size A n zs := h.2.2.2.2.2.2.2.2.2.2.2.2.2.2.2.2.2.2.2.2.2.2.2.2.2.2.2.2.2.1.1.mono h.2.2.2.2.2.2.2.2.2.2.2.2.2.2.2.2.2.2.2.2.2.2.2.2.2.2.2.2.2.1.2
theorem Fx.q29 (h : Fx (f0 :: f1 :: f2 :: f3 :: f4 :: f5 :: f6 :: f7 :: f8 :: f9 :: f10 :: f11 :: f12 :: f13 :: f14 :: f15 :: f16 :: f17 :: f18 :: f19 :: f20 :: f21 :: f22 :: f23 :: f24 :: f25 :: f26 :: f27 :: f28 :: .rdb k B A n zs :: l) w) : Rd k w B A n zs := h.2.2.2.2.2.2.2.2.2.2.2.2.2.2.2.2.2.2.2.2.2.2.2.2.2.2.2.2.2.1.1
theorem Fx.e29 (h : Fx (f0 :: f1 :: f2 :: f3 :: f4 :: f5 :: f6 :: f7 :: f8 :: f9 :: f10 :: f11 :: f12 :: f13 :: f14 :: f15 :: f16 :: f17 :: f18 :: f19 :: f20 :: f21 :: f22 :: f23 :: f24 :: f25 :: f26 :: f27 :: f28 :: .bel w0 :: l) w) : Below w0.heap.size w0 w := h.2.2.2.2.2.2.2.2.2.2.2.2.2.2.2.2.2.2.2.2.2.2.2.2.2.2.2.2.2.1
theorem Fx.b30 (h : Fx (f0 :: f1 :: f2 :: f3 :: f4 :: f5 :: f6 :: f7 :: f8 :: f9 :: f10 :: f11 :: f12 :: f13 :: f14 :: f15 :: f16 :: f17 :: f18 :: f19 :: f20 :: f21 :: f22 :: f23 :: f24 :: f25 :: f26 :: f27 :: f28 :: f29 :: .blk g t cs :: l) w) : Blk w g t cs := h.2.2.2.2.2.2.2.2.2.2.2.2.2.2.2.2.2.2.2.2.2.2.2.2.2.2.2.2.2.2.1
theorem Fx.i30 (h : Fx (f0 :: f1 :: f2 :: f3 :: f4 :: f5 :: f6 :: f7 :: f8 :: f9 :: f10 :: f11 :: f12 :: f13 :: f14 :: f15 :: f16 :: f17 :: f18 :: f19 :: f20 :: f21 :: f22 :: f23 :: f24 :: f25 :: f26 :: f27 :: f28 :: f29 :: .blk g t (intsA k zs) :: l) w) : BlkI w g t k zs := h.2.2.2.2.2.2.2.2.2.2.2.2.2.2.2.2.2.2.2.2.2.2.2.2.2.2.2.2.2.2.1
theorem Fx.r30 (h : Fx (f0 :: f1 :: f2 :: f3 :: f4 :: f5 :: f6 :: f7 :: f8 :: f9 :: f10 :: f11 :: f12 :: f13 :: f14 :: f15 :: f16 :: f17 :: f18 :: f19 :: f20 :: f21 :: f22 :: f23 :: f24 :: f25 :: f26 :: f27 :: f28 :: f29 :: .rdb k B A n zs :: l) w) : Rd k w w.heap.size A n zs := h.2.2.2.2.2.2.2.2.2.2.2.2.2.2.2.2.2.2.2.2.2.2.2.2.2.2.2.2.2.2.1.1.mono h.2.2.2.2.2.2.2.2.2.2.2.2.2.2.2.2.2.2.2.2.2.2.2.2.2.2.2.2.2.2.1.2
theorem Fx.q30 (h : Fx (f0 :: f1 :: f2 :: f3 :: f4 :: f5 :: f6 :: f7 :: f8 :: f9 :: f10 :: f11 :: f12 :: f13 :: f14 :: f15 :: f16 :: f17 :: f18 :: f19 :: f20 :: f21 :: f22 :: f23 :: f24 :: f25 :: f26 :: f27 :: f28 :: f29 :: .rdb k B A n zs :: l) w) : Rd k w B A n zs := h.2.2.2.2.2.2.2.2.2.2.2.2.2.2.2.2.2.2.2.2.2.2.2.2.2.2.2.2.2.2.1.1
theorem Fx.e30 (h : Fx (f0 :: f1 :: f2 :: f3 :: f4 :: f5 :: f6 :: f7 :: f8 :: f9 :: f10 :: f11 :: f12 :: f13 :: f14 :: f15 :: f16 :: f17 :: f18 :: f19 :: f20 :: f21 :: f22 :: f23 :: f24 :: f25 :: f26 :: f27 :: f28 :: f29 :: .bel w0 :: l) w) : Below w0.heap.size w0 w := h.2.2.2.2.2.2.2.2.2.2.2.2.2.2.2.2.2.2.2.2.2.2.2.2.2.2.2.2.2.2.1
theorem Fx.b31 (h : Fx (f0 :: f1 :: f2 :: f3 :: f4 :: f5 :: f6 :: f7 :: f8 :: f9 :: f10 :: f11 :: f12 :: f13 :: f14 :: f15 :: f16 :: f17 :: f18 :: f19 :: f20 :: f21 :: f22 :: f23 :: f24 :: f25 :: f26 :: f27 :: f28 :: f29 :: f30 :: .blk g t cs :: l) w) : Blk w g t cs := h.2.2.2.2.2.2.2.2.2.2.2.2.2.2.2.2.2.2.2.2.2.2.2.2.2.2.2.2.2.2.2.1
theorem Fx.i31 (h : Fx (f0 :: f1 :: f2 :: f3 :: f4 :: f5 :: f6 :: f7 :: f8 :: f9 :: f10 :: f11 :: f12 :: f13 :: f14 :: f15 :: f16 :: f17 :: f18 :: f19 :: f20 :: f21 :: f22 :: f23 :: f24 :: f25 :: f26 :: f27 :: f28 :: f29 :: f30 :: .blk g t (intsA k zs) :: l) w) : BlkI w g t k zs := h.2.2.2.2.2.2.2.2.2.2.2.2.2.2.2.2.2.2.2.2.2.2.2.2.2.2.2.2.2.2.2.1
theorem Fx.r31 (h : Fx (f0 :: f1 :: f2 :: f3 :: f4 :: f5 :: f6 :: f7 :: f8 :: f9 :: f10 :: f11 :: f12 :: f13 :: f14 :: f15 :: f16 :: f17 :: f18 :: f19 :: f20 :: f21 :: f22 :: f23 :: f24 :: f25 :: f26 :: f27 :: f28 :: f29 :: f30 :: .rdb k B A n zs :: l) w) : Rd k w w.heap.size A n zs := h.2.2.2.2.2.2.2.2.2.2.2.2.2.2.2.2.2.2.2.2.2.2.2.2.2.2.2.2.2.2.2.1.1.mono h.2.2.2.2.2.2.2.2.2.2.2.2.2.2.2.2.2.2.2.2.2.2.2.2.2.2.2.2.2.2.2.1.2
theorem Fx.q31 (h : Fx (f0 :: f1 :: f2 :: f3 :: f4 :: f5 :: f6 :: f7 :: f8 :: f9 :: f10 :: f11 :: f12 :: f13 :: f14 :: f15 :: f16 :: f17 :: f18 :: f19 :: f20 :: f21 :: f22 :: f23 :: f24 :: f25 :: f26 :: f27 :: f28 :: f29 :: f30 :: .rdb k B A n zs :: l) w) : Rd k w B A n zs := h.2.2.2.2.2.2.2.2.2.2.2.2.2.2.2.2.2.2.2.2.2.2.2.2.2.2.2.2.2.2.2.1.1
theorem Fx.e31 (h : Fx (f0 :: f1 :: f2 :: f3 :: f4 :: f5 :: f6 :: f7 :: f8 :: f9 :: f10 :: f11 :: f12 :: f13 :: f14 :: f15 :: f16 :: f17 :: f18 :: f19 :: f20 :: f21 :: f22 :: f23 :: f24 :: f25 :: f26 :: f27 :: f28 :: f29 :: f30 :: .bel w0 :: l) w) : Below w0.heap.size w0 w := h.2.2.2.2.2.2.2.2.2.2.2.2.2.2.2.2.2.2.2.2.2.2.2.2.2.2.2.2.2.2.2.1
end
end Go.Proofs.YtmeefnhmkffdlaaDoor
/-
  Streams in plain Lean: blocks, bits and bytes of a seed and a domain.
  Conditions: those that each theorem names.
-/
set_option maxRecDepth 100000
set_option linter.unusedVariables false
set_option linter.unusedSimpArgs false
namespace Go.Proofs.YtmeefnhmkffdlaaDoor
/-- What is hashed of a seed, a domain and a number. -/
def blkIn (s : List Int) (d i : Int) : List Int := s ++ put8L d ++ put8L i
def blkL (s : List Int) (d i : Int) : List Int := shaL (blkIn s d i)
theorem put8L_len (x : Int) : (put8L x).length = 8 := rfl
theorem blkIn_len (s : List Int) (d i : Int) (hs : s.length = 32) : (blkIn s d i).length = 48 := by
  unfold blkIn
  rw [List.length_append, List.length_append, put8L_len, put8L_len, hs]
theorem blkIn_in (s : List Int) (d i : Int) (hs : ∀ z ∈ s, 0 ≤ z ∧ z < 256) (d0 : 0 ≤ d) (d1 : d < 18446744073709551616) (i0 : 0 ≤ i) (i1 : i < 18446744073709551616) : ∀ z ∈ blkIn s d i, 0 ≤ z ∧ z < 256 := by
  intro z hz
  unfold blkIn at hz
  rcases List.mem_append.1 hz with h | h
  · rcases List.mem_append.1 h with h | h
    · exact hs z h
    · exact put8L_in d d0 d1 z h
  · exact put8L_in i i0 i1 z h
theorem blkL_len (s : List Int) (d i : Int) : (blkL s d i).length = 32 := shaL_len _
theorem blkL_in (s : List Int) (d i : Int) : ∀ z ∈ blkL s d i, 0 ≤ z ∧ z < 256 := shaL_in _
/-- The byte of the number j of a block. -/
def bytN (s : List Int) (d i : Int) (j : Nat) : Int := (blkL s d i).getD j 0
theorem bytN_in (s : List Int) (d i : Int) (j : Nat) : 0 ≤ bytN s d i j ∧ bytN s d i j < 256 := by
  unfold bytN
  rw [List.getD_eq_getElem?_getD]
  rcases h : (blkL s d i)[j]? with _ | z
  · simp
  · exact blkL_in s d i z (List.mem_of_getElem? h)
/-- The bit of the number n. -/
def bitN (s : List Int) (d n : Int) : Int := bytN s d (n / 256) (n % 256 / 8).toNat / 2 ^ (7 - n % 8).toNat % 2
theorem bitN_in (s : List Int) (d n : Int) : 0 ≤ bitN s d n ∧ bitN s d n < 2 := by unfold bitN; omega
/-- The first m blocks, one behind the other. -/
def blksL (s : List Int) (d : Int) (m : Nat) : List Int := ((List.range m).map fun i : Nat => blkL s d (i : Int)).flatten
theorem blksL_next (s : List Int) (d : Int) (m : Nat) : blksL s d (m + 1) = blksL s d m ++ blkL s d m := by
  unfold blksL
  rw [List.range_succ, List.map_append, List.flatten_append]
  simp
theorem blksL_len (s : List Int) (d : Int) (m : Nat) : (blksL s d m).length = 32 * m := by
  induction m with
  | zero => simp [blksL]
  | succ m ih => rw [blksL_next, List.length_append, ih, blkL_len]; omega
theorem blksL_in (s : List Int) (d : Int) (m : Nat) : ∀ z ∈ blksL s d m, 0 ≤ z ∧ z < 256 := by
  intro z hz
  unfold blksL at hz
  obtain ⟨l, hl, hz⟩ := List.mem_flatten.1 hz
  obtain ⟨i, _, rfl⟩ := List.mem_map.1 hl
  exact blkL_in _ _ _ z hz
theorem blksL_more (s : List Int) (d : Int) (m k : Nat) : (blksL s d (m + k)).take (32 * m) = blksL s d m := by
  induction k with
  | zero => rw [Nat.add_zero, List.take_of_length_le (by rw [blksL_len]; exact Nat.le_refl _)]
  | succ k ih =>
    rw [← Nat.add_assoc, blksL_next, List.take_append_of_le_length (by rw [blksL_len]; omega)]
    exact ih
/-- The first n bytes. -/
def bytL (s : List Int) (d : Int) (n : Nat) : List Int := (blksL s d ((n + 31) / 32)).take n
theorem bytL_len (s : List Int) (d : Int) (n : Nat) : (bytL s d n).length = n := by unfold bytL; rw [List.length_take, blksL_len]; omega
theorem bytL_in (s : List Int) (d : Int) (n : Nat) : ∀ z ∈ bytL s d n, 0 ≤ z ∧ z < 256 := fun z hz => blksL_in _ _ _ z (List.mem_of_mem_take hz)
theorem bytL_zero (s : List Int) (d : Int) : bytL s d 0 = [] := rfl
/-- The first bytes are those of any more blocks. -/
theorem bytL_of (s : List Int) (d : Int) (n m : Nat) (h : n ≤ 32 * m) : bytL s d n = (blksL s d m).take n := by
  have h1 : m = (n + 31) / 32 + (m - (n + 31) / 32) := by omega
  unfold bytL
  rw [h1, ← blksL_more s d ((n + 31) / 32) (m - (n + 31) / 32), List.take_take]
  congr 1
  omega
theorem getD_append_l (a b : List Int) (j : Nat) (h : j < a.length) : (a ++ b).getD j 0 = a.getD j 0 := by
  simp [List.getElem?_append_left h]
theorem getD_append_r (a b : List Int) (j : Nat) (h : a.length ≤ j) : (a ++ b).getD j 0 = b.getD (j - a.length) 0 := by
  simp [List.getElem?_append_right h]
theorem getD_take (a : List Int) (j n : Nat) (h : j < n) : (a.take n).getD j 0 = a.getD j 0 := by
  simp [List.getElem?_take, h]
theorem blksL_at (s : List Int) (d : Int) (m i j : Nat) (hi : i < m) (hj : j < 32) : (blksL s d m).getD (32 * i + j) 0 = bytN s d (i : Int) j := by
  induction m with
  | zero => omega
  | succ m ih =>
    rw [blksL_next]
    by_cases h : i < m
    · rw [getD_append_l _ _ _ (by rw [blksL_len]; omega)]
      exact ih h
    · obtain rfl : i = m := by omega
      rw [getD_append_r _ _ _ (by rw [blksL_len]; omega), blksL_len]
      unfold bytN
      congr 1
      omega
/-- A byte of the stream is that of its block. -/
theorem bytL_at (s : List Int) (d : Int) (n j : Nat) (h : j < n) : (bytL s d n).getD j 0 = bytN s d ((j / 32 : Nat) : Int) (j % 32) := by
  unfold bytL
  rw [getD_take _ _ _ h]
  have h1 := blksL_at s d ((n + 31) / 32) (j / 32) (j % 32) (by omega) (by omega)
  rw [show 32 * (j / 32) + j % 32 = j by omega] at h1
  exact h1
/-- One byte more. -/
theorem bytL_next (s : List Int) (d : Int) (i k : Nat) (hk : k < 32) : bytL s d (32 * i + k) ++ [bytN s d (i : Int) k] = bytL s d (32 * i + k + 1) := by
  have h1 := bytL_of s d (32 * i + k) (i + 1) (by omega)
  have h2 := bytL_of s d (32 * i + k + 1) (i + 1) (by omega)
  have h3 := blksL_at s d (i + 1) i k (by omega) hk
  rw [h1, h2, ← h3]
  exact take_snoc (blksL s d (i + 1)) (32 * i + k) (by rw [blksL_len]; omega)
end Go.Proofs.YtmeefnhmkffdlaaDoor
/-
  Sources in plain Lean: may they be, what is left, their bits, and what is taken.
  Conditions: those that each theorem names.
-/
set_option maxRecDepth 100000
set_option linter.unusedVariables false
set_option linter.unusedSimpArgs false
namespace Go.Proofs.YtmeefnhmkffdlaaDoor
structure Src where
  kind : Int
  tape : List Int
  bits : Int
  seed : List Int
  dom : Int
  at_ : Int
/-- Its fields lie in their types' ranges; the tape is not as long as no machine has. -/
structure Src.Ok (s : Src) : Prop where
  k0 : -9223372036854775808 ≤ s.kind
  k1 : s.kind < 9223372036854775808
  tl : s.tape.length ≤ 140737488355328
  ti : ∀ z ∈ s.tape, 0 ≤ z ∧ z < 256
  b0 : 0 ≤ s.bits
  b1 : s.bits < 18446744073709551616
  sl : s.seed.length = 32
  si : ∀ z ∈ s.seed, 0 ≤ z ∧ z < 256
  d0 : 0 ≤ s.dom
  d1 : s.dom < 18446744073709551616
  a0 : 0 ≤ s.at_
  a1 : s.at_ < 18446744073709551616
def rightS (s : Src) : Bool := if s.kind = 1 then decide (s.bits ≤ 8 * (s.tape.length : Int)) && decide (s.at_ ≤ s.bits) else decide (s.kind = 2) && decide (s.at_ ≤ 4611686018427387904)
def leftS (s : Src) : Int := if rightS s = true then (if s.kind = 1 then s.bits - s.at_ else 4611686018427387904 - s.at_) else 0
def bitS (s : Src) (n : Int) : Int := if s.kind = 2 then bitN s.seed s.dom n else s.tape.getD (n / 8).toNat 0 / 2 ^ (7 - n % 8).toNat % 2
/-- The number that the k bits from the n-th one on are, the first one the highest. -/
def numS (s : Src) (n : Int) : Nat → Int
  | 0 => 0
  | k + 1 => 2 * numS s n k + bitS s (n + k)
def takeE (s : Src) (k : Int) : Int := if rightS s = true ∧ 0 ≤ k ∧ k ≤ 64 then (if k ≤ leftS s then 0 else 8) else 1
def takeV (s : Src) (k : Int) : Int := if takeE s k = 0 then numS s s.at_ k.toNat else 0
def Src.to (s : Src) (n : Int) : Src := { s with at_ := n }
def takeS (s : Src) (k : Int) : Src := if takeE s k = 0 then s.to (s.at_ + k) else s
def sameS (a b : Src) : Bool := decide (a.kind = b.kind) && decide (a.tape = b.tape) && decide (a.bits = b.bits) && decide (a.seed = b.seed) && decide (a.dom = b.dom) && decide (a.at_ = b.at_)
def Src.zero : Src := ⟨0, [], 0, List.replicate 32 0, 0, 0⟩
theorem sameS_refl (a : Src) : sameS a a = true := by simp [sameS]
theorem bitS_in (s : Src) (n : Int) : 0 ≤ bitS s n ∧ bitS s n < 2 := by
  unfold bitS
  split
  · exact bitN_in _ _ _
  · omega
theorem numS_succ (s : Src) (n : Int) (k : Nat) : numS s n (k + 1) = 2 * numS s n k + bitS s (n + k) := rfl
theorem numS_in (s : Src) (n : Int) (k : Nat) : 0 ≤ numS s n k ∧ numS s n k < 2 ^ k := by
  induction k with
  | zero => exact ⟨Int.le_refl _, by simp [numS]⟩
  | succ k ih =>
    have h := bitS_in s (n + k)
    rw [numS_succ, Int.pow_succ]
    omega
/-- Of two pieces. -/
theorem numS_add (s : Src) (n : Int) (k m : Nat) : numS s n (k + m) = numS s n k * 2 ^ m + numS s (n + k) m := by
  induction m with
  | zero => simp [numS]
  | succ m ih =>
    rw [← Nat.add_assoc, numS_succ, numS_succ, ih, Int.pow_succ, show n + ((k + m : Nat) : Int) = n + (k : Int) + (m : Int) by omega, Int.mul_add]
    have : 2 * (numS s n k * 2 ^ m) = numS s n k * (2 ^ m * 2) := by rw [← Int.mul_assoc, Int.mul_comm 2, Int.mul_assoc, Int.mul_comm 2]
    rw [this]
    omega
theorem bitS_to (s : Src) (m n : Int) : bitS (s.to m) n = bitS s n := rfl
theorem numS_to (s : Src) (m n : Int) (k : Nat) : numS (s.to m) n k = numS s n k := by
  induction k with
  | zero => rfl
  | succ k ih =>
    rw [numS_succ, numS_succ, ih, bitS_to]
theorem rightS_end {s : Src} (h : rightS s = true) : s.at_ + leftS s < 18446744073709551616 ∧ 0 ≤ leftS s ∨ ¬ s.Ok := by
  by_cases ok : s.Ok
  · left
    unfold leftS
    rw [if_pos h]
    unfold rightS at h
    have := ok.b1
    split at h
    · rename_i hk
      rw [if_pos hk]
      simp at h
      omega
    · rename_i hk
      rw [if_neg hk]
      simp at h
      omega
  · exact .inr ok
theorem left_le {s : Src} (ok : s.Ok) : 0 ≤ leftS s ∧ leftS s < 18446744073709551616 := by
  unfold leftS
  have h1 := ok.b1
  have h2 := ok.a0
  split
  · rename_i h
    unfold rightS at h
    split at h
    · rename_i hk
      rw [if_pos hk]
      simp at h
      omega
    · rename_i hk
      rw [if_neg hk]
      simp at h
      omega
  · omega
/-- With At so many more: still right, and so many less are left. -/
theorem right_to {s : Src} (h : rightS s = true) (n : Int) (n0 : 0 ≤ n) (hn : n ≤ leftS s) : rightS (s.to (s.at_ + n)) = true ∧ leftS (s.to (s.at_ + n)) = leftS s - n := by
  have key : rightS (s.to (s.at_ + n)) = true := by
    unfold leftS at hn
    rw [if_pos h] at hn
    unfold rightS at h ⊢
    show (if s.kind = 1 then decide (s.bits ≤ 8 * (s.tape.length : Int)) && decide (s.at_ + n ≤ s.bits) else decide (s.kind = 2) && decide (s.at_ + n ≤ 4611686018427387904)) = true
    split at h
    · rename_i hk
      rw [if_pos hk] at hn ⊢
      simp at h ⊢
      omega
    · rename_i hk
      rw [if_neg hk] at hn ⊢
      simp at h ⊢
      omega
  refine ⟨key, ?_⟩
  unfold leftS
  rw [if_pos key, if_pos h]
  show (if s.kind = 1 then s.bits - (s.at_ + n) else 4611686018427387904 - (s.at_ + n)) = _
  split <;> omega
theorem takeE_ok {s : Src} {k : Int} : takeE s k = 0 ↔ rightS s = true ∧ 0 ≤ k ∧ k ≤ 64 ∧ k ≤ leftS s := by
  unfold takeE
  constructor
  · intro h
    split at h
    · rename_i h1
      split at h
      · rename_i h2
        exact ⟨h1.1, h1.2.1, h1.2.2, h2⟩
      · omega
    · omega
  · rintro ⟨h1, h2, h3, h4⟩
    rw [if_pos ⟨h1, h2, h3⟩, if_pos h4]
theorem takeV_in (s : Src) (k : Int) : 0 ≤ takeV s k ∧ takeV s k < 18446744073709551616 := by
  unfold takeV
  split
  · rename_i h
    have hk := takeE_ok.1 h
    have h1 := numS_in s s.at_ k.toNat
    have h2 : (2 : Int) ^ k.toNat ≤ 2 ^ 64 := by
      have : 2 ^ k.toNat ≤ 2 ^ 64 := Nat.pow_le_pow_right (by omega) (by omega)
      exact_mod_cast this
    omega
  · omega
theorem Src.Ok.to_ {s : Src} (ok : s.Ok) (n : Int) (n0 : 0 ≤ n) (n1 : n < 18446744073709551616) : (s.to n).Ok := ⟨ok.k0, ok.k1, ok.tl, ok.ti, ok.b0, ok.b1, ok.sl, ok.si, ok.d0, ok.d1, n0, n1⟩
theorem takeS_ok {s : Src} (ok : s.Ok) (k : Int) : (takeS s k).Ok := by
  unfold takeS
  split
  · rename_i h
    obtain ⟨h1, h2, h3, h4⟩ := takeE_ok.1 h
    have h5 := ok.a0
    rcases rightS_end h1 with h6 | h6
    · exact ok.to_ _ (by omega) (by omega)
    · exact absurd ok h6
  · exact ok
theorem Src.ok_zero : Src.zero.Ok := ⟨by decide, by decide, by decide, fun _ h => (by cases h), by decide, by decide, rfl, fun z h => by obtain ⟨_, rfl⟩ := List.mem_replicate.1 h; exact ⟨by omega, by omega⟩, by decide, by decide, by decide, by decide⟩
theorem takeS_tape (s : Src) (k : Int) : (takeS s k).tape = s.tape := by unfold takeS; split <;> rfl
end Go.Proofs.YtmeefnhmkffdlaaDoor
/-
  Sources as values and in memory: their cells, made, stored in part, handed back.
  Conditions: those that each theorem names.
-/
set_option maxRecDepth 100000
set_option linter.unusedVariables false
set_option linter.unusedSimpArgs false
namespace Go.Proofs.YtmeefnhmkffdlaaDoor
open Go.ChangeShapes Go.WideShapes Go.ChangeAt Go.RowKit
def srcV (s : Src) (A : Option Addr) (c : Nat) : Array Value := ([Value.int .i64 s.kind, .slice A s.tape.length c, .int .u64 s.bits] ++ (s.seed.map (Value.int .u8) ++ [Value.int .u64 s.dom, .int .u64 s.at_])).toArray
theorem srcV_size (s : Src) (hl : s.seed.length = 32) (A : Option Addr) (c : Nat) : (srcV s A c).size = 37 := by simp [srcV, hl]
theorem srcV_ones (s : Src) (A : Option Addr) (c : Nat) : (srcV s A c).all (·.oneCell') = true := all_oneCell_toArray (by
  intro u hu
  rcases List.mem_append.1 hu with h | h
  · simp only [List.mem_cons, List.not_mem_nil, or_false] at h
    rcases h with h | h | h <;> subst h <;> rfl
  · rcases List.mem_append.1 h with h | h
    · exact ints_one .u8 s.seed u h
    · simp only [List.mem_cons, List.not_mem_nil, or_false] at h
      rcases h with h | h <;> subst h <;> rfl)
theorem srcV_kind (s : Src) (A : Option Addr) (c : Nat) : (srcV s A c)[0]? = some (.int .i64 s.kind) := rfl
theorem srcV_tape (s : Src) (A : Option Addr) (c : Nat) : (srcV s A c)[1]? = some (.slice A s.tape.length c) := rfl
theorem srcV_bits (s : Src) (A : Option Addr) (c : Nat) : (srcV s A c)[2]? = some (.int .u64 s.bits) := rfl
theorem srcV_dom (s : Src) (hl : s.seed.length = 32) (A : Option Addr) (c : Nat) : (srcV s A c)[35]? = some (.int .u64 s.dom) := by
  unfold srcV
  rw [List.getElem?_toArray, List.getElem?_append_right (by simp), List.getElem?_append_right (by simp [hl])]
  simp [hl]
theorem srcV_at (s : Src) (hl : s.seed.length = 32) (A : Option Addr) (c : Nat) : (srcV s A c)[36]? = some (.int .u64 s.at_) := by
  unfold srcV
  rw [List.getElem?_toArray, List.getElem?_append_right (by simp), List.getElem?_append_right (by simp [hl])]
  simp [hl]
theorem srcV_seed {w : World} {g : Nat} {t : TypeId} {s : Src} {A : Option Addr} {c : Nat} (h : Blk w g t (srcV s A c)) : w.rangeAt g 3 (s.seed.map (Value.int .u8)) := by
  intro j v hv
  rw [h.cell]
  unfold srcV
  rw [List.getElem?_toArray, List.getElem?_append_right (by simp)]
  have hj : j < (s.seed.map (Value.int .u8)).length := by
    rcases Nat.lt_or_ge j (s.seed.map (Value.int .u8)).length with h1 | h1
    · exact h1
    · rw [List.getElem?_eq_none h1] at hv; cases hv
  rw [show 3 + j - [Value.int .i64 s.kind, .slice A s.tape.length c, .int .u64 s.bits].length = j by simp, List.getElem?_append_left hj]
  exact hv
theorem srcV_set (s : Src) (hl : s.seed.length = 32) (A : Option Addr) (c : Nat) (n : Int) : (srcV s A c).setIfInBounds 36 (.int .u64 n) = srcV (s.to n) A c := by
  unfold srcV Src.to
  rw [List.setIfInBounds_toArray]
  congr 1
  rw [List.set_append_right _ _ (by simp), List.set_append_right _ _ (by simp [hl])]
  simp [hl]
theorem size_src : (Tryd.prog.info? 27).map (·.size) = some 37 := by kernel_rfl
theorem zero_src : ∀ W, (zeroValue 27).run Tryd.prog W = .ok (.agg (srcV Src.zero none 0)) W := (zero_of_info (n := 37) (by kernel_rfl)).1
theorem sizedS (s : Src) (hl : s.seed.length = 32) (A : Option Addr) (c : Nat) : (Tryd.prog.info? 27).map (·.size) = some (srcV s A c).size := by rw [srcV_size s hl]; exact size_src
theorem srcV_same (a b : Src) (ha : a.seed.length = 32) (hb : b.seed.length = 32) (A B : Option Addr) (c d : Nat) : (srcV a A c).size = (srcV b B d).size := by rw [srcV_size a ha, srcV_size b hb]
theorem run_build_src0 (w : World) : (Instr.build 27 #[]).run Tryd.prog w = .ok (.agg #[.int .i64 0, .slice none 0 0, .int .u64 0, .int .u8 0, .int .u8 0, .int .u8 0, .int .u8 0, .int .u8 0, .int .u8 0, .int .u8 0, .int .u8 0, .int .u8 0, .int .u8 0, .int .u8 0, .int .u8 0, .int .u8 0, .int .u8 0, .int .u8 0, .int .u8 0, .int .u8 0, .int .u8 0, .int .u8 0, .int .u8 0, .int .u8 0, .int .u8 0, .int .u8 0, .int .u8 0, .int .u8 0, .int .u8 0, .int .u8 0, .int .u8 0, .int .u8 0, .int .u8 0, .int .u8 0, .int .u8 0, .int .u64 0, .int .u64 0]) w := by
  go_simp
theorem build_src0 {a : Act} {o : Oper} (w : World) (ho : o.op = .build 27 #[]) : (execOp a.eval o).run Tryd.prog w = .ok (.value (.agg (srcV Src.zero none 0))) w := by
  unfold execOp
  simp only [ho, List.map_toArray, List.map_nil]
  change ((Instr.build 27 #[]) >>= fun v => pure (Next.value v)).run Tryd.prog w = _
  simp only [Sem.run_bind, run_build_src0, Result.andThen_ok, Sem.run_pure]
  rfl
theorem run_build_src1 (A : Option Addr) (n c : Nat) (b : Int) (w : World) : (Instr.build 27 #[(0, .int .i64 1), (1, .slice A n c), (2, .int .u64 b)]).run Tryd.prog w = .ok (.agg #[.int .i64 1, .slice A n c, .int .u64 b, .int .u8 0, .int .u8 0, .int .u8 0, .int .u8 0, .int .u8 0, .int .u8 0, .int .u8 0, .int .u8 0, .int .u8 0, .int .u8 0, .int .u8 0, .int .u8 0, .int .u8 0, .int .u8 0, .int .u8 0, .int .u8 0, .int .u8 0, .int .u8 0, .int .u8 0, .int .u8 0, .int .u8 0, .int .u8 0, .int .u8 0, .int .u8 0, .int .u8 0, .int .u8 0, .int .u8 0, .int .u8 0, .int .u8 0, .int .u8 0, .int .u8 0, .int .u8 0, .int .u64 0, .int .u64 0]) w := by
  go_simp
def Src.tapeOf (zs : List Int) (b : Int) : Src := ⟨1, zs, b, List.replicate 32 0, 0, 0⟩
def Src.strm (s : List Int) (d : Int) : Src := ⟨2, [], 0, s, d, 0⟩
theorem build_src1 {a : Act} {o : Oper} {x y z : Operand} (w : World) (A : Option Addr) (c : Nat) (zs : List Int) (b : Int) (ho : o.op = .build 27 #[(0, x), (1, y), (2, z)]) (hx : a.eval x = .int .i64 1) (hy : a.eval y = .slice A zs.length c) (hz : a.eval z = .int .u64 b) :
    (execOp a.eval o).run Tryd.prog w = .ok (.value (.agg (srcV (Src.tapeOf zs b) A c))) w := by
  unfold execOp
  simp only [ho, List.map_toArray, List.map_cons, List.map_nil, hx, hy, hz]
  change ((Instr.build 27 #[(0, .int .i64 1), (1, .slice A zs.length c), (2, .int .u64 b)]) >>= fun v => pure (Next.value v)).run Tryd.prog w = _
  simp only [Sem.run_bind, run_build_src1, Result.andThen_ok, Sem.run_pure]
  rfl
theorem run_build_src2 (s0 s1 s2 s3 s4 s5 s6 s7 s8 s9 s10 s11 s12 s13 s14 s15 s16 s17 s18 s19 s20 s21 s22 s23 s24 s25 s26 s27 s28 s29 s30 s31 d : Int) (w : World) : (Instr.build 27 #[(0, .int .i64 2), (3, .agg #[.int .u8 s0, .int .u8 s1, .int .u8 s2, .int .u8 s3, .int .u8 s4, .int .u8 s5, .int .u8 s6, .int .u8 s7, .int .u8 s8, .int .u8 s9, .int .u8 s10, .int .u8 s11, .int .u8 s12, .int .u8 s13, .int .u8 s14, .int .u8 s15, .int .u8 s16, .int .u8 s17, .int .u8 s18, .int .u8 s19, .int .u8 s20, .int .u8 s21, .int .u8 s22, .int .u8 s23, .int .u8 s24, .int .u8 s25, .int .u8 s26, .int .u8 s27, .int .u8 s28, .int .u8 s29, .int .u8 s30, .int .u8 s31]), (4, .int .u64 d)]).run Tryd.prog w = .ok (.agg #[.int .i64 2, .slice none 0 0, .int .u64 0, .int .u8 s0, .int .u8 s1, .int .u8 s2, .int .u8 s3, .int .u8 s4, .int .u8 s5, .int .u8 s6, .int .u8 s7, .int .u8 s8, .int .u8 s9, .int .u8 s10, .int .u8 s11, .int .u8 s12, .int .u8 s13, .int .u8 s14, .int .u8 s15, .int .u8 s16, .int .u8 s17, .int .u8 s18, .int .u8 s19, .int .u8 s20, .int .u8 s21, .int .u8 s22, .int .u8 s23, .int .u8 s24, .int .u8 s25, .int .u8 s26, .int .u8 s27, .int .u8 s28, .int .u8 s29, .int .u8 s30, .int .u8 s31, .int .u64 d, .int .u64 0]) w := by
  go_simp
theorem list32 (s : List Int) (hl : s.length = 32) : s = [s.getD 0 0, s.getD 1 0, s.getD 2 0, s.getD 3 0, s.getD 4 0, s.getD 5 0, s.getD 6 0, s.getD 7 0, s.getD 8 0, s.getD 9 0, s.getD 10 0, s.getD 11 0, s.getD 12 0, s.getD 13 0, s.getD 14 0, s.getD 15 0, s.getD 16 0, s.getD 17 0, s.getD 18 0, s.getD 19 0, s.getD 20 0, s.getD 21 0, s.getD 22 0, s.getD 23 0, s.getD 24 0, s.getD 25 0, s.getD 26 0, s.getD 27 0, s.getD 28 0, s.getD 29 0, s.getD 30 0, s.getD 31 0] := by
  match s, hl with
  | [s0, s1, s2, s3, s4, s5, s6, s7, s8, s9, s10, s11, s12, s13, s14, s15, s16, s17, s18, s19, s20, s21, s22, s23, s24, s25, s26, s27, s28, s29, s30, s31], _ => rfl
theorem build_src2 {a : Act} {o : Oper} {x y z : Operand} (w : World) (s : List Int) (hl : s.length = 32) (d : Int) (ho : o.op = .build 27 #[(0, x), (3, y), (4, z)]) (hx : a.eval x = .int .i64 2) (hy : a.eval y = .agg (intsA .u8 s)) (hz : a.eval z = .int .u64 d) :
    (execOp a.eval o).run Tryd.prog w = .ok (.value (.agg (srcV (Src.strm s d) none 0))) w := by
  rw [list32 s hl] at hy ⊢
  have h := run_build_src2 (s.getD 0 0) (s.getD 1 0) (s.getD 2 0) (s.getD 3 0) (s.getD 4 0) (s.getD 5 0) (s.getD 6 0) (s.getD 7 0) (s.getD 8 0) (s.getD 9 0) (s.getD 10 0) (s.getD 11 0) (s.getD 12 0) (s.getD 13 0) (s.getD 14 0) (s.getD 15 0) (s.getD 16 0) (s.getD 17 0) (s.getD 18 0) (s.getD 19 0) (s.getD 20 0) (s.getD 21 0) (s.getD 22 0) (s.getD 23 0) (s.getD 24 0) (s.getD 25 0) (s.getD 26 0) (s.getD 27 0) (s.getD 28 0) (s.getD 29 0) (s.getD 30 0) (s.getD 31 0) d w
  unfold execOp
  simp only [ho, List.map_toArray, List.map_cons, List.map_nil, hx, hy, hz]
  change ((Instr.build 27 #[(0, .int .i64 2), (3, .agg #[.int .u8 (s.getD 0 0), .int .u8 (s.getD 1 0), .int .u8 (s.getD 2 0), .int .u8 (s.getD 3 0), .int .u8 (s.getD 4 0), .int .u8 (s.getD 5 0), .int .u8 (s.getD 6 0), .int .u8 (s.getD 7 0), .int .u8 (s.getD 8 0), .int .u8 (s.getD 9 0), .int .u8 (s.getD 10 0), .int .u8 (s.getD 11 0), .int .u8 (s.getD 12 0), .int .u8 (s.getD 13 0), .int .u8 (s.getD 14 0), .int .u8 (s.getD 15 0), .int .u8 (s.getD 16 0), .int .u8 (s.getD 17 0), .int .u8 (s.getD 18 0), .int .u8 (s.getD 19 0), .int .u8 (s.getD 20 0), .int .u8 (s.getD 21 0), .int .u8 (s.getD 22 0), .int .u8 (s.getD 23 0), .int .u8 (s.getD 24 0), .int .u8 (s.getD 25 0), .int .u8 (s.getD 26 0), .int .u8 (s.getD 27 0), .int .u8 (s.getD 28 0), .int .u8 (s.getD 29 0), .int .u8 (s.getD 30 0), .int .u8 (s.getD 31 0)]), (4, .int .u64 d)]) >>= fun v => pure (Next.value v)).run Tryd.prog w = _
  simp only [Sem.run_bind, h, Result.andThen_ok, Sem.run_pure]
  rfl
/-- A row of the call's own lies apart from a block of other things. -/
theorem OwnI.apart {w : World} {base g n c : Nat} {e t : TypeId} {k : IntKind} {A : Option Addr} {zs : List Int} {cs : Array Value} (h : OwnI w base e k (.slice A n c) zs) (hb : Blk w g t cs) (hne : e ≠ t) : ∀ b off, 0 < n → A = some ⟨b, off, none⟩ → b ≠ g := by
  intro b off hn hA
  rcases h.2 with ⟨h1, h2⟩ | ⟨g', cap, cur, h1, h2, h3, h4⟩
  · injection h1 with e1 e2 e3
    omega
  · injection h1 with e1 e2 e3
    rw [hA] at e1
    injection e1 with e1
    injection e1 with e1 e4
    subst e1
    rintro rfl
    unfold Blk at hb
    rw [h3] at hb
    injection hb with hb
    injection hb with _ h5
    exact hne h5
theorem size_u64s : (Tryd.prog.info? 23).map (·.size) = some 1 := by kernel_rfl
theorem pow2_le (n : Nat) (h : n ≤ 63) : (2 : Int) ^ n ≤ 9223372036854775808 := by
  have h1 : (2 : Int) ^ n ≤ 2 ^ 63 := by
    have h2 : 2 ^ n ≤ 2 ^ 63 := Nat.pow_le_pow_right (by omega) h
    exact_mod_cast h2
  omega
theorem right_div (x : Int) (q : Nat) (h : q ≤ 7) : Wd.right x (q : Int) = x / 2 ^ q := by
  unfold Wd.right
  rcases Nat.eq_zero_or_pos q with h0 | h0
  · subst h0
    simp
  · rw [if_neg (by omega), if_neg (by omega), Int.toNat_natCast]
/-- What was handed back has its tape where it was, or in memory of its own. -/
def Sep (w : World) (A A' : Option Addr) : Prop := A' = A ∨ ∀ b off, A' = some ⟨b, off, none⟩ → w.heap.size ≤ b
def RetTake (w : World) (s : Src) (k : Int) (A : Option Addr) (e : Ending) (w' : World) : Prop :=
  ∃ A' c', e = .returned (.tuple #[.int .u64 (takeV s k), .agg (srcV (takeS s k) A' c'), .int .i64 (takeE s k)]) ∧ Rd .u8 w' w'.heap.size A' s.tape.length s.tape ∧ s.tape.length ≤ c' ∧ c' ≤ maxLen ∧ Sep w A A' ∧ Below w.heap.size w w'
def RetStrm (w : World) (s : List Int) (d : Int) (e : Ending) (w' : World) : Prop := ∃ A' c', e = .returned (.agg (srcV (Src.strm s d) A' c')) ∧ c' ≤ maxLen ∧ Below w.heap.size w w'
def RetTape (w : World) (zs : List Int) (b : Int) (e : Ending) (w' : World) : Prop :=
  if b ≤ 8 * (zs.length : Int) then ∃ A' c', e = .returned (.tuple #[.agg (srcV (Src.tapeOf zs b) A' c'), .int .i64 0]) ∧ Rd .u8 w' w'.heap.size A' zs.length zs ∧ zs.length ≤ c' ∧ c' ≤ maxLen ∧ Below w.heap.size w w'
  else e = .returned (.tuple #[.agg (srcV Src.zero none 0), .int .i64 1]) ∧ Below w.heap.size w w'
/-- Two blocks of sources of the call's own, the second one newer. -/
def Src2 (w : World) (g2 g5 : Nat) (V Z : Array Value) : World → Prop := Fx [.blk g5 27 Z, .blk g2 27 V, .bel w]
section
variable {w w1 w2 : World} {g2 g5 : Nat} {V Z X : Array Value}
theorem Src2.below (h : Src2 w g2 g5 V Z w1) (hb : Below w1.heap.size w1 w2) : Src2 w g2 g5 V Z w2 := Fx.below h hb
theorem Src2.drew (h : Src2 w g2 g5 V Z w1) : Src2 w g2 g5 V Z w1.drew := Fx.drew h
theorem Src2.snd (h : Src2 w g2 g5 V Z w1) : Blk w1 g5 27 Z := h.1
theorem Src2.fst (h : Src2 w g2 g5 V Z w1) : Blk w1 g2 27 V := h.2.1
theorem Src2.bel (h : Src2 w g2 g5 V Z w1) : Below w.heap.size w w1 := h.2.2.1
theorem Src2.keep (h : Src2 w g2 g5 V Z w1) : Fx [.blk g2 27 V, .bel w] w1 := h.2
theorem Src2.old (h : Src2 w g2 g5 V Z w1) : Fx [.blk g5 27 Z] w1 := ⟨h.1, trivial⟩
theorem Src2.mk (h : Fx [.blk g2 27 V, .bel w] w1) (h2 : Blk w1 g5 27 Z) : Src2 w g2 g5 V Z w1 := ⟨h2, h⟩
/-- The first one is written in part. -/
theorem Src2.only (h : Src2 w g2 g5 V Z w1) (h0 : w.heap.size ≤ g2) (h1 : g2 < g5) (hk : Blk w2 g2 27 X) (ho : Only g2 w1 w2) : Src2 w g2 g5 X Z w2 :=
  ⟨Blk.only h.1 ho (Nat.ne_of_gt h1), hk, Below.trans h.bel (ho.below h0 h.bel.size), trivial⟩
end
section
variable {P : Program} {w : World} {ops : Array Oper} {rest : List Oper} {o : Oper} {a : Act} {Q : Exit → Act → World → Prop}
/-- A row is loaded behind a guard that holds. -/
theorem wpList_load_gdb (hw : Region.wanted o (yielded ops a.tmps) = true) (ty : TypeId) (x : Operand) (ho : o.op = .load ty x) (g : Nat) (hx : a.eval x = .pointer (some ⟨g, 0, none⟩)) (t : TypeId) (cs : Array Value) (hb : Blk w g t cs)
    (d : TypeDesc) (hu : P.underlying ty = some d) (hd : d.isRow = true) (hi : (P.info? ty).map (·.size) = some cs.size)
    (h : wpList P ops Q rest (a.put o.dst (.agg cs)) w) : wpList P ops Q (o :: rest) a w :=
  wpList_step fun K hK => by
    rw [if_pos hw]
    exact wp_load_mid ty x ho g 0 hx cs.toList d hb.range hu hd (by rw [Array.length_toList]; exact hi) (hK _ _ h)
/-- The same of integers that lie within a row. -/
theorem wpList_load_gdo (hw : Region.wanted o (yielded ops a.tmps) = true) (ty : TypeId) (x : Operand) (ho : o.op = .load ty x) (g off : Nat) (hx : a.eval x = .pointer (some ⟨g, off, none⟩)) (k : IntKind) (zs : List Int) (hb : w.rangeAt g off (zs.map (Value.int k)))
    (d : TypeDesc) (hu : P.underlying ty = some d) (hd : d.isRow = true) (hi : (P.info? ty).map (·.size) = some zs.length)
    (h : wpList P ops Q rest (a.put o.dst (.agg (intsA k zs))) w) : wpList P ops Q (o :: rest) a w :=
  wpList_step fun K hK => by
    rw [if_pos hw]
    exact wp_load_mid ty x ho g off hx (zs.map (Value.int k)) d hb hu hd (by rw [List.length_map]; exact hi) (hK _ _ h)
/-- A row out of memory, between two values. -/
theorem bodyPost_mid {fn : Func} {R : Ending → World → Prop} (p0 p p1 : Tmp) (ty : TypeId) (h : fn.results = #[.tmp p0, .cell p ty, .tmp p1]) (g : Nat) (ht : a.tmps.getD p undef = .pointer (some ⟨g, 0, none⟩)) (v0 v1 : Value) (h0 : a.tmps.getD p0 undef = v0) (h1 : a.tmps.getD p1 undef = v1) (t : TypeId) (cs : Array Value) (hb : Blk w g t cs)
    (d : TypeDesc) (hu : P.underlying ty = some d) (hd : d.isRow = true) (hi : (P.info? ty).map (·.size) = some cs.size) (hdf : a.defers = []) (hR : R (.returned (.tuple #[v0, .agg cs, v1])) w) : bodyPost P fn R .ret a w := by
  refine bodyPost_ret (v := .tuple #[v0, .agg cs, v1]) ?_ hdf hR
  have hl := run_loadVar_mid (P := P) w g 0 ty cs.toList d hb.range hu hd (by rw [Array.length_toList]; exact hi)
  have ht' : a.tmps[p]?.getD undef = .pointer (some ⟨g, 0, none⟩) := by rw [← ht, Array.getD_eq_getD_getElem?]
  have h0' : a.tmps[p0]?.getD undef = v0 := by rw [← h0, Array.getD_eq_getD_getElem?]
  have h1' : a.tmps[p1]?.getD undef = v1 := by rw [← h1, Array.getD_eq_getD_getElem?]
  simp only [results, h]
  simp [ht', h0', h1', asAddr, hl]
end
end Go.Proofs.YtmeefnhmkffdlaaDoor
/-
  == of two hashes by value; small matters that laws share.
  Conditions: those that each theorem names.
-/
set_option maxRecDepth 100000
set_option linter.unusedVariables false
set_option linter.unusedSimpArgs false
namespace Go.Proofs.YtmeefnhmkffdlaaDoor
open Go.ChangeShapes Go.WideShapes Go.ChangeAt Go.RowKit
theorem Rd.to {k : IntKind} {w w' : World} {n : Nat} {A : Option Addr} {zs : List Int} (h : Rd k w w.heap.size A n zs) (hb : Below w.heap.size w w') : Rd k w' w'.heap.size A n zs := (h.below hb).mono hb.size
theorem eq_hash (zs ys : List Int) (hz : zs.length = 32) (hy : ys.length = 32) (w : World) : (Op.equalIn 10000 25 (.agg (intsA .u8 zs)) (.agg (intsA .u8 ys))).run Tryd.prog w = .ok (decide (zs = ys)) w := by
  obtain ⟨i0, hi, _, hs, _⟩ := info_parts info_u8'
  exact run_equal_ints Tryd.underlying25 Tryd.underlying5 hi hs (by kernel_rfl) zs ys hz hy w
theorem same_hash (zs : List Int) (hz : zs.length = 32) (w : World) : (Op.equalIn 10000 25 (.agg (intsA .u8 zs)) (.agg (intsA .u8 zs))).run Tryd.prog w = .ok true w := by
  have := eq_hash zs zs hz hz w
  rwa [decide_eq_true rfl] at this
theorem u8b {l : List Int} (h : ∀ z ∈ l, (Lit.int .u8 z).wf = true) : ∀ z ∈ l, 0 ≤ z ∧ z < 256 := fun z hz => by have := bounds_u8 (h z hz); omega
end Go.Proofs.YtmeefnhmkffdlaaDoor
/-
  Draws below a bound in plain Lean: attempt by attempt; which attempt draws; how many tapes draw which number.
  Conditions: those that each theorem names.
-/
set_option maxRecDepth 100000
set_option linter.unusedVariables false
set_option linter.unusedSimpArgs false
namespace Go.Proofs.YtmeefnhmkffdlaaDoor
/-- How many bits an attempt takes. -/
def needN (n : Int) : Nat := if n = 0 then 0 else Wd.bitsL (n - 1).toNat
theorem needN_le (n : Int) (h0 : 0 ≤ n) (h1 : n < 18446744073709551616) : needN n ≤ 64 := by
  unfold needN
  split
  · omega
  · exact Wd.bitsL_le _ (by omega)
/-- What is drawn by so many attempts of k bits: the number, the source, the error. -/
def drawGo (k : Nat) (n : Int) : Nat → Src → Int × Src × Int
  | 0, s => (0, s, 9)
  | m + 1, s => if takeE s k = 0 then (if takeV s k < n then (takeV s k, takeS s k, 0) else drawGo k n m (takeS s k)) else (0, s, takeE s k)
def drawB (s : Src) (n a : Int) : Bool := rightS s && decide (1 ≤ n ∧ n < 9223372036854775808 ∧ 1 ≤ a ∧ a ≤ 64)
def drawR (s : Src) (n a : Int) : Int × Src × Int := if drawB s n a = true then drawGo (needN n) n a.toNat s else (0, s, 1)
def drawV (s : Src) (n a : Int) : Int := (drawR s n a).1
def drawT (s : Src) (n a : Int) : Src := (drawR s n a).2.1
def drawE (s : Src) (n a : Int) : Int := (drawR s n a).2.2
theorem drawGo_zero (k : Nat) (n : Int) (s : Src) : drawGo k n 0 s = (0, s, 9) := rfl
theorem drawGo_err {k : Nat} {n : Int} {m : Nat} {s : Src} (h : takeE s k ≠ 0) : drawGo k n (m + 1) s = (0, s, takeE s k) := by rw [drawGo, if_neg h]
theorem drawGo_hit {k : Nat} {n : Int} {m : Nat} {s : Src} (h : takeE s k = 0) (hx : takeV s k < n) : drawGo k n (m + 1) s = (takeV s k, takeS s k, 0) := by rw [drawGo, if_pos h, if_pos hx]
theorem drawGo_miss {k : Nat} {n : Int} {m : Nat} {s : Src} (h : takeE s k = 0) (hx : ¬ takeV s k < n) : drawGo k n (m + 1) s = drawGo k n m (takeS s k) := by rw [drawGo, if_pos h, if_neg hx]
theorem takeS_to {s : Src} {k : Nat} (h : takeE s k = 0) : takeS s k = s.to (s.at_ + k) := by unfold takeS; rw [if_pos h]
theorem to_to (s : Src) (m n : Int) : (s.to m).to n = s.to n := rfl
theorem to_self (s : Src) : s.to s.at_ = s := rfl
theorem drawGo_src (k : Nat) (n : Int) : ∀ (m : Nat) (s : Src), ∃ p, (drawGo k n m s).2.1 = s.to p
  | 0, s => ⟨s.at_, rfl⟩
  | m + 1, s => by
    by_cases h : takeE s k = 0
    · by_cases hx : takeV s k < n
      · rw [drawGo_hit h hx]; exact ⟨_, takeS_to h⟩
      · rw [drawGo_miss h hx, takeS_to h]
        obtain ⟨p, hp⟩ := drawGo_src k n m (s.to (s.at_ + k))
        exact ⟨p, by rw [hp, to_to]⟩
    · rw [drawGo_err h]; exact ⟨s.at_, rfl⟩
theorem drawGo_ok (k : Nat) (n : Int) : ∀ (m : Nat) (s : Src), s.Ok → (drawGo k n m s).2.1.Ok
  | 0, s, ok => ok
  | m + 1, s, ok => by
    by_cases h : takeE s k = 0
    · by_cases hx : takeV s k < n
      · rw [drawGo_hit h hx]; exact takeS_ok ok k
      · rw [drawGo_miss h hx]; exact drawGo_ok k n m _ (takeS_ok ok k)
    · rw [drawGo_err h]; exact ok
theorem drawGo_val (k : Nat) (n : Int) : ∀ (m : Nat) (s : Src), 0 ≤ (drawGo k n m s).1 ∧ (drawGo k n m s).1 < 18446744073709551616
  | 0, s => by rw [drawGo_zero]; exact ⟨Int.le_refl _, (by show (0 : Int) < 18446744073709551616; omega)⟩
  | m + 1, s => by
    by_cases h : takeE s k = 0
    · by_cases hx : takeV s k < n
      · rw [drawGo_hit h hx]; exact takeV_in s k
      · rw [drawGo_miss h hx]; exact drawGo_val k n m _
    · rw [drawGo_err h]; exact ⟨Int.le_refl _, (by show (0 : Int) < 18446744073709551616; omega)⟩
theorem takeE_in (s : Src) (k : Int) : takeE s k = 0 ∨ takeE s k = 8 ∨ takeE s k = 1 := by unfold takeE; split <;> (try split) <;> omega
theorem drawGo_e (k : Nat) (n : Int) : ∀ (m : Nat) (s : Src), 0 ≤ (drawGo k n m s).2.2 ∧ (drawGo k n m s).2.2 < 16
  | 0, s => by rw [drawGo_zero]; exact ⟨(by show (0 : Int) ≤ 9; omega), (by show (9 : Int) < 16; omega)⟩
  | m + 1, s => by
    by_cases h : takeE s k = 0
    · by_cases hx : takeV s k < n
      · rw [drawGo_hit h hx]; exact ⟨(by show (0 : Int) ≤ 0; omega), (by show (0 : Int) < 16; omega)⟩
      · rw [drawGo_miss h hx]; exact drawGo_e k n m _
    · rw [drawGo_err h]; have := takeE_in s k; exact ⟨by show 0 ≤ takeE s k; omega, by show takeE s k < 16; omega⟩
theorem drawT_ok (s : Src) (n a : Int) (ok : s.Ok) : (drawT s n a).Ok := by
  unfold drawT drawR
  split
  · exact drawGo_ok _ _ _ _ ok
  · exact ok
theorem drawT_tape (s : Src) (n a : Int) : (drawT s n a).tape = s.tape := by
  unfold drawT drawR
  split
  · obtain ⟨p, hp⟩ := drawGo_src (needN n) n a.toNat s
    rw [hp]; rfl
  · rfl
/-- Beside an error the number is 0. -/
theorem drawGo_no (k : Nat) (n : Int) : ∀ (m : Nat) (s : Src), (drawGo k n m s).2.2 ≠ 0 → (drawGo k n m s).1 = 0
  | 0, s, _ => rfl
  | m + 1, s, he => by
    by_cases h : takeE s k = 0
    · by_cases hx : takeV s k < n
      · rw [drawGo_hit h hx] at he; exact absurd rfl he
      · rw [drawGo_miss h hx] at he ⊢; exact drawGo_no k n m _ he
    · rw [drawGo_err h]
/-- Which attempt draws: the ones ahead of it draw nothing. -/
theorem drawGo_first (k : Nat) (n : Int) : ∀ (m : Nat) (s : Src), (drawGo k n m s).2.2 = 0 → (drawGo k n m s).1 < n ∧ ∃ j, j < m ∧ (drawGo k n m s).2.1 = s.to (s.at_ + (k * (j + 1) : Nat)) ∧ drawGo k n j s = (0, s.to (s.at_ + (k * j : Nat)), 9)
  | 0, s, he => by rw [drawGo_zero] at he; exact absurd he (by show ¬ (9 : Int) = 0; omega)
  | m + 1, s, he => by
    by_cases h : takeE s k = 0
    · by_cases hx : takeV s k < n
      · rw [drawGo_hit h hx]
        refine ⟨hx, 0, by omega, ?_, ?_⟩
        · rw [Nat.zero_add, Nat.mul_one]; exact takeS_to h
        · rw [Nat.mul_zero, Int.natCast_zero, Int.add_zero]; rfl
      · rw [drawGo_miss h hx] at he ⊢
        obtain ⟨h1, j, hj, h2, h3⟩ := drawGo_first k n m _ he
        refine ⟨h1, j + 1, by omega, ?_, ?_⟩
        · rw [h2, takeS_to h, to_to]
          rw [show (s.to (s.at_ + (k : Int))).at_ + ((k * (j + 1) : Nat) : Int) = s.at_ + ((k * (j + 1 + 1) : Nat) : Int) from (by
            show s.at_ + (k : Int) + _ = _
            rw [Nat.mul_add k (j + 1) 1]
            omega)]
        · rw [drawGo_miss h hx, h3, takeS_to h, to_to]
          rw [show (s.to (s.at_ + (k : Int))).at_ + ((k * j : Nat) : Int) = s.at_ + ((k * (j + 1) : Nat) : Int) from (by
            show s.at_ + (k : Int) + _ = _
            rw [Nat.mul_add k j 1]
            omega)]
    · rw [drawGo_err h] at he
      exact absurd he h
/-! ### how many tapes draw which number -/
/-- How many of the first N numbers have a property. -/
def cnt (P : Nat → Bool) : Nat → Nat
  | 0 => 0
  | N + 1 => cnt P N + if P N = true then 1 else 0
theorem cnt_add (P : Nat → Bool) (a : Nat) : ∀ b, cnt P (a + b) = cnt P a + cnt (fun y => P (a + y)) b
  | 0 => rfl
  | b + 1 => by
    rw [← Nat.add_assoc, cnt, cnt_add P a b, cnt]
    omega
theorem cnt_congr {P Q : Nat → Bool} : ∀ N, (∀ y, y < N → P y = Q y) → cnt P N = cnt Q N
  | 0, _ => rfl
  | N + 1, h => by rw [cnt, cnt, cnt_congr N (fun y hy => h y (by omega)), h N (by omega)]
theorem cnt_all (N : Nat) : cnt (fun _ => true) N = N := by
  induction N with
  | zero => rfl
  | succ N ih => rw [cnt, ih]; rfl
theorem cnt_none (N : Nat) : cnt (fun _ => false) N = 0 := by
  induction N with
  | zero => rfl
  | succ N ih => rw [cnt, ih]; rfl
theorem cnt_le (P : Nat → Bool) (N : Nat) : cnt P N ≤ N := by
  induction N with
  | zero => exact Nat.le_refl _
  | succ N ih => rw [cnt]; split <;> omega
/-- What the number x, as m attempts of a Q-fold each, the first one highest, draws: some number below n, or nothing. -/
def hits (Q n : Nat) : Nat → Nat → Option Nat
  | 0, _ => none
  | m + 1, x => if x / Q ^ m < n then some (x / Q ^ m) else hits Q n m (x % Q ^ m)
theorem hits_lt (Q n : Nat) : ∀ m x v, hits Q n m x = some v → v < n
  | 0, _, _, h => by cases h
  | m + 1, x, v, h => by
    rw [hits] at h
    split at h
    · rename_i h1; injection h with h; omega
    · exact hits_lt Q n m _ v h
theorem div_rem (h R lo : Nat) (hlo : lo < R) : (h * R + lo) / R = h ∧ (h * R + lo) % R = lo := by
  rw [Nat.mul_comm, Nat.mul_add_div (by omega), Nat.div_eq_of_lt hlo, Nat.mul_add_mod, Nat.mod_eq_of_lt hlo]
  exact ⟨rfl, rfl⟩
theorem hits_step (Q n m h lo : Nat) (hlo : lo < Q ^ m) : hits Q n (m + 1) (h * Q ^ m + lo) = if h < n then some h else hits Q n m lo := by
  obtain ⟨e1, e2⟩ := div_rem h (Q ^ m) lo hlo
  rw [hits, e1, e2]
/-- By h first attempts of Q. -/
theorem cnt_hits_up (Q n m v : Nat) (hv : v < n) : ∀ h, cnt (fun x => hits Q n (m + 1) x == some v) (h * Q ^ m) = (if v < h then Q ^ m else 0) + (h - n) * cnt (fun x => hits Q n m x == some v) (Q ^ m)
  | 0 => by rw [Nat.zero_mul, Nat.zero_sub, Nat.zero_mul]; rfl
  | h + 1 => by
    rw [Nat.add_mul, Nat.one_mul, cnt_add, cnt_hits_up Q n m v hv h]
    have hstep : cnt (fun y => hits Q n (m + 1) (h * Q ^ m + y) == some v) (Q ^ m) = if h < n then (if h = v then Q ^ m else 0) else cnt (fun x => hits Q n m x == some v) (Q ^ m) := by
      by_cases h1 : h < n
      · rw [if_pos h1]
        by_cases h2 : h = v
        · rw [if_pos h2, cnt_congr (Q := fun _ => true) _ (fun y hy => by rw [hits_step Q n m h y hy, if_pos h1, h2]; simp), cnt_all]
        · rw [if_neg h2, cnt_congr (Q := fun _ => false) _ (fun y hy => by rw [hits_step Q n m h y hy, if_pos h1]; simpa using h2), cnt_none]
      · rw [if_neg h1]
        exact cnt_congr _ (fun y hy => by rw [hits_step Q n m h y hy, if_neg h1])
    rw [hstep]
    by_cases h1 : h < n
    · rw [if_pos h1, show h - n = 0 by omega, show h + 1 - n = 0 by omega]
      by_cases h2 : h = v
      · rw [if_pos h2, if_neg (by omega), if_pos (by omega)]; omega
      · rw [if_neg h2]
        by_cases h3 : v < h
        · rw [if_pos h3, if_pos (by omega), Nat.add_zero]
        · rw [if_neg h3, if_neg (by omega), Nat.add_zero]
    · rw [if_neg h1, if_pos (by omega), if_pos (by omega), show h + 1 - n = h - n + 1 by omega, Nat.add_mul, Nat.one_mul]
      omega
theorem cnt_none_up (Q n m : Nat) : ∀ h, cnt (fun x => hits Q n (m + 1) x == none) (h * Q ^ m) = (h - n) * cnt (fun x => hits Q n m x == none) (Q ^ m)
  | 0 => by rw [Nat.zero_mul, Nat.zero_sub, Nat.zero_mul]; rfl
  | h + 1 => by
    rw [Nat.add_mul, Nat.one_mul, cnt_add, cnt_none_up Q n m h]
    have hstep : cnt (fun y => hits Q n (m + 1) (h * Q ^ m + y) == none) (Q ^ m) = if h < n then 0 else cnt (fun x => hits Q n m x == none) (Q ^ m) := by
      by_cases h1 : h < n
      · rw [if_pos h1, cnt_congr (Q := fun _ => false) _ (fun y hy => by rw [hits_step Q n m h y hy, if_pos h1]; simp), cnt_none]
      · rw [if_neg h1]
        exact cnt_congr _ (fun y hy => by rw [hits_step Q n m h y hy, if_neg h1])
    rw [hstep]
    by_cases h1 : h < n
    · rw [if_pos h1, show h - n = 0 by omega, show h + 1 - n = 0 by omega, Nat.zero_mul]
    · rw [if_neg h1, show h + 1 - n = h - n + 1 by omega, Nat.add_mul, Nat.one_mul]
/-- Nothing is drawn by just the others. -/
theorem cnt_lost (Q n : Nat) : ∀ m, cnt (fun x => hits Q n m x == none) (Q ^ m) = (Q - n) ^ m
  | 0 => by rw [Nat.pow_zero, Nat.pow_zero]; rfl
  | m + 1 => by rw [Nat.pow_succ, Nat.mul_comm, cnt_none_up, cnt_lost Q n m, Nat.pow_succ, Nat.mul_comm]
/-- Each number is drawn by just as many. -/
theorem cnt_even (Q n v : Nat) (hv : v < n) (hQ : n ≤ Q) : ∀ m, cnt (fun x => hits Q n m x == some v) (Q ^ m) * n + (Q - n) ^ m = Q ^ m
  | 0 => by
    rw [Nat.pow_zero, Nat.pow_zero, show cnt (fun x => hits Q n 0 x == some v) 1 = 0 from rfl, Nat.zero_mul]
  | m + 1 => by
    have ih := cnt_even Q n v hv hQ m
    rw [Nat.pow_succ, Nat.mul_comm (Q ^ m), cnt_hits_up Q n m v hv Q, if_pos (by omega), Nat.pow_succ]
    obtain ⟨d, rfl⟩ : ∃ d, Q = n + d := ⟨Q - n, by omega⟩
    rw [Nat.add_sub_cancel_left] at ih ⊢
    generalize cnt (fun x => hits (n + d) n m x == some v) ((n + d) ^ m) = c at ih ⊢
    generalize (n + d) ^ m = R at ih ⊢
    generalize d ^ m = D at ih ⊢
    subst ih
    rw [Nat.add_mul, Nat.add_mul, Nat.mul_add, Nat.add_mul n d, Nat.add_mul n d]
    have e1 : n * (c * n) = c * n * n := Nat.mul_comm _ _
    have e2 : d * c * n = d * (c * n) := Nat.mul_assoc _ _ _
    have e3 : D * d = d * D := Nat.mul_comm _ _
    have e4 : n * D = D * n := Nat.mul_comm _ _
    omega
end Go.Proofs.YtmeefnhmkffdlaaDoor
/-
  Draws in memory: the source that is drawn from, the place of the one that is handed back, and what else stays.
  Conditions: those that each theorem names.
-/
set_option maxRecDepth 100000
set_option linter.unusedVariables false
set_option linter.unusedSimpArgs false
namespace Go.Proofs.YtmeefnhmkffdlaaDoor
open Go.ChangeShapes Go.WideShapes Go.ChangeAt Go.RowKit
/-- A slice that is not empty lies apart from a block. -/
def Apt (n : Nat) (A : Option Addr) (g : Nat) : Prop := ∀ b off, 0 < n → A = some ⟨b, off, none⟩ → b ≠ g
theorem Apt.of_lt {k : IntKind} {w : World} {B n g : Nat} {A : Option Addr} {zs : List Int} (h : Rd k w B A n zs) (hg : B ≤ g) : Apt n A g := fun b off hn hA => by
  obtain ⟨b', off', e, hlt, _⟩ := h.2 hn
  rw [hA] at e
  injection e with e
  injection e with e1 e2
  omega
theorem Apt.of_sep {w : World} {n g : Nat} {A A' : Option Addr} (h : Sep w A A') (ha : Apt n A g) (hg : g < w.heap.size) : Apt n A' g := fun b off hn hA => by
  rcases h with h | h
  · rw [h] at hA; exact ha b off hn hA
  · have := h b off hA; omega
theorem Sep.trans {w w' : World} {A B C : Option Addr} (h : Sep w A B) (h' : Sep w' B C) (hs : w.heap.size ≤ w'.heap.size) : Sep w A C := by
  rcases h' with h1 | h1
  · rw [h1]; exact h
  · exact .inr fun b off hA => by have := h1 b off hA; omega
theorem Sep.refl (w : World) (A : Option Addr) : Sep w A A := .inl rfl
/-- A slice of bytes that reads as a list. -/
def RdP (A : Option Addr) (n : Nat) (zs : List Int) (w : World) : Prop := Rd .u8 w w.heap.size A n zs
section
variable {A : Option Addr} {n : Nat} {zs : List Int} {w w' : World}
theorem RdP.rd (h : RdP A n zs w) : Rd .u8 w w.heap.size A n zs := h
theorem RdP.below (h : RdP A n zs w) (hb : Below w.heap.size w w') : RdP A n zs w' := (Rd.below h hb).mono hb.size
theorem RdP.drew (h : RdP A n zs w) : RdP A n zs w.drew := h.below (Below.refl _ _).drew
theorem RdP.store {g : Nat} {t : TypeId} {cs : Array Value} (h : RdP A n zs w) (hk : Blk w g t cs) (ha : Apt n A g) (hs : w'.heap.size = w.heap.size) (hb : ∀ B, B ≤ g → Below B w w') (ho : ∀ j, j ≠ g → w'.heap[j]? = w.heap[j]?) : RdP A n zs w' := by
  have h1 := Rd.other h ho ha
  show Rd .u8 w' w'.heap.size A n zs
  rw [hs]
  exact h1
end
/-- The source that is drawn from at g3; the place of what is handed back at g7; the source's tape. -/
structure DrS (w0 : World) (g3 g7 : Nat) (V : Array Value) (A : Option Addr) (n : Nat) (zs : List Int) (w : World) : Prop where
  blk : Blk w g3 27 V
  bel : Below w0.heap.size w0 w
  rd : RdP A n zs w
  apt3 : Apt n A g3
  apt7 : Apt n A g7
  le3 : w0.heap.size ≤ g3
  lt : g3 < g7
  lt7 : g7 < w.heap.size
section
variable {w0 w w' : World} {g3 g7 n : Nat} {V V' : Array Value} {A A' : Option Addr} {zs : List Int}
theorem DrS.below (h : DrS w0 g3 g7 V A n zs w) (hb : Below w.heap.size w w') : DrS w0 g3 g7 V A n zs w' :=
  ⟨h.blk.below hb h.blk.lt, Below.trans h.bel (hb.mono h.bel.size), h.rd.below hb, h.apt3, h.apt7, h.le3, h.lt, by have := h.lt7; have := hb.size; omega⟩
theorem DrS.drew (h : DrS w0 g3 g7 V A n zs w) : DrS w0 g3 g7 V A n zs w.drew := h.below (Below.refl _ _).drew
theorem DrS.le7 (h : DrS w0 g3 g7 V A n zs w) : w0.heap.size ≤ g7 := by have := h.le3; have := h.lt; omega
theorem DrS.lt3 (h : DrS w0 g3 g7 V A n zs w) : g3 < w.heap.size := by have := h.lt; have := h.lt7; omega
/-- Another block is stored. -/
theorem DrS.store {g : Nat} {t : TypeId} {cs : Array Value} (h : DrS w0 g3 g7 V A n zs w) (hk : Blk w g t cs) (ha : g3 ≠ g ∧ Apt n A g ∧ w0.heap.size ≤ g) (hs : w'.heap.size = w.heap.size) (hb : ∀ B, B ≤ g → Below B w w') (ho : ∀ j, j ≠ g → w'.heap[j]? = w.heap[j]?) : DrS w0 g3 g7 V A n zs w' :=
  ⟨Blk.other h.blk ho ha.1, Below.trans h.bel (hb _ ha.2.2), h.rd.store hk ha.2.1 hs hb ho, h.apt3, h.apt7, h.le3, h.lt, by rw [hs]; exact h.lt7⟩
/-- The place of what is handed back is stored. -/
theorem DrS.store7 (h : DrS w0 g3 g7 V A n zs w) : g3 ≠ g7 ∧ Apt n A g7 ∧ w0.heap.size ≤ g7 := ⟨Nat.ne_of_lt h.lt, h.apt7, h.le7⟩
/-- The source that is drawn from is stored, with another tape. -/
theorem DrS.put3 (h : DrS w0 g3 g7 V A n zs w) (hr : RdP A' n zs w) (h3 : Apt n A' g3) (h7 : Apt n A' g7) (hk : Blk w' g3 27 V') (hs : w'.heap.size = w.heap.size) (hb : ∀ B, B ≤ g3 → Below B w w') (ho : ∀ j, j ≠ g3 → w'.heap[j]? = w.heap[j]?) : DrS w0 g3 g7 V' A' n zs w' :=
  ⟨hk, Below.trans h.bel (hb _ h.le3), hr.store h.blk h3 hs hb ho, h3, h7, h.le3, h.lt, by rw [hs]; exact h.lt7⟩
/-- Its blocks come one behind the other. -/
theorem DrS.mk2 {w1 w2 w3 : World} {Z : Array Value} (hrd : Rd .u8 w w.heap.size A n zs) (hk1 : Blk w1 w.heap.size 27 V) (hb1 : Below w.heap.size w w1) (hk2 : Blk w2 w1.heap.size 27 Z) (hb2 : Below w1.heap.size w1 w2) (hb3 : Below w2.heap.size w2 w3) : DrS w w.heap.size w1.heap.size V A n zs w3 :=
  have hb13 : Below w1.heap.size w1 w3 := hb2.trans (hb3.mono hb2.size)
  have hb03 : Below w.heap.size w w3 := hb1.trans (hb13.mono hb1.size)
  ⟨hk1.below hb13 hk1.lt, hb03, (hrd.below hb03).mono hb03.size, Apt.of_lt hrd (Nat.le_refl _), Apt.of_lt hrd hb1.size, Nat.le_refl _, hk1.lt, by have := hk2.lt; have := hb3.size; omega⟩
end
/-- What a draw hands back, and leaves. -/
def RetDraw (w : World) (s : Src) (A : Option Addr) (r : Int × Src × Int) (e : Ending) (w' : World) : Prop :=
  ∃ A' c', e = .returned (.tuple #[.int .u64 r.1, .agg (srcV r.2.1 A' c'), .int .i64 r.2.2]) ∧ Rd .u8 w' w'.heap.size A' s.tape.length s.tape ∧ s.tape.length ≤ c' ∧ c' ≤ maxLen ∧ Sep w A A' ∧ Below w.heap.size w w'
/-- Behind so many attempts that drew nothing. -/
def DrL (w0 : World) (g3 g7 : Nat) (s : Src) (k : Nat) (n : Int) (a : Nat) (A0 : Option Addr) (Z : Array Value) (i : Nat) (w : World) : Prop :=
  ∃ si Ai ci, drawGo k n a s = drawGo k n (a - i) si ∧ si.Ok ∧ si.tape = s.tape ∧ DrS w0 g3 g7 (srcV si Ai ci) Ai s.tape.length s.tape w ∧ Fx [.blk g7 27 Z] w ∧ Sep w0 A0 Ai ∧ s.tape.length ≤ ci ∧ ci ≤ maxLen
end Go.Proofs.YtmeefnhmkffdlaaDoor
/-
  What the program's stream.Domain and Split return, and the reference's Domain and pow; they leave memory as it was.
  Conditions: the arguments lie in their types' ranges.
-/
set_option maxRecDepth 100000
set_option linter.unusedSimpArgs false
namespace Go.Proofs.YtmeefnhmkffdlaaDoor
open Go.ChangeShapes Go.WideShapes Go.ChangeAt Go.RowKit
set_option linter.unusedVariables false
theorem dom_or (k i : Int) (k0 : 0 ≤ k) (k1 : k < 4294967296) (i0 : 0 ≤ i) (i1 : i < 4294967296) : bits .or .u64 (k * 4294967296) i = k * 4294967296 + i := Wd.u64_or_add k i 32 k0 i0 (by omega) (by omega)
theorem pow2_lt (n : Nat) (h : n ≤ 63) : (2 : Int) ^ n < 18446744073709551616 := by
  have h1 : (2 : Int) ^ n ≤ 2 ^ 63 := by
    have h2 : 2 ^ n ≤ 2 ^ 63 := Nat.pow_le_pow_right (by omega) h
    exact_mod_cast h2
  omega
theorem pow2_next (n : Nat) : (2 : Int) * 2 ^ n = 2 ^ (n + 1) := by rw [Int.pow_succ]; omega
theorem rpow_c (n : Nat) (hn : n ≤ 63) (w : World) :
    Calls Tryd.prog 34 #[.int .u64 n] w fun e w' => e = .returned (.int .u64 (2 ^ n)) ∧ w' = w := by
  go_enter Tryd.func34, Tryd.ntmps34
  go_wp2
  go_loop [3, 4] (fun p v => ∃ i : Nat, i ≤ n ∧ p = .int .u64 (2 ^ i) ∧ v = .int .u64 i) (fun _ v => n - (intOf v).toNat)
  case atStart => exact ⟨0, by omega, rfl, rfl⟩
  case round =>
    obtain ⟨i, hi, rfl, rfl⟩ := hrel
    by_cases hlt : i < n
    · have p0 := Wd.pow_pos2 i
      have p1 := pow2_lt (i + 1) (by omega)
      have e := pow2_next i
      rw [← e] at p1
      have HE := Lib.hid e
      clear e
      obtain ⟨p, hp⟩ : ∃ p : Int, 2 ^ i = p := ⟨_, rfl⟩
      rw [hp] at p0 p1 HE ⊢
      go_wp2
      go_round
      case rel => exact ⟨i + 1, by omega, by rw [← HE.out], by go_num⟩
      case measure => simp [intOf]; omega
    · obtain rfl : i = n := by omega
      go_wp2
      go_ret
      exact ⟨rfl, rfl⟩
end Go.Proofs.YtmeefnhmkffdlaaDoor
/-
  What the reference's functions of stage 6 return (drawlotref06: Block, Bit, Bytes), and that they leave memory as it was.
  Conditions: the arguments lie in their types' ranges.
-/
set_option maxRecDepth 100000
set_option linter.unusedSimpArgs false
namespace Go.Proofs.YtmeefnhmkffdlaaDoor
open Go.ChangeShapes Go.WideShapes Go.ChangeAt Go.RowKit
set_option linter.unusedVariables false
theorem rput64s_c (x : Int) (h0 : 0 ≤ x) (h1 : x < 18446744073709551616) (w : World) : Calls Tryd.prog 36 #[.int .u64 x] w fun e w' => e = .returned (.agg (intsA .u8 (put8L x))) ∧ Below w.heap.size w w' :=
  (rput64_c x h0 h1 w).mono fun _ _ ⟨h, h2, _⟩ => ⟨h, h2⟩
set_option maxHeartbeats 4000000 in
theorem rblock_c (s : List Int) (d i : Int) (hl : s.length = 32) (hs : ∀ z ∈ s, 0 ≤ z ∧ z < 256) (d0 : 0 ≤ d) (d1 : d < 18446744073709551616) (i0 : 0 ≤ i) (i1 : i < 18446744073709551616) (w : World) :
    Calls Tryd.prog 33 #[.agg (intsA .u8 s), .int .u64 d, .int .u64 i] w fun e w' => e = .returned (.agg (intsA .u8 (blkL s d i))) ∧ Below w.heap.size w w' := by
  obtain ⟨ti, hti, hz0, hz1, hzb⟩ := info_parts info_u8'
  have HPD := Lib.hid (fun W => rput64s_c d d0 d1 W)
  have HPI := Lib.hid (fun W => rput64s_c i i0 i1 W)
  have hin := blkIn_in s d i hs d0 d1 i0 i1
  have hil := blkIn_len s d i hl
  have hxl : (put8L d).length = 8 := rfl
  have hyl : (put8L i).length = 8 := rfl
  have hrl := blkL_len s d i
  have hre : blkL s d i = shaL (blkIn s d i) := rfl
  have hie : blkIn s d i = s ++ put8L d ++ put8L i := rfl
  obtain ⟨X, hX⟩ : ∃ X, put8L d = X := ⟨_, rfl⟩
  obtain ⟨Y, hY⟩ : ∃ Y, put8L i = Y := ⟨_, rfl⟩
  obtain ⟨I, hI⟩ : ∃ I, blkIn s d i = I := ⟨_, rfl⟩
  obtain ⟨R, hR⟩ : ∃ R, blkL s d i = R := ⟨_, rfl⟩
  rw [hX] at HPD hxl hie
  rw [hY] at HPI hyl hie
  rw [hI] at hin hil hre hie
  rw [hR] at hrl hre ⊢
  have HS := Lib.hid (fun A c W h h' => rsum_c A c 48 I W h h' (by omega) hin)
  rw [← hre] at HS
  obtain ⟨Z, hZ⟩ : ∃ Z : List Int, List.replicate 32 0 = Z := ⟨_, rfl⟩
  obtain ⟨V, hV⟩ : ∃ V : List Int, List.replicate 8 0 = V := ⟨_, rfl⟩
  have HZ0 := Lib.hid zero_hash
  have HV0 := Lib.hid zero_b8s
  rw [hZ] at HZ0
  rw [hV] at HV0
  have hZl : Z.length = 32 := by rw [← hZ]; simp
  have hVl : V.length = 8 := by rw [← hV]; simp
  have SR := Lib.hid (show (Tryd.prog.info? 25).map (·.size) = some R.length by rw [hrl]; exact size_hash)
  have ZR := Lib.hid (show Z.length = R.length by rw [hrl, hZl])
  have SX := Lib.hid (show (Tryd.prog.info? 60).map (·.size) = some X.length by rw [hxl]; exact size_b8s)
  have SY := Lib.hid (show (Tryd.prog.info? 60).map (·.size) = some Y.length by rw [hyl]; exact size_b8s)
  have VX := Lib.hid (show V.length = X.length by rw [hxl, hVl])
  have VY := Lib.hid (show V.length = Y.length by rw [hyl, hVl])
  have HSL := Lib.hid hl
  have HXL := Lib.hid hxl
  have HYL := Lib.hid hyl
  have HIL := Lib.hid hil
  have HIE := Lib.hid hie
  have HSN := Lib.hid (fun (l : List Int) (j : Nat) (h : j < l.length) => take_snoc l j h)
  clear hin hil hxl hyl hrl hre hie hX hY hI hR hZ hV hZl hVl hl hs
  go_enter Tryd.func33, Tryd.ntmps33
  go_wp2_with (first
    | (with_reducible refine at_any ?_; refine at_dst 3 rfl ?_; refine wpList_box_ints rfl 25 (.tmp 0) rfl .u8 s rfl ?_; intro w1 hk1 hs1 hb1; have F1 := Lib.hid (Fx.box hk1.out hb1); clear hk1 hs1 hb1)
    | (with_reducible refine at_any ?_; refine at_dst 6 rfl ?_; refine wpList_alloc_ints rfl 25 rfl .u8 Z HZ0.out ?_; intro w2 hk2 hs2 hb2; have U1 := Lib.hid (Fx.under_new F1.out rfl); have F2 := Lib.hid (Fx.new F1.out hk2.out hb2); clear hk2 hs2 F1 hb2))
  have h3lt : w.heap.size < w1.heap.size := U1.out.1
  obtain ⟨g6, hg6⟩ : ∃ g, w1.heap.size = g := ⟨_, rfl⟩
  obtain ⟨g3, hg3⟩ : ∃ g, w.heap.size = g := ⟨_, rfl⟩
  have h0 : w.heap.size ≤ g3 := by omega
  rw [hg6, hg3] at F2 h3lt
  rw [hg6, hg3]
  clear hg6 hg3 U1
  go_loopw [7, 8] (fun v c wr => ∃ j : Nat, j ≤ 32 ∧ c = .int .i64 j ∧ OwnI wr w.heap.size 5 .u8 v (s.take j) ∧ Fx [.blk g6 25 (intsA .u8 Z), .blk g3 25 (intsA .u8 s), .bel w] wr) (fun _ c _ => 32 - (intOf c).toNat)
  case atStart => exact ⟨0, by omega, rfl, own_nil _ _ _, F2.out⟩
  case round =>
    clear F2
    obtain ⟨j, hj, rfl, hown, hF⟩ := hrel
    have hlen : (s.take j).length = j := by rw [List.length_take, HSL.out]; omega
    by_cases hlt : j < 32
    · have hsn := HSN.out s j (by rw [HSL.out]; exact hlt)
      have hc : wr.cell? ⟨g3, j, none⟩ = some (.int .u8 (s.getD j 0)) := (Fx.fst hF.2).cell (by rw [HSL.out]; exact hlt)
      obtain ⟨b, hb⟩ : ∃ b, s.getD j 0 = b := ⟨_, rfl⟩
      rw [hb] at hsn hc
      have HLN := Lib.hid hlen
      have HSNj := Lib.hid hsn
      have HOW := Lib.hid hown
      have HF := Lib.hid hF
      clear hb hsn hown hF hlen
      go_wp2_with (at_builtin; refine wpList_append_ints _ rfl (.tmp 17) (.tmp 21) 22 rfl w.heap.size 5 ti _ 1 .u8 Tryd.underlying22 hti hz0 hz1 hzb rfl _ (s.take j) rfl (HOW.out.alloc _) (wr.heap.size + 1) (some ⟨wr.heap.size, 0, none⟩) 1 1 [b] rfl (rd_one wr 5 .u8 b) (by rw [HLN.out]; simp [maxLen]; omega) (by rw [HLN.out]; omega) (by have := Below.size (Fx.bel3 HF.out); simp; omega) ?_; intro v6 w6 hown6 hg6 hat6; have F6 := Lib.hid (Fx.grown (Fx.alloc HF.out _) (HOW.out.alloc _) (Fx.free3 (by decide) (by decide)) (by have := Below.size (Fx.bel3 HF.out); simp; omega) hg6); rw [HSNj.out] at hown6; have O6 := Lib.hid hown6; clear hg6 hat6 hown6)
      go_roundw
      case rel => exact ⟨j + 1, by omega, by go_num, O6.out, F6.out⟩
      case measure => simp [intOf]; omega
    · obtain rfl : j = 32 := by omega
      rw [List.take_of_length_le (by rw [HSL.out]; exact Nat.le_refl _)] at hown
      have HOW := Lib.hid hown
      have HF := Lib.hid hF
      clear hown hF hlen
      go_wp2_with (first
        | (go_at_call 36; (with_reducible refine (HPD.out _).mono ?_); rintro e w3 ⟨rfl, hb3⟩; have F3 := Lib.hid (HF.out.below hb3); have O3 := Lib.hid (HOW.out.below hb3); clear HF HOW hb3)
        | (go_at_call 36; (with_reducible refine (HPI.out _).mono ?_); rintro e w4 ⟨rfl, hb4⟩; have F4 := Lib.hid (F3.out.below hb4); have O4 := Lib.hid (O3.out.below hb4); clear F3 O3 hb4)
        | (with_reducible refine at_any ?_; refine at_dst 9 rfl ?_; refine wpList_alloc_ints rfl 60 rfl .u8 V HV0.out ?_; intro w5 hk5 hs5 hb5; have U4 := Lib.hid (Fx.under_new F4.out rfl); have F5 := Lib.hid (Fx.new F4.out hk5.out hb5); have B5 := Lib.hid hb5; clear hk5 hs5 F4 hb5)
        | (with_reducible refine at_any ?_; refine at_dst 10 rfl ?_; refine wpList_alloc_ints rfl 60 rfl .u8 V HV0.out ?_; intro w6 hk6 hs6 hb6; have U5 := Lib.hid (Fx.under_new F5.out rfl); have F6 := Lib.hid (Fx.new F5.out hk6.out hb6); have B6 := Lib.hid (B5.out.trans (hb6.mono B5.out.size)); clear hk6 hs6 F5 hb6)
        | (with_reducible refine at_any ?_; refine at_store 9 rfl ?_; refine wpList_store_ints rfl 60 (.tmp 9) (.tmp 24) rfl w4.heap.size rfl 60 .u8 V X (Fx.snd F6.out) rfl VX.out SX.out ?_; intro w7 hk7 hs7 hb7 ho7; have F7 := Lib.hid (Fx.put2 F6.out U5.out U4.out hk7.out hs7.out hb7 ho7); have U7 := Lib.hid (Fx.under_put U5.out (intsA .u8 X)); have B7 := Lib.hid (B6.out.trans (hb7 _ (Nat.le_refl _))); clear hk7 hs7 hb7 ho7 F6 U5)
        | (with_reducible refine at_any ?_; refine at_store 10 rfl ?_; refine wpList_store_ints rfl 60 (.tmp 10) (.tmp 26) rfl w5.heap.size rfl 60 .u8 V Y (Fx.fst F7.out) rfl VY.out SY.out ?_; intro w8 hk8 hs8 hb8 ho8; have F8 := Lib.hid (Fx.put1 F7.out U7.out hk8.out hs8.out hb8 ho8); have O8 := Lib.hid (O4.out.below (B7.out.trans (hb8 _ B5.out.size))); clear hk8 hs8 hb8 ho8 F7))
      have hB : Blk4 w w5.heap.size w4.heap.size g6 g3 Y X Z s w8 := F8.out
      have h7 : w4.heap.size < w5.heap.size := U7.out.1
      have h6 : g6 < w4.heap.size := U4.out.1
      have HO := Lib.hid O8.out
      clear F8 U7 U4 O8 O4 B5 B6 B7
      obtain ⟨g10, hg10⟩ : ∃ g, w5.heap.size = g := ⟨_, rfl⟩
      obtain ⟨g9, hg9⟩ : ∃ g, w4.heap.size = g := ⟨_, rfl⟩
      rw [hg10, hg9] at hB
      rw [hg10, hg9] at h7
      rw [hg9] at h6
      rw [hg10, hg9]
      have HB := Lib.hid hB
      clear hg10 hg9 hB
      go_loopw [7, 11] (fun v c wr => ∃ j : Nat, j ≤ 8 ∧ c = .int .i64 j ∧ OwnI wr w.heap.size 5 .u8 v (s ++ X.take j) ∧ Blk4 w g10 g9 g6 g3 Y X Z s wr) (fun _ c _ => 8 - (intOf c).toNat)
      case atStart => exact ⟨0, by omega, rfl, by rw [List.take_zero, List.append_nil]; exact HO.out, HB.out⟩
      case round =>
        clear HO HB
        obtain ⟨j, hj, rfl, hown, hF⟩ := hrel
        have hlen : (s ++ X.take j).length = 32 + j := by rw [List.length_append, List.length_take, HXL.out]; rw [HSL.out]; omega
        by_cases hlt : j < 8
        · have hsn : s ++ X.take j ++ [X.getD j 0] = s ++ X.take (j + 1) := by rw [List.append_assoc, HSN.out X j (by rw [HXL.out]; exact hlt)]
          have hc : wr.cell? ⟨g9, j, none⟩ = some (.int .u8 (X.getD j 0)) := hF.c7.cell (by rw [HXL.out]; exact hlt)
          obtain ⟨b, hb⟩ : ∃ b, X.getD j 0 = b := ⟨_, rfl⟩
          rw [hb] at hsn hc
          have HLN := Lib.hid hlen
          have HSNj := Lib.hid hsn
          have HOW := Lib.hid hown
          have HF := Lib.hid hF
          clear hb hsn hown hF hlen
          go_wp2_with (at_builtin; refine wpList_append_ints _ rfl (.tmp 31) (.tmp 35) 22 rfl w.heap.size 5 ti _ 1 .u8 Tryd.underlying22 hti hz0 hz1 hzb rfl _ (s ++ X.take j) rfl (HOW.out.alloc _) (wr.heap.size + 1) (some ⟨wr.heap.size, 0, none⟩) 1 1 [b] rfl (rd_one wr 5 .u8 b) (by rw [HLN.out]; simp [maxLen]; omega) (by rw [HLN.out]; omega) (by have := Below.size HF.out.bel; simp; omega) ?_; intro v6 w6 hown6 hg6 hat6; have F6 := Lib.hid (Blk4.grown (HF.out.alloc _) (HOW.out.alloc _) (by have := Below.size HF.out.bel; simp; omega) hg6); rw [HSNj.out] at hown6; have O6 := Lib.hid hown6; clear hg6 hat6 hown6)
          go_roundw
          case rel => exact ⟨j + 1, by omega, by go_num, O6.out, F6.out⟩
          case measure => simp [intOf]; omega
        · obtain rfl : j = 8 := by omega
          rw [List.take_of_length_le (by rw [HXL.out]; exact Nat.le_refl _)] at hown
          have HB := Lib.hid hF
          have HO := Lib.hid hown
          clear hown hF hlen
          rw [show ((8 : Nat) : Int) = 8 from rfl]
          go_wp2
          go_loopw [7, 12] (fun v c wr => ∃ j : Nat, j ≤ 8 ∧ c = .int .i64 j ∧ OwnI wr w.heap.size 5 .u8 v ((s ++ X) ++ Y.take j) ∧ Blk4 w g10 g9 g6 g3 Y X Z s wr) (fun _ c _ => 8 - (intOf c).toNat)
          case atStart => exact ⟨0, by omega, rfl, by rw [List.take_zero, List.append_nil]; exact HO.out, HB.out⟩
          case round =>
            clear HO HB
            obtain ⟨j, hj, rfl, hown, hF⟩ := hrel
            have hlen : ((s ++ X) ++ Y.take j).length = 40 + j := by rw [List.length_append, List.length_take, HYL.out]; rw [List.length_append, HSL.out, HXL.out]; omega
            by_cases hlt : j < 8
            · have hsn : (s ++ X) ++ Y.take j ++ [Y.getD j 0] = (s ++ X) ++ Y.take (j + 1) := by rw [List.append_assoc, HSN.out Y j (by rw [HYL.out]; exact hlt)]
              have hc : wr.cell? ⟨g10, j, none⟩ = some (.int .u8 (Y.getD j 0)) := hF.c8.cell (by rw [HYL.out]; exact hlt)
              obtain ⟨b, hb⟩ : ∃ b, Y.getD j 0 = b := ⟨_, rfl⟩
              rw [hb] at hsn hc
              have HLN := Lib.hid hlen
              have HSNj := Lib.hid hsn
              have HOW := Lib.hid hown
              have HF := Lib.hid hF
              clear hb hsn hown hF hlen
              go_wp2_with (at_builtin; refine wpList_append_ints _ rfl (.tmp 41) (.tmp 45) 22 rfl w.heap.size 5 ti _ 1 .u8 Tryd.underlying22 hti hz0 hz1 hzb rfl _ ((s ++ X) ++ Y.take j) rfl (HOW.out.alloc _) (wr.heap.size + 1) (some ⟨wr.heap.size, 0, none⟩) 1 1 [b] rfl (rd_one wr 5 .u8 b) (by rw [HLN.out]; simp [maxLen]; omega) (by rw [HLN.out]; omega) (by have := Below.size HF.out.bel; simp; omega) ?_; intro v6 w6 hown6 hg6 hat6; have F6 := Lib.hid (Blk4.grown (HF.out.alloc _) (HOW.out.alloc _) (by have := Below.size HF.out.bel; simp; omega) hg6); rw [HSNj.out] at hown6; have O6 := Lib.hid hown6; clear hg6 hat6 hown6)
              go_roundw
              case rel => exact ⟨j + 1, by omega, by go_num, O6.out, F6.out⟩
              case measure => simp [intOf]; omega
            · obtain rfl : j = 8 := by omega
              rw [List.take_of_length_le (by rw [HYL.out]; exact Nat.le_refl _)] at hown
              obtain ⟨A7, c7, rfl, hc7, _⟩ := hown.form
              rw [← HIE.out, HIL.out] at hc7
              rw [← HIE.out] at hown
              rw [← HIE.out, HIL.out]
              have HB := Lib.hid hF
              have hr7 := hown.rd rfl
              rw [HIL.out] at hr7
              have HR7 := Lib.hid hr7
              have HC7 := Lib.hid hc7
              clear hown hF hlen hc7 hr7
              go_wp2_with (first
                | (go_at_call 37; (with_reducible refine (HS.out A7 c7 _ HR7.out HC7.out).mono ?_); rintro e w9 ⟨rfl, hb9⟩; have HB9 := Lib.hid (HB.out.below hb9); clear hb9)
                | (with_reducible refine at_any ?_; refine at_store 6 rfl ?_; refine wpList_store_ints rfl 25 (.tmp 6) (.tmp 48) rfl g6 rfl 25 .u8 Z R HB9.out.c6 rfl ZR.out SR.out ?_; intro w11 hk11 hs11 hb11 ho11; have HB11 := Lib.hid (HB9.out.put6 h6 h7 h3lt h0 hk11.out hs11.out hb11 ho11))
                | (refine bodyPost_cell 6 25 rfl g6 rfl 25 .u8 R HB11.out.c6 _ Tryd.underlying25 rfl SR.out rfl ?_))
              exact HB11.out.bel
set_option maxHeartbeats 2000000 in
theorem rbit_c (s : List Int) (d n : Int) (hl : s.length = 32) (hs : ∀ z ∈ s, 0 ≤ z ∧ z < 256) (d0 : 0 ≤ d) (d1 : d < 18446744073709551616) (n0 : 0 ≤ n) (n1 : n < 18446744073709551616) (w : World) :
    Calls Tryd.prog 31 #[.agg (intsA .u8 s), .int .u64 d, .int .u64 n] w fun e w' => e = .returned (.int .u64 (bitN s d n)) ∧ Below w.heap.size w w' := by
  have HB := Lib.hid (fun W => rblock_c s d (n / 256) hl hs d0 d1 (by omega) (by omega) W)
  have hRl := blkL_len s d (n / 256)
  obtain ⟨R, hR⟩ : ∃ R, blkL s d (n / 256) = R := ⟨_, rfl⟩
  rw [hR] at HB hRl
  have hj : (n % 256 / 8).toNat < 32 := by omega
  have e1 : n % 256 / 8 = (((n % 256 / 8).toNat : Nat) : Int) := by omega
  have hb := bytN_in s d (n / 256) (n % 256 / 8).toNat
  have hbe : R.getD (n % 256 / 8).toNat 0 = bytN s d (n / 256) (n % 256 / 8).toNat := by unfold bytN; rw [hR]
  have e2 : 7 - n % 8 = (((7 - n % 8).toNat : Nat) : Int) := by omega
  have hq : (7 - n % 8).toNat ≤ 7 := by omega
  have hres : bitN s d n = bytN s d (n / 256) (n % 256 / 8).toNat / 2 ^ (7 - n % 8).toNat % 2 := rfl
  obtain ⟨j, hjj⟩ : ∃ j, (n % 256 / 8).toNat = j := ⟨_, rfl⟩
  obtain ⟨q, hqq⟩ : ∃ q, (7 - n % 8).toNat = q := ⟨_, rfl⟩
  rw [hjj] at hj e1 hb hbe hres
  rw [hqq] at e2 hq hres
  obtain ⟨b, hbb⟩ : ∃ b, bytN s d (n / 256) j = b := ⟨_, rfl⟩
  rw [hbb] at hb hbe hres
  have HC := Lib.hid (fun (W : World) g (h : BlkI W g 25 .u8 R) => (show W.cell? ⟨g, j, none⟩ = some (.int .u8 b) by rw [h.cell (by omega), hbe]))
  have p0 := Wd.pow_pos2 q
  have p1 := pow2_lt q (by omega)
  have HP := Lib.hid (fun W => rpow_c q (by omega) W)
  obtain ⟨p, hp⟩ : ∃ p : Int, 2 ^ q = p := ⟨_, rfl⟩
  rw [hp] at p0 p1 HP hres
  have p2 : (p == 0) = false := by rw [beq_eq_false_iff_ne]; omega
  have h2 : 0 ≤ b / p := Int.ediv_nonneg hb.1 (by omega)
  have h3 : b / p < 256 := by have := Int.ediv_le_self p hb.1; omega
  have HRES := Lib.hid hres
  have SS := Lib.hid (show (Tryd.prog.info? 25).map (·.size) = some s.length by rw [hl]; exact size_hash)
  have SR := Lib.hid (show (Tryd.prog.info? 25).map (·.size) = some R.length by rw [hRl]; exact size_hash)
  obtain ⟨Z, hZ⟩ : ∃ Z : List Int, List.replicate 32 0 = Z := ⟨_, rfl⟩
  have HZ0 := Lib.hid zero_hash
  rw [hZ] at HZ0
  have ZR := Lib.hid (show Z.length = R.length by rw [hRl, ← hZ]; simp)
  obtain ⟨hb0, hb1⟩ := hb
  clear hZ hres hbb hbe hRl hR hl hs hp
  go_enter Tryd.func31, Tryd.ntmps31
  go_wp2_with (first
    | (with_reducible refine at_any ?_; refine at_dst 3 rfl ?_; refine wpList_box_ints rfl 25 (.tmp 0) rfl .u8 s rfl ?_; intro w1 hk1 hs1 hb1; have F1 := Lib.hid (Fx.box hk1.out hb1); clear hk1 hs1 hb1)
    | (with_reducible refine at_any ?_; refine at_dst 8 rfl ?_; refine wpList_load_ints rfl 25 (.tmp 3) rfl w.heap.size rfl 25 .u8 s (Fx.fst F1.out) _ Tryd.underlying25 rfl SS.out ?_)
    | (go_at_call 33; (with_reducible refine (HB.out _).mono ?_); rintro e w3 ⟨rfl, hb3⟩; have F3 := Lib.hid (F1.out.below hb3); clear F1 hb3)
    | (with_reducible refine at_any ?_; refine at_dst 7 rfl ?_; refine wpList_alloc_ints rfl 25 rfl .u8 Z HZ0.out ?_; intro w4 hk4 hs4 hb4; have U3 := Lib.hid (Fx.under_new F3.out rfl); have F4 := Lib.hid (Fx.new F3.out hk4.out hb4); clear hk4 hs4 F3 hb4)
    | (with_reducible refine at_any ?_; refine at_store 7 rfl ?_; refine wpList_store_ints rfl 25 (.tmp 7) (.tmp 12) rfl w3.heap.size rfl 25 .u8 Z R (Fx.fst F4.out) rfl ZR.out SR.out ?_; intro w5 hk5 hs5 hb5 ho5; have F5 := Lib.hid (Fx.put1 F4.out U3.out hk5.out hs5.out hb5 ho5); have cj := HC.out _ _ (Fx.fst F5.out); clear hk5 hs5 hb5 ho5 F4))
  have hlt : ((j : Nat) : Int) < 32 := by omega
  have t1 : n.tmod 256 = n % 256 := Int.tmod_eq_emod_of_nonneg n0
  have t2 : n.tmod 8 = n % 8 := Int.tmod_eq_emod_of_nonneg n0
  have t3 : (n % 256).tdiv 8 = n % 256 / 8 := Int.tdiv_eq_ediv_of_nonneg (by omega)
  have t4 : b.tdiv p = b / p := Int.tdiv_eq_ediv_of_nonneg hb0
  have t5 : (b / p).tmod 2 = b / p % 2 := Int.tmod_eq_emod_of_nonneg h2
  have e3 : IntKind.u64.wrap ((n.tmod 256).tdiv 8) = (j : Int) := by rw [t1, t3, e1, IntKind.wrap_u64]; omega
  have e4 : IntKind.u64.wrap (7 - n.tmod 8) = (q : Int) := by rw [t2, e2, IntKind.wrap_u64]; omega
  have e5 : IntKind.u64.wrap (b.tdiv p) = b / p := by rw [t4, IntKind.wrap_u64]; omega
  have e6 : IntKind.u64.wrap b = b := by rw [IntKind.wrap_u64]; omega
  have p3 : p ≠ 0 := by omega
  clear t1 t2 t3 t4
  go_quiet (first | (go_at_call 34; refine Calls.quiet_of_same (HP.out _)))
  go_wp2
  go_ret
  exact ⟨ret_int HRES.out.symm, below_drewN (Fx.bel3 F5.out) _⟩
def RetBr (w : World) (zs : List Int) (n : Nat) (e : Ending) (w' : World) : Prop := ∃ A c, e = .returned (.slice A n c) ∧ n ≤ c ∧ c ≤ maxLen ∧ Rd .u8 w' w'.heap.size A n zs ∧ Below w.heap.size w w'
end Go.Proofs.YtmeefnhmkffdlaaDoor

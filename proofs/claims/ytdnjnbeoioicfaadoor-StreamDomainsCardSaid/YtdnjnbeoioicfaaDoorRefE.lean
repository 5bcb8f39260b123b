/-
  What the document's Start, Constant and Take (layer 4) return, and that they leave memory as it was.
  Conditions: the arguments lie in their types' ranges.
-/
import Derived.Test.YtdnjnbeoioicfaaDoorRefD
set_option linter.unusedSimpArgs false
namespace Go.Proofs.YtdnjnbeoioicfaaDoor
open Go.ChangeShapes Go.WideShapes Go.ChangeAt Go.RowKit
set_option linter.unusedVariables false
theorem rstart_c (w : World) : Calls Tryd.prog 27 #[] w fun e w' => e = .returned (.agg (intsA .u32 startL)) ∧ Below w.heap.size w w' := by
  have HL := Lib.hid (show Z8.length = startL.length from rfl)
  have HZ := Lib.hid (show (Tryd.prog.info? 53).map (·.size) = some startL.length from size_state)
  go_enter Tryd.func27, Tryd.ntmps27
  go_wp2_with (first
    | (with_reducible refine at_any ?_; refine at_dst 0 rfl ?_; refine wpList_alloc_ints rfl 53 rfl .u32 Z8 zero_state ?_; intro w2 hk2 hs2 hb2)
    | (with_reducible refine at_any ?_; refine at_store 0 rfl ?_; refine wpList_store_ints rfl 53 (.tmp 0) (.tmp 1) rfl w.heap.size rfl 53 .u32 Z8 startL hk2.out (by kernel_rfl) HL.out HZ.out ?_; intro w9 hk9 hs9 hb9 ho9)
    | (refine bodyPost_cell 0 53 rfl w.heap.size rfl 53 .u32 startL hk9.out _ Tryd.underlying53 rfl HZ.out rfl ?_))
  exact hb2.trans (hb9 _ (Nat.le_refl _))
theorem index_w64 (zs : List Int) (hl : zs.length = 64) (i : Int) (h0 : 0 ≤ i) (h1 : i ≤ 63) (w : World) : (Instr.index 74 (.agg (intsA .u32 zs)) (.int .i64 i)).run Tryd.prog w = .ok (.int .u32 (zs.getD i.toNat 0)) w := by
  obtain ⟨i0, hi, _, hs, _⟩ := info_parts info_u32c
  exact run_index_arr Tryd.underlying74 Tryd.underlying32 hi hs _ _ _ _ h0 (by omega) (intsA_at .u32 zs i.toNat (by omega)) w
theorem rconst_c (i : Int) (i0 : -9223372036854775808 ≤ i) (i1 : i ≤ 9223372036854775807) (w : World) :
    Calls Tryd.prog 43 #[.int .i64 i] w fun e w' => e = .returned (.int .u32 (constN i)) ∧ w = w' := by
  unfold constN
  by_cases h : 0 ≤ i ∧ i ≤ 63
  · rw [if_pos h]
    obtain ⟨h0, h1⟩ := h
    have hix := fun W => index_w64 constL constL_len i h0 h1 W
    obtain ⟨C, hC⟩ : ∃ C, constL.getD i.toNat 0 = C := ⟨_, rfl⟩
    obtain ⟨A, hA⟩ : ∃ A, intsA .u32 constL = A := ⟨_, rfl⟩
    rw [hC, hA] at hix
    rw [hC]
    have HA := Lib.hid hA
    clear hC hA
    go_enter Tryd.func43, Tryd.ntmps43
    go_wp2_with (with_reducible refine at_any ?_; refine at_dst 9 rfl ?_; refine wpList_val rfl (.agg A) (by rw [← HA.out]; kernel_rfl) ?_)
    go_ret
    exact ⟨rfl, rfl⟩
  · rw [if_neg h]
    by_cases h0 : i < 0
    · go_enter Tryd.func43, Tryd.ntmps43
      go_wp2
      go_ret
      exact ⟨rfl, rfl⟩
    · have h1 : 63 < i := by omega
      clear h
      go_enter Tryd.func43, Tryd.ntmps43
      go_wp2
      go_ret
      exact ⟨rfl, rfl⟩
/-- What Take keeps: the state that came in, the one to go out, the one at hand, and the plan. -/
def Tk (w : World) (g2 g4 g5 g6 : Nat) (s P z : List Int) (w' : World) : Prop := In3 w g2 g4 g6 53 53 53 .u32 .u32 .u32 s Z8 z w' ∧ BlkI w' g5 75 .u32 P ∧ g5 ≠ g6
section
variable {w w' w'' : World} {g2 g4 g5 g6 : Nat} {s P z : List Int}
theorem Tk.below (h : Tk w g2 g4 g5 g6 s P z w') (hb : Below w'.heap.size w' w'') : Tk w g2 g4 g5 g6 s P z w'' := ⟨h.1.below hb, h.2.1.below hb h.2.1.lt, h.2.2⟩
theorem Tk.drew (h : Tk w g2 g4 g5 g6 s P z w') : Tk w g2 g4 g5 g6 s P z w'.drew := ⟨h.1.drew, h.2.1, h.2.2⟩
theorem Tk.in3 (h : Tk w g2 g4 g5 g6 s P z w') : In3 w g2 g4 g6 53 53 53 .u32 .u32 .u32 s Z8 z w' := h.1
theorem Tk.plan (h : Tk w g2 g4 g5 g6 s P z w') : BlkI w' g5 75 .u32 P := h.2.1
theorem Tk.store (h : Tk w g2 g4 g5 g6 s P z w') {y : List Int} (hk : BlkI w'' g6 53 .u32 y) (hb : ∀ B, B ≤ g6 → Below B w' w'') (ho : ∀ j, j ≠ g6 → w''.heap[j]? = w'.heap[j]?) : Tk w g2 g4 g5 g6 s P y w'' := by
  obtain ⟨⟨h1, h2, h3, h4, h5, h6, h7⟩, h8, h9⟩ := h
  exact ⟨⟨h1.other ho h6, h2.other ho h7, hk, h4.trans (hb _ h5), h5, h6, h7⟩, h8.other ho h9, h9⟩
def TkW (w : World) (g2 g4 g5 g6 : Nat) (s P : List Int) (w' : World) : Prop := ∃ z, Tk w g2 g4 g5 g6 s P z w'
theorem TkW.plan (h : TkW w g2 g4 g5 g6 s P w') : BlkI w' g5 75 .u32 P := by obtain ⟨z, h⟩ := h; exact h.plan
end
theorem zero_planZ : ∀ W, (zeroValue 75).run Tryd.prog W = .ok (.agg (intsA .u32 Z64)) W := zero_plan
theorem constN_in (i : Int) : 0 ≤ constN i ∧ constN i < 4294967296 := by
  unfold constN
  split
  · have h : ∀ z ∈ constL, 0 ≤ z ∧ z < 4294967296 := by decide +kernel
    exact WIn.at_ h _
  · omega
theorem sized (s : List Int) (h : s.length = 8) : (Tryd.prog.info? 53).map (·.size) = some s.length := by rw [h]; exact size_state

set_option maxHeartbeats 2000000 in
theorem rtake_c (s b : List Int) (hl : s.length = 8) (hs : WIn s) (hbl : b.length = 64) (hb : ∀ z ∈ b, 0 ≤ z ∧ z < 256) (w : World) :
    Calls Tryd.prog 34 #[.agg (intsA .u32 s), .agg (intsA .u8 b)] w fun e w' => e = .returned (.agg (intsA .u32 (takeL s b))) ∧ Below w.heap.size w w' := by
  obtain ⟨X0, hx⟩ : ∃ x, rounds s b 64 = x := ⟨_, rfl⟩
  obtain ⟨R, hR⟩ : ∃ R, sums X0 s 8 = R := ⟨_, rfl⟩
  have hxl := rounds_len s b hl 64
  rw [hx] at hxl
  rw [show takeL s b = R by rw [takeL, hx, hR]]
  have HX := Lib.hid hx
  have HR := Lib.hid hR
  have HXL := Lib.hid hxl
  clear hx hR hxl
  have SZ := Lib.hid (sized s hl)
  have ZL := Lib.hid (show Z8.length = s.length by rw [hl]; rfl)
  have PZ := Lib.hid (show Z64.length = (planL b).length by rw [planL_len, Z64_len])
  have PS := Lib.hid (show (Tryd.prog.info? 75).map (·.size) = some (planL b).length by rw [planL_len]; exact size_plan)
  have BS := Lib.hid (show (Tryd.prog.info? 64).map (·.size) = some b.length by rw [hbl]; kernel_rfl)
  go_enter Tryd.func34, Tryd.ntmps34
  go_wp2_with (first
    | (with_reducible refine at_any ?_; refine at_dst 2 rfl ?_; refine wpList_box_ints rfl 53 (.tmp 0) rfl .u32 s rfl ?_; intro w1 hk1 hs1 hb1)
    | (with_reducible refine at_any ?_; refine at_dst 3 rfl ?_; refine wpList_box_ints rfl 64 (.tmp 1) rfl .u8 b rfl ?_; intro w2 hk2 hs2 hb2; have hk1b := Lib.hid (hk1.out.below hb2 hk1.out.lt))
    | (with_reducible refine at_any ?_; refine at_dst 4 rfl ?_; refine wpList_alloc_ints rfl 53 rfl .u32 Z8 zero_state ?_; intro w3 hk3 hs3 hb3; have hk1c := Lib.hid (hk1b.out.below hb3 hk1b.out.lt); have hk2c := Lib.hid (hk2.out.below hb3 hk2.out.lt); have bl3 := Lib.hid (hb1.trans ((hb2.mono hb1.size).trans (hb3.mono (by have := hb1.size; have := hb2.size; omega)))))
    | (with_reducible refine at_any ?_; refine at_dst 9 rfl ?_; refine wpList_load_ints rfl 64 (.tmp 3) rfl w1.heap.size rfl 64 .u8 b hk2c.out _ Tryd.underlying64 rfl BS.out ?_)
    | (go_at_call 41; (with_reducible refine (rof_c b hbl hb _).mono ?_); rintro e w4 ⟨rfl, hb4⟩; have hk1d := Lib.hid (hk1c.out.below hb4 hk1c.out.lt); have hk3d := Lib.hid (hk3.out.below hb4 hk3.out.lt); have bl4 := Lib.hid (bl3.out.trans (hb4.mono bl3.out.size)))
    | (with_reducible refine at_any ?_; refine at_dst 5 rfl ?_; refine wpList_alloc_ints rfl 75 rfl .u32 Z64 zero_planZ ?_; intro w5 hk5 hs5 hb5; have hk1e := Lib.hid (hk1d.out.below hb5 hk1d.out.lt); have hk3e := Lib.hid (hk3d.out.below hb5 hk3d.out.lt); have bl5 := Lib.hid (bl4.out.trans (hb5.mono bl4.out.size)))
    | (with_reducible refine at_any ?_; refine at_store 5 rfl ?_; refine wpList_store_ints rfl 75 (.tmp 5) (.tmp 10) rfl w4.heap.size rfl 75 .u32 Z64 (planL b) hk5.out rfl PZ.out PS.out ?_; intro w6 hk6 hs6 hb6 ho6; have hk1f := Lib.hid (hk1e.out.below (hb6 _ (Nat.le_refl _)) hk1d.out.lt); have hk3f := Lib.hid (hk3e.out.below (hb6 _ (Nat.le_refl _)) hk3d.out.lt); have bl6 := Lib.hid (bl5.out.trans (hb6 _ bl4.out.size)))
    | (with_reducible refine at_any ?_; refine at_dst 11 rfl ?_; refine wpList_load_ints rfl 53 (.tmp 2) rfl w.heap.size rfl 53 .u32 s hk1f.out _ Tryd.underlying53 rfl SZ.out ?_)
    | (with_reducible refine at_any ?_; refine at_dst 6 rfl ?_; refine wpList_alloc_ints rfl 53 rfl .u32 Z8 zero_state ?_; intro w7 hk7 hs7 hb7; have hk1g := Lib.hid (hk1f.out.below hb7 hk1f.out.lt); have hk3g := Lib.hid (hk3f.out.below hb7 hk3f.out.lt); have hk6g := Lib.hid (hk6.out.below hb7 hk6.out.lt); have bl7 := Lib.hid (bl6.out.trans (hb7.mono bl6.out.size)))
    | (with_reducible refine at_any ?_; refine at_store 6 rfl ?_; refine wpList_store_ints rfl 53 (.tmp 6) (.tmp 11) rfl w6.heap.size rfl 53 .u32 Z8 s hk7.out rfl ZL.out SZ.out ?_; intro w8 hk8 hs8 hb8 ho8))
  have HT : Tk w w.heap.size w2.heap.size w4.heap.size w6.heap.size s (planL b) (rounds s b 0) w8 := by
    have q1 := hk1f.out.lt
    have q3 := hk3f.out.lt
    have q6 := hk6.out.lt
    exact ⟨⟨hk1g.out.other ho8 (by omega), hk3g.out.other ho8 (by omega), hk8.out, bl7.out.trans (hb8 _ bl6.out.size), bl6.out.size, by omega, by omega⟩, hk6g.out.other ho8 (by omega), by omega⟩
  obtain ⟨g2, hg2⟩ : ∃ g, w.heap.size = g := ⟨_, rfl⟩
  obtain ⟨g4, hg4⟩ : ∃ g, w2.heap.size = g := ⟨_, rfl⟩
  obtain ⟨g5, hg5⟩ : ∃ g, w4.heap.size = g := ⟨_, rfl⟩
  obtain ⟨g6, hg6⟩ : ∃ g, w6.heap.size = g := ⟨_, rfl⟩
  have HG4 := Lib.hid (show w.heap.size ≤ g4 by have := hb1.size; have := hb2.size; omega)
  have HW := Lib.hid hg2
  rw [hg2, hg4, hg5, hg6] at HT
  rw [hg2, hg4, hg5, hg6]
  clear hk1 hs1 hb1 hk2 hs2 hb2 hk1b hk3 hs3 hb3 hk1c hk2c bl3 hb4 hk1d hk3d bl4 hk5 hs5 hb5 hk1e hk3e bl5 hk6 hs6 hb6 ho6 hk1f hk3f bl6 hk7 hs7 hb7 hk1g hk3g hk6g bl7 hk8 hs8 hb8 ho8 hg2 hg4 hg5 hg6 PZ PS BS ZL
  go_loopw [7] (fun v wr => ∃ i : Nat, i ≤ 64 ∧ v = .int .i64 i ∧ Tk w g2 g4 g5 g6 s (planL b) (rounds s b i) wr) (fun v _ => 64 - (intOf v).toNat)
  case atStart => exact ⟨0, by omega, rfl, HT⟩
  case round =>
    clear HT
    obtain ⟨i, hi, rfl, HT⟩ := hrel
    by_cases hlt : i < 64
    · have hxl := rounds_len s b hl i
      have hxi := rounds_in s b hs i
      have c5 : ∀ W, TkW w g2 g4 g5 g6 s (planL b) W → W.cell? ⟨g5, i, none⟩ = some (.int .u32 (pw b i)) := fun W h => h.plan.cell (j := i) (by rw [planL_len]; exact hlt)
      have ry := pw_in b hb i hlt
      obtain ⟨x, hx⟩ : ∃ x, rounds s b i = x := ⟨_, rfl⟩
      have hnx : rounds s b (i + 1) = roundL x (pw b i) (constN i) := by rw [rounds, hx]
      rw [hx] at hxl hxi HT
      obtain ⟨y, hy⟩ : ∃ y, pw b i = y := ⟨_, rfl⟩
      obtain ⟨k, hk⟩ : ∃ k, constN (i : Int) = k := ⟨_, rfl⟩
      have rk := constN_in (i : Int)
      rw [hy, hk] at hnx
      rw [hy] at c5 ry
      rw [hk] at rk
      have d1 := fun W => rconst_c (i : Int) (by omega) (by omega) W
      rw [hk] at d1
      have D1 := Lib.hid d1
      have D2 := Lib.hid (fun W => rround_c x y k hxl hxi ry.1 ry.2 rk.1 rk.2 W)
      have HXS := Lib.hid (sized x hxl)
      have HRS := Lib.hid (sized (roundL x y k) rfl)
      have HLL := Lib.hid (show x.length = (roundL x y k).length by rw [hxl]; rfl)
      have q0 : (0 : Int) ≤ (i : Int) ∧ (i : Int) < 64 := by omega
      have HNX := Lib.hid hnx
      have HTd := HT.drew
      clear hnx hx hy hk d1 hxl hxi rk ry
      go_wp2
      refine wp_region_held_drew (S := TkW w g2 g4 g5 g6 s (planL b)) (by kernel_rfl) (⟨_, HTd⟩) (fun hH => ?_)
      refine held_val 1 rfl (by kernel_rfl) (by kernel_rfl) (by kernel_rfl) (fun _ _ _ _ h => h) (by rfl) (.int .i64 (i : Int)) (fun W h => by go_simp) hH ?_
      try simp only [Act.put, List.setIfInBounds_toArray, List.set_cons_zero, List.set_cons_succ]
      refine held_val 2 rfl (by kernel_rfl) (by kernel_rfl) (by kernel_rfl) (fun _ _ _ _ h => h) (by rfl) (.pointer (some ⟨g5, i, none⟩)) (fun W h => by go_simp) hH ?_
      try simp only [Act.put, List.setIfInBounds_toArray, List.set_cons_zero, List.set_cons_succ]
      refine held_val 3 rfl (by kernel_rfl) (by kernel_rfl) (by kernel_rfl) (fun _ _ _ _ h => h) (by rfl) (.int .u32 y) (fun W h => by have c := c5 W h; go_simp) hH ?_
      try simp only [Act.put, List.setIfInBounds_toArray, List.set_cons_zero, List.set_cons_succ]
      refine held_val 4 rfl (by kernel_rfl) (by kernel_rfl) (by kernel_rfl) (fun _ _ _ _ h => h) (by rfl) (.int .i64 (i : Int)) (fun W h => by go_simp) hH ?_
      try simp only [Act.put, List.setIfInBounds_toArray, List.set_cons_zero, List.set_cons_succ]
      refine wpAnyH_ready (rs := [0, 5]) (by kernel_rfl) (by decide) ?_
      refine AllReadyH.cons rfl (fun K hK => ?_) (AllReadyH.cons rfl (fun K hK => ?_) AllReadyH.nil)
      · refine step_load_ints (by rfl) 53 (.tmp 6) rfl g6 (by kernel_rfl) 53 .u32 x HTd.in3.trd _ Tryd.underlying53 rfl HXS.out ?_
        refine hK.out _ _ hH (fun _ => ?_)
        clear hK K
        try simp only [Act.put, List.setIfInBounds_toArray, List.set_cons_zero, List.set_cons_succ]
        refine wpAnyH_ready (rs := [5]) (by kernel_rfl) (by decide) ?_
        refine AllReadyH.cons rfl (fun K hK => ?_) AllReadyH.nil
        go_simp
        refine (D1.out _).mono ?_
        rintro e _ ⟨rfl, rfl⟩
        refine hK.out _ _ hH (fun _ => ?_)
        clear hK K
        try simp only [Act.put, List.setIfInBounds_toArray, List.set_cons_zero, List.set_cons_succ]
        refine wpAnyH_ready (rs := [6]) (by kernel_rfl) (by decide) ?_
        refine AllReadyH.cons rfl (fun K hK => ?_) AllReadyH.nil
        go_simp
        refine (D2.out _).mono ?_
        rintro e w9 ⟨rfl, hbw9⟩
        have h9 := HTd.below hbw9
        refine hK.out _ _ ⟨_, h9⟩ (fun _ => ?_)
        clear hK K
        try simp only [Act.put, List.setIfInBounds_toArray, List.set_cons_zero, List.set_cons_succ]
        refine held_store 7 rfl (by kernel_rfl) (by rfl) 53 (.tmp 6) (.tmp 22) rfl g6 (by kernel_rfl) 53 .u32 x (roundL x y k) (h9.in3.trd) (by kernel_rfl) (HLL.out) (HRS.out) ?_
        intro w10 hkw10 hbw10 how10
        refine ⟨⟨_, h9.store hkw10.out hbw10 how10⟩, ?_⟩
        try simp only [Act.put, List.setIfInBounds_toArray, List.set_cons_zero, List.set_cons_succ]
        refine wpAnyH_done (by kernel_rfl) ?_ _
        have HN := Lib.hid (h9.store hkw10.out hbw10 how10)
        rw [← HNX.out] at HN
        go_wp2
        go_roundw
        case rel => exact ⟨i + 1, by omega, by go_num, HN.out⟩
        case measure => simp [intOf]; omega
      · go_simp
        refine (D1.out _).mono ?_
        rintro e _ ⟨rfl, rfl⟩
        refine hK.out _ _ hH (fun _ => ?_)
        clear hK K
        try simp only [Act.put, List.setIfInBounds_toArray, List.set_cons_zero, List.set_cons_succ]
        refine wpAnyH_ready (rs := [0]) (by kernel_rfl) (by decide) ?_
        refine AllReadyH.cons rfl (fun K hK => ?_) AllReadyH.nil
        refine step_load_ints (by rfl) 53 (.tmp 6) rfl g6 (by kernel_rfl) 53 .u32 x HTd.in3.trd _ Tryd.underlying53 rfl HXS.out ?_
        refine hK.out _ _ hH (fun _ => ?_)
        clear hK K
        try simp only [Act.put, List.setIfInBounds_toArray, List.set_cons_zero, List.set_cons_succ]
        refine wpAnyH_ready (rs := [6]) (by kernel_rfl) (by decide) ?_
        refine AllReadyH.cons rfl (fun K hK => ?_) AllReadyH.nil
        go_simp
        refine (D2.out _).mono ?_
        rintro e w9 ⟨rfl, hbw9⟩
        have h9 := HTd.below hbw9
        refine hK.out _ _ ⟨_, h9⟩ (fun _ => ?_)
        clear hK K
        try simp only [Act.put, List.setIfInBounds_toArray, List.set_cons_zero, List.set_cons_succ]
        refine held_store 7 rfl (by kernel_rfl) (by rfl) 53 (.tmp 6) (.tmp 22) rfl g6 (by kernel_rfl) 53 .u32 x (roundL x y k) (h9.in3.trd) (by kernel_rfl) (HLL.out) (HRS.out) ?_
        intro w10 hkw10 hbw10 how10
        refine ⟨⟨_, h9.store hkw10.out hbw10 how10⟩, ?_⟩
        try simp only [Act.put, List.setIfInBounds_toArray, List.set_cons_zero, List.set_cons_succ]
        refine wpAnyH_done (by kernel_rfl) ?_ _
        have HN := Lib.hid (h9.store hkw10.out hbw10 how10)
        rw [← HNX.out] at HN
        go_wp2
        go_roundw
        case rel => exact ⟨i + 1, by omega, by go_num, HN.out⟩
        case measure => simp [intOf]; omega
    · rw [show ((i : Nat) : Int) = 64 by omega]
      obtain rfl : i = 64 := by omega
      have hxl := HXL.out
      rw [HX.out] at HT
      have HI := HT.in3
      clear HT hi hlt
      go_wp2
      go_loopw [8] (fun v wr => ∃ i : Nat, i ≤ 8 ∧ v = .int .i64 i ∧ In3 w g2 g4 g6 53 53 53 .u32 .u32 .u32 s Z8 (sums X0 s i) wr) (fun v _ => 8 - (intOf v).toNat)
      case atStart => exact ⟨0, by omega, rfl, HI⟩
      case round =>
        clear HI
        obtain ⟨i, hi, rfl, HI⟩ := hrel
        by_cases hlt : i < 8
        · have hsl := sums_len X0 s i
          have c6 := HI.trd.cell (j := i) (by omega)
          rw [sums_at X0 s i i (Nat.le_refl _)] at c6
          have f6 := HI.trd.frozen i
          have c2 := HI.fst.cell (j := i) (by omega)
          have HN := Lib.hid (HI.set_ i ((X0.getD i 0 + s.getD i 0) % 4294967296)).drew
          rw [← sums] at HN
          obtain ⟨y, hy⟩ : ∃ y, X0.getD i 0 = y := ⟨_, rfl⟩
          obtain ⟨z, hz⟩ : ∃ z, s.getD i 0 = z := ⟨_, rfl⟩
          obtain ⟨v, hv⟩ : ∃ v, (y + z) % 4294967296 = v := ⟨_, rfl⟩
          rw [hy] at c6
          rw [hz] at c2
          rw [hy, hz, hv] at HN
          have e1 : IntKind.u32.wrap (y + z) = v := by rw [IntKind.wrap_u32]; exact hv
          have q0 : (0 : Int) ≤ (i : Int) ∧ (i : Int) < 8 := by omega
          clear HI hy hz hv hsl
          go_wp2
          go_region
          all_goals
            go_wp2
            go_roundw
            case rel => exact ⟨i + 1, by omega, by go_num, HN.out⟩
            case measure => simp [intOf]; omega
        · rw [show ((i : Nat) : Int) = 8 by omega]
          obtain rfl : i = 8 := by omega
          have hsl := sums_len X0 s 8
          rw [hxl] at hsl
          have RZ := Lib.hid (sized (sums X0 s 8) hsl)
          have RL := Lib.hid (show Z8.length = (sums X0 s 8).length by rw [hsl]; rfl)
          have H6 := Lib.hid HI.trd
          have H4 := Lib.hid HI.snd
          have HB := Lib.hid HI.bel
          rw [HR.out] at RZ RL H6
          clear HI hi hlt hsl
          go_wp2_with (first
            | (with_reducible refine at_any ?_; refine at_dst 36 rfl ?_; refine wpList_load_ints rfl 53 (.tmp 6) rfl g6 rfl 53 .u32 R H6.out _ Tryd.underlying53 rfl RZ.out ?_)
            | (with_reducible refine at_any ?_; refine at_store 4 rfl ?_; refine wpList_store_ints rfl 53 (.tmp 4) (.tmp 36) rfl g4 rfl 53 .u32 Z8 R H4.out rfl RL.out RZ.out ?_; intro w9 hk9 hs9 hb9 ho9)
            | (refine bodyPost_cell 4 53 rfl g4 rfl 53 .u32 R hk9.out _ Tryd.underlying53 rfl RZ.out rfl ?_))
          first | exact HB.out.trans (hb9 _ HG4.out) | (rw [← HW.out]; exact HB.out.trans (hb9 _ HG4.out))
end Go.Proofs.YtdnjnbeoioicfaaDoor

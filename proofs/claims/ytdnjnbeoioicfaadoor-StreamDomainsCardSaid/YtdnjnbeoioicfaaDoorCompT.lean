/-
  What the program's comp.Take returns, and that it leaves memory as it was.
  Conditions: the arguments lie in their types' ranges; the table of constants holds what the program's text lays.
-/
import Derived.Test.YtdnjnbeoioicfaaDoorCompA
import Derived.Test.YtdnjnbeoioicfaaDoorHeldA
set_option linter.unusedSimpArgs false
namespace Go.Proofs.YtdnjnbeoioicfaaDoor
open Go.ChangeShapes Go.WideShapes Go.ChangeAt Go.RowKit
set_option linter.unusedVariables false
theorem In3.store {w w' w'' : World} {g1 g2 g3 : Nat} {t1 t2 t3 : TypeId} {k1 k2 k3 : IntKind} {l1 l2 l3 y : List Int} (h : In3 w g1 g2 g3 t1 t2 t3 k1 k2 k3 l1 l2 l3 w') (hk : BlkI w'' g3 t3 k3 y) (hb : ∀ B, B ≤ g3 → Below B w' w'') (ho : ∀ j, j ≠ g3 → w''.heap[j]? = w'.heap[j]?) : In3 w g1 g2 g3 t1 t2 t3 k1 k2 k3 l1 l2 y w'' := by
  obtain ⟨h1, h2, h3, h4, h5, h6, h7⟩ := h
  exact ⟨h1.other ho h6, h2.other ho h7, hk, h4.trans (hb _ h5), h5, h6, h7⟩
theorem sums_comm (x s : List Int) (hx : x.length = 8) (hs : s.length = 8) : sums x s 8 = sums s x 8 := by
  obtain ⟨a, b, c, d, e, f, p, q, rfl⟩ : ∃ a b c d e f p q, s = [a, b, c, d, e, f, p, q] := ⟨_, _, _, _, _, _, _, _, list8 s hs⟩
  obtain ⟨a', b', c', d', e', f', p', q', rfl⟩ : ∃ a b c d e f p q, x = [a, b, c, d, e, f, p, q] := ⟨_, _, _, _, _, _, _, _, list8 x hx⟩
  simp [sums, Int.add_comm]
theorem index_plan (zs : List Int) (hl : zs.length = 64) (i : Int) (h0 : 0 ≤ i) (h1 : i ≤ 63) (w : World) : (Instr.index 75 (.agg (intsA .u32 zs)) (.int .i64 i)).run Tryd.prog w = .ok (.int .u32 (zs.getD i.toNat 0)) w := by
  obtain ⟨i0, hi, _, hs, _⟩ := info_parts info_u32c
  exact run_index_arr Tryd.underlying75 Tryd.underlying32 hi hs _ _ _ _ h0 (by omega) (intsA_at .u32 zs i.toNat (by omega)) w
/-- What Take keeps: the state that came in, the one to go out, the one at hand. -/
def Tz (w : World) (g2 g4 g5 : Nat) (s z : List Int) (w' : World) : Prop := In3 w g2 g4 g5 53 53 53 .u32 .u32 .u32 s Z8 z w' ∧ Kst w' ∧ w.heap.size ≤ g2
def TzW (w : World) (g2 g4 g5 : Nat) (s : List Int) (w' : World) : Prop := ∃ z, Tz w g2 g4 g5 s z w'
section
variable {w w' w'' : World} {g2 g4 g5 : Nat} {s z : List Int}
theorem Tz.kst (h : Tz w g2 g4 g5 s z w') : Kst w' := h.2.1
theorem TzW.kst (h : TzW w g2 g4 g5 s w') : Kst w' := by obtain ⟨z, h⟩ := h; exact h.kst
theorem Tz.drew (h : Tz w g2 g4 g5 s z w') : Tz w g2 g4 g5 s z w'.drew := ⟨h.1.drew, h.2.1.drew, h.2.2⟩
theorem Tz.below (h : Tz w g2 g4 g5 s z w') (hb : Below w'.heap.size w' w'') : Tz w g2 g4 g5 s z w'' := ⟨h.1.below hb, h.2.1.below hb, h.2.2⟩
theorem Tz.store (h : Tz w g2 g4 g5 s z w') (hw : Kst w) {y : List Int} (hk : BlkI w'' g5 53 .u32 y) (hb : ∀ B, B ≤ g5 → Below B w' w'') (ho : ∀ j, j ≠ g5 → w''.heap[j]? = w'.heap[j]?) : Tz w g2 g4 g5 s y w'' := by
  have h1 := h.1.store hk hb ho
  exact ⟨h1, hw.below h1.bel, h.2.2⟩
end
set_option maxHeartbeats 2000000 in
theorem ctake_c (s b : List Int) (hl : s.length = 8) (hs : WIn s) (hbl : b.length = 64) (hb : ∀ z ∈ b, 0 ≤ z ∧ z < 256) (w : World) (hkst : Kst w) :
    Calls Tryd.prog 45 #[.agg (intsA .u32 s), .agg (intsA .u8 b)] w fun e w' => e = .returned (.agg (intsA .u32 (takeL s b))) ∧ Below w.heap.size w w' := by
  obtain ⟨X0, hx⟩ : ∃ x, rounds s b 64 = x := ⟨_, rfl⟩
  obtain ⟨R, hR⟩ : ∃ R, sums s X0 8 = R := ⟨_, rfl⟩
  have hxl := rounds_len s b hl 64
  rw [hx] at hxl
  rw [show takeL s b = R by rw [takeL, hx, sums_comm X0 s hxl hl, hR]]
  have HX := Lib.hid hx
  have HR := Lib.hid hR
  have HXL := Lib.hid hxl
  clear hx hR hxl
  have SZ := Lib.hid (sized s hl)
  have ZL := Lib.hid (show Z8.length = s.length by rw [hl]; rfl)
  have BS := Lib.hid (show (Tryd.prog.info? 64).map (·.size) = some b.length by rw [hbl]; kernel_rfl)
  have KW := Lib.hid hkst
  clear hkst
  have hix := fun W (i : Nat) (hi : i < 64) => index_plan (planL b) (planL_len b) (i : Int) (by omega) (by omega) W
  have co := fun W => pof_c b hbl hb W
  obtain ⟨PA, hPA⟩ : ∃ S, intsA .u32 (planL b) = S := ⟨_, rfl⟩
  rw [hPA] at hix co
  have CO := Lib.hid co
  have HIX := Lib.hid hix
  clear hix co
  go_enter Tryd.func45, Tryd.ntmps45
  go_wp2_with (first
    | (with_reducible refine at_any ?_; refine at_dst 2 rfl ?_; refine wpList_box_ints rfl 53 (.tmp 0) rfl .u32 s rfl ?_; intro w1 hk1 hs1 hb1)
    | (with_reducible refine at_any ?_; refine at_dst 3 rfl ?_; refine wpList_box_ints rfl 64 (.tmp 1) rfl .u8 b rfl ?_; intro w2 hk2 hs2 hb2; have hk1b := Lib.hid (hk1.out.below hb2 hk1.out.lt))
    | (with_reducible refine at_any ?_; refine at_dst 4 rfl ?_; refine wpList_alloc_ints rfl 53 rfl .u32 Z8 zero_state ?_; intro w3 hk3 hs3 hb3; have hk1c := Lib.hid (hk1b.out.below hb3 hk1b.out.lt); have hk2c := Lib.hid (hk2.out.below hb3 hk2.out.lt); have bl3 := Lib.hid (hb1.trans ((hb2.mono hb1.size).trans (hb3.mono (by have := hb1.size; have := hb2.size; omega)))))
    | (with_reducible refine at_any ?_; refine at_dst 9 rfl ?_; refine wpList_load_ints rfl 53 (.tmp 2) rfl w.heap.size rfl 53 .u32 s hk1c.out _ Tryd.underlying53 rfl SZ.out ?_)
    | (with_reducible refine at_any ?_; refine at_dst 5 rfl ?_; refine wpList_alloc_ints rfl 53 rfl .u32 Z8 zero_state ?_; intro w4 hk4 hs4 hb4; have hk1d := Lib.hid (hk1c.out.below hb4 hk1c.out.lt); have hk2d := Lib.hid (hk2c.out.below hb4 hk2c.out.lt); have hk3d := Lib.hid (hk3.out.below hb4 hk3.out.lt); have bl4 := Lib.hid (bl3.out.trans (hb4.mono bl3.out.size)))
    | (with_reducible refine at_any ?_; refine at_store 5 rfl ?_; refine wpList_store_ints rfl 53 (.tmp 5) (.tmp 9) rfl w3.heap.size rfl 53 .u32 Z8 s hk4.out rfl ZL.out SZ.out ?_; intro w5 hk5 hs5 hb5 ho5; have hk1e := Lib.hid (hk1d.out.below (hb5 _ (Nat.le_refl _)) hk1c.out.lt); have hk2e := Lib.hid (hk2d.out.below (hb5 _ (Nat.le_refl _)) hk2c.out.lt); have hk3e := Lib.hid (hk3d.out.below (hb5 _ (Nat.le_refl _)) hk3.out.lt); have bl5 := Lib.hid (bl4.out.trans (hb5 _ bl3.out.size)))
    | (with_reducible refine at_any ?_; refine at_dst 10 rfl ?_; refine wpList_load_ints rfl 64 (.tmp 3) rfl w1.heap.size rfl 64 .u8 b hk2e.out _ Tryd.underlying64 rfl BS.out ?_)
    | (go_at_call 53; (with_reducible refine (CO.out _).mono ?_); rintro e w6 ⟨rfl, hb6⟩))
  have HT : Tz w w.heap.size w2.heap.size w3.heap.size s (rounds s b 0) w6 := by
    have q1 := hk1c.out.lt
    have q3 := hk3.out.lt
    have q2 := hk3.out.lt
    have qa := hb1.size
    have qb := hb2.size
    have qc := hb3.size
    have h3 : In3 w w.heap.size w2.heap.size w3.heap.size 53 53 53 .u32 .u32 .u32 s Z8 s w6 := ⟨hk1e.out.below hb6 hk1e.out.lt, hk3e.out.below hb6 hk3e.out.lt, hk5.out.below hb6 hk5.out.lt, bl5.out.trans (hb6.mono bl5.out.size), bl3.out.size, by omega, by omega⟩
    exact ⟨h3, KW.out.below h3.bel, Nat.le_refl _⟩
  obtain ⟨g2, hg2⟩ : ∃ g, w.heap.size = g := ⟨_, rfl⟩
  obtain ⟨g4, hg4⟩ : ∃ g, w2.heap.size = g := ⟨_, rfl⟩
  obtain ⟨g5, hg5⟩ : ∃ g, w3.heap.size = g := ⟨_, rfl⟩
  have HG4 := Lib.hid (show w.heap.size ≤ g4 ∧ g2 ≠ g4 ∧ g2 ≠ g5 by have := hs1.out; have := hs2.out; have := hs3.out; omega)
  have HW := Lib.hid hg2
  rw [hg2, hg4, hg5] at HT
  rw [hg2, hg4, hg5]
  clear hk1 hs1 hb1 hk2 hs2 hb2 hk1b hk3 hs3 hb3 hk1c hk2c bl3 hk4 hs4 hb4 hk1d hk2d hk3d bl4 hk5 hs5 hb5 ho5 hk1e hk2e hk3e bl5 hb6 hg2 hg4 hg5 BS ZL CO
  go_loopw [12] (fun v wr => ∃ i : Nat, i ≤ 64 ∧ v = .int .i64 i ∧ Tz w g2 g4 g5 s (rounds s b i) wr) (fun v _ => 64 - (intOf v).toNat)
  case atStart => exact ⟨0, by omega, rfl, HT⟩
  case round =>
    clear HT
    obtain ⟨i, hi, rfl, HT⟩ := hrel
    by_cases hlt : i < 64
    · have hxl := rounds_len s b hl i
      have hxi := rounds_in s b hs i
      have hix := fun W => HIX.out W i hlt
      have ry := pw_in b hb i hlt
      rw [show (planL b).getD ((i : Int)).toNat 0 = pw b i by rfl] at hix
      obtain ⟨x, hx⟩ : ∃ x, rounds s b i = x := ⟨_, rfl⟩
      have hnx : rounds s b (i + 1) = roundL x (pw b i) (constN i) := by rw [rounds, hx]
      rw [hx] at hxl hxi HT
      obtain ⟨y, hy⟩ : ∃ y, pw b i = y := ⟨_, rfl⟩
      obtain ⟨k, hk⟩ : ∃ k, constN (i : Int) = k := ⟨_, rfl⟩
      have rk := constN_in (i : Int)
      rw [hy, hk] at hnx
      rw [hy] at hix ry
      rw [hk] at rk
      have d1 := fun W (h : Kst W) => cconst_c (i : Int) (by omega) (by omega) W h
      rw [hk] at d1
      have D1 := Lib.hid d1
      have D2 := Lib.hid (fun W => cround_c x y k hxl hxi ry.1 ry.2 rk.1 rk.2 W)
      have HXS := Lib.hid (sized x hxl)
      have HRS := Lib.hid (sized (roundL x y k) rfl)
      have HLL := Lib.hid (show x.length = (roundL x y k).length by rw [hxl]; rfl)
      have q0 : (0 : Int) ≤ (i : Int) ∧ (i : Int) < 64 := by omega
      have HNX := Lib.hid hnx
      have HTd := HT.drew
      clear hnx hx hy hk d1 hxl hxi rk ry
      go_wp2
      refine wp_region_held_drew (S := TzW w g2 g4 g5 s) (by kernel_rfl) (⟨_, HTd⟩) (fun hH => ?_)
      refine held_val 1 rfl (by kernel_rfl) (by kernel_rfl) (by kernel_rfl) (fun _ _ _ _ h => h) (by rfl) (.int .u32 y) (fun W h => by go_simp) hH ?_
      try simp only [Act.put, List.setIfInBounds_toArray, List.set_cons_zero, List.set_cons_succ]
      refine held_val 2 rfl (by kernel_rfl) (by kernel_rfl) (by kernel_rfl) (fun _ _ _ _ h => h) (by rfl) (.int .i64 (i : Int)) (fun W h => by go_simp) hH ?_
      try simp only [Act.put, List.setIfInBounds_toArray, List.set_cons_zero, List.set_cons_succ]
      refine wpAnyH_ready (rs := [0, 3]) (by kernel_rfl) (by decide) ?_
      refine AllReadyH.cons rfl (fun K hK => ?_) (AllReadyH.cons rfl (fun K hK => ?_) AllReadyH.nil)
      · refine step_load_ints (by rfl) 53 (.tmp 5) rfl g5 (by kernel_rfl) 53 .u32 x HTd.1.trd _ Tryd.underlying53 rfl HXS.out ?_
        refine hK.out _ _ hH (fun _ => ?_)
        clear hK K
        try simp only [Act.put, List.setIfInBounds_toArray, List.set_cons_zero, List.set_cons_succ]
        refine wpAnyH_ready (rs := [3]) (by kernel_rfl) (by decide) ?_
        refine AllReadyH.cons rfl (fun K hK => ?_) AllReadyH.nil
        go_simp
        refine (D1.out _ HTd.kst).mono ?_
        rintro e _ ⟨rfl, rfl⟩
        refine hK.out _ _ hH (fun _ => ?_)
        clear hK K
        try simp only [Act.put, List.setIfInBounds_toArray, List.set_cons_zero, List.set_cons_succ]
        refine wpAnyH_ready (rs := [4]) (by kernel_rfl) (by decide) ?_
        refine AllReadyH.cons rfl (fun K hK => ?_) AllReadyH.nil
        go_simp
        refine (D2.out _).mono ?_
        rintro e w9 ⟨rfl, hbw9⟩
        have h9 := HTd.below hbw9
        refine hK.out _ _ ⟨_, h9⟩ (fun _ => ?_)
        clear hK K
        try simp only [Act.put, List.setIfInBounds_toArray, List.set_cons_zero, List.set_cons_succ]
        refine held_store 5 rfl (by kernel_rfl) (by rfl) 53 (.tmp 5) (.tmp 20) rfl g5 (by kernel_rfl) 53 .u32 x (roundL x y k) (h9.1.trd) (by kernel_rfl) (HLL.out) (HRS.out) ?_
        intro w10 hkw10 hbw10 how10
        refine ⟨⟨_, h9.store KW.out hkw10.out hbw10 how10⟩, ?_⟩
        try simp only [Act.put, List.setIfInBounds_toArray, List.set_cons_zero, List.set_cons_succ]
        refine wpAnyH_done (by kernel_rfl) ?_ _
        have HN := Lib.hid (h9.store KW.out hkw10.out hbw10 how10)
        rw [← HNX.out] at HN
        go_wp2
        go_roundw
        case rel => exact ⟨i + 1, by omega, by go_num, HN.out⟩
        case measure => simp [intOf]; omega
      · go_simp
        refine (D1.out _ HTd.kst).mono ?_
        rintro e _ ⟨rfl, rfl⟩
        refine hK.out _ _ hH (fun _ => ?_)
        clear hK K
        try simp only [Act.put, List.setIfInBounds_toArray, List.set_cons_zero, List.set_cons_succ]
        refine wpAnyH_ready (rs := [0]) (by kernel_rfl) (by decide) ?_
        refine AllReadyH.cons rfl (fun K hK => ?_) AllReadyH.nil
        refine step_load_ints (by rfl) 53 (.tmp 5) rfl g5 (by kernel_rfl) 53 .u32 x HTd.1.trd _ Tryd.underlying53 rfl HXS.out ?_
        refine hK.out _ _ hH (fun _ => ?_)
        clear hK K
        try simp only [Act.put, List.setIfInBounds_toArray, List.set_cons_zero, List.set_cons_succ]
        refine wpAnyH_ready (rs := [4]) (by kernel_rfl) (by decide) ?_
        refine AllReadyH.cons rfl (fun K hK => ?_) AllReadyH.nil
        go_simp
        refine (D2.out _).mono ?_
        rintro e w9 ⟨rfl, hbw9⟩
        have h9 := HTd.below hbw9
        refine hK.out _ _ ⟨_, h9⟩ (fun _ => ?_)
        clear hK K
        try simp only [Act.put, List.setIfInBounds_toArray, List.set_cons_zero, List.set_cons_succ]
        refine held_store 5 rfl (by kernel_rfl) (by rfl) 53 (.tmp 5) (.tmp 20) rfl g5 (by kernel_rfl) 53 .u32 x (roundL x y k) (h9.1.trd) (by kernel_rfl) (HLL.out) (HRS.out) ?_
        intro w10 hkw10 hbw10 how10
        refine ⟨⟨_, h9.store KW.out hkw10.out hbw10 how10⟩, ?_⟩
        try simp only [Act.put, List.setIfInBounds_toArray, List.set_cons_zero, List.set_cons_succ]
        refine wpAnyH_done (by kernel_rfl) ?_ _
        have HN := Lib.hid (h9.store KW.out hkw10.out hbw10 how10)
        rw [← HNX.out] at HN
        go_wp2
        go_roundw
        case rel => exact ⟨i + 1, by omega, by go_num, HN.out⟩
        case measure => simp [intOf]; omega
    · rw [show ((i : Nat) : Int) = 64 by omega]
      obtain rfl : i = 64 := by omega
      have hxl := HXL.out
      rw [HX.out] at HT
      have HI : In3 w g5 g4 g2 53 53 53 .u32 .u32 .u32 X0 Z8 s wr := ⟨HT.1.trd, HT.1.snd, HT.1.fst, HT.1.bel, HT.2.2, Ne.symm HG4.out.2.2, Ne.symm HG4.out.2.1⟩
      clear HT hi hlt
      go_wp2
      go_loopw [22] (fun v wr => ∃ i : Nat, i ≤ 8 ∧ v = .int .i64 i ∧ In3 w g5 g4 g2 53 53 53 .u32 .u32 .u32 X0 Z8 (sums s X0 i) wr) (fun v _ => 8 - (intOf v).toNat)
      case atStart => exact ⟨0, by omega, rfl, HI⟩
      case round =>
        clear HI
        obtain ⟨i, hi, rfl, HI⟩ := hrel
        by_cases hlt : i < 8
        · have hsl := sums_len s X0 i
          have c6 := HI.trd.cell (j := i) (by omega)
          rw [sums_at s X0 i i (Nat.le_refl _)] at c6
          have f6 := HI.trd.frozen i
          have c2 := HI.fst.cell (j := i) (by omega)
          have HN := Lib.hid (HI.set_ i ((s.getD i 0 + X0.getD i 0) % 4294967296)).drew
          rw [← sums] at HN
          obtain ⟨y, hy⟩ : ∃ y, s.getD i 0 = y := ⟨_, rfl⟩
          obtain ⟨z, hz⟩ : ∃ z, X0.getD i 0 = z := ⟨_, rfl⟩
          obtain ⟨v, hv⟩ : ∃ v, (y + z) % 4294967296 = v := ⟨_, rfl⟩
          rw [hy] at c6
          rw [hz] at c2
          rw [hy, hz, hv] at HN
          have e1 : IntKind.u32.wrap (y + z) = v := by rw [IntKind.wrap_u32]; exact hv
          have q0 : (0 : Int) ≤ (i : Int) ∧ (i : Int) < 8 := by omega
          clear HI hy hz hv hsl
          go_wp2
          go_region
          all_goals
            go_wp2
            go_roundw
            case rel => exact ⟨i + 1, by omega, by go_num, HN.out⟩
            case measure => simp [intOf]; omega
        · rw [show ((i : Nat) : Int) = 8 by omega]
          obtain rfl : i = 8 := by omega
          have hsl := sums_len s X0 8
          rw [hl] at hsl
          have RZ := Lib.hid (sized (sums s X0 8) hsl)
          have RL := Lib.hid (show Z8.length = (sums s X0 8).length by rw [hsl]; rfl)
          have H6 := Lib.hid HI.trd
          have H4 := Lib.hid HI.snd
          have HB := Lib.hid HI.bel
          rw [HR.out] at RZ RL H6
          clear HI hi hlt hsl
          go_wp2_with (first
            | (with_reducible refine at_any ?_; refine at_dst 34 rfl ?_; refine wpList_load_ints rfl 53 (.tmp 2) rfl g2 rfl 53 .u32 R H6.out _ Tryd.underlying53 rfl RZ.out ?_)
            | (with_reducible refine at_any ?_; refine at_store 4 rfl ?_; refine wpList_store_ints rfl 53 (.tmp 4) (.tmp 34) rfl g4 rfl 53 .u32 Z8 R H4.out rfl RL.out RZ.out ?_; intro w9 hk9 hs9 hb9 ho9)
            | (refine bodyPost_cell 4 53 rfl g4 rfl 53 .u32 R hk9.out _ Tryd.underlying53 rfl RZ.out rfl ?_))
          first | exact HB.out.trans (hb9 _ HG4.out.1) | (rw [← HW.out]; exact HB.out.trans (hb9 _ HG4.out.1))
end Go.Proofs.YtdnjnbeoioicfaaDoor

/-
  Texts of this claim, joined (what the claim does not need is left out): RefC, RefD, RefE, RefF, RefG, RefH, RefI, RefJ, ShaM, StrmM, SrcM, EqA, NedP, UniP, UniM, LedN, LedM, ComP, CntP, LedP, UniQ, ComQ, NatP, NatM, NatR, ComM, ComL, ComT, GrtR, StrmA, RefM, RefN, RefNd.
-/
import Derived.Test.YtgnclifmfefbcaaGreatDoorJGa
import Derived.Test.YtgnclifmfefbcaaGreatDoorRows
import Derived.Deep.RegionHeld3
import Derived.KernelRfl
import Derived.Deep.QuietTactic
import Derived.BigQuiet
set_option maxRecDepth 100000
set_option linter.unusedVariables false
set_option linter.unusedSimpArgs false
set_option linter.unusedSectionVars false
namespace Go.Proofs.YtgnclifmfefbcaaGreatDoor
section
open Go.ChangeShapes Go.WideShapes Go.ChangeAt Go.RowKit
theorem info_u32c : (Tryz.prog.info? 62).map (fun i => (i.zero, i.size, i.bytes)) = some (some (.int .u32 0), 1, 4) := by kernel_rfl
theorem rfirst_c (x : Int) (h0 : 0 ≤ x) (h1 : x < 4294967296) (w : World) :
    Calls Tryz.prog 145 #[.int .u32 x] w fun e w' => e = .returned (.int .u32 (mix1 x)) ∧ w = w' := by
  unfold mix1
  go_enter Tryz.func145, Tryz.ntmps145
  go_wp2_with (first
    | (go_at_call 152; (with_reducible refine (rrotate_c _ _ (by omega) (by omega) (by omega) (by omega) _).mono ?_); rintro e _ ⟨rfl, rfl⟩)
    | (go_at_call 48; (with_reducible refine (rright_c _ _ (by omega) (by omega) (by omega) (by omega) _).mono ?_); rintro e _ ⟨rfl, rfl⟩))
  go_ret
  exact ⟨rfl, rfl⟩
theorem rsecond_c (x : Int) (h0 : 0 ≤ x) (h1 : x < 4294967296) (w : World) :
    Calls Tryz.prog 144 #[.int .u32 x] w fun e w' => e = .returned (.int .u32 (mix2 x)) ∧ w = w' := by
  unfold mix2
  go_enter Tryz.func144, Tryz.ntmps144
  go_wp2_with (first
    | (go_at_call 152; (with_reducible refine (rrotate_c _ _ (by omega) (by omega) (by omega) (by omega) _).mono ?_); rintro e _ ⟨rfl, rfl⟩)
    | (go_at_call 48; (with_reducible refine (rright_c _ _ (by omega) (by omega) (by omega) (by omega) _).mono ?_); rintro e _ ⟨rfl, rfl⟩))
  go_ret
  exact ⟨rfl, rfl⟩
theorem zero_plan : ∀ W, (zeroValue 180).run Tryz.prog W = .ok (.agg (intsA .u32 (List.replicate 64 0))) W := (zero_of_info (n := 64) (by kernel_rfl)).1
theorem size_plan : (Tryz.prog.info? 180).map (·.size) = some 64 := by kernel_rfl
set_option maxHeartbeats 1000000 in
theorem rof_c (b : List Int) (hl : b.length = 64) (hb : ∀ z ∈ b, 0 ≤ z ∧ z < 256) (w : World) :
    Calls Tryz.prog 137 #[.agg (intsA .u8 b)] w fun e w' => e = .returned (.agg (intsA .u32 (planL b))) ∧ Below w.heap.size w w' := by
  go_enter Tryz.func137, Tryz.ntmps137
  go_wp2_with (first
    | (with_reducible refine at_any ?_; refine at_dst 1 rfl ?_; refine wpList_box_ints rfl 137 (.tmp 0) rfl .u8 b rfl ?_; intro w1 hk1 hs1 hb1)
    | (with_reducible refine at_any ?_; refine at_dst 2 rfl ?_; refine wpList_alloc_ints rfl 180 rfl .u32 (List.replicate 64 0) zero_plan ?_; intro w2 hk2 hs2 hb2)
    | (with_reducible refine at_any ?_; refine at_dst 3 rfl ?_; refine wpList_alloc_ints rfl 180 rfl .u32 (List.replicate 64 0) zero_plan ?_; intro w3 hk3 hs3 hb3))
  have HI : In3 w w.heap.size w1.heap.size w2.heap.size 137 180 180 .u8 .u32 .u32 b (List.replicate 64 0) (planF b 0) w3 := by
    rw [planF_zero]
    have q1 := hs1.out
    have q2 := hs2.out
    have q3 := hs3.out
    exact ⟨(hk1.out.below hb2 (by omega)).below hb3 (by omega), hk2.out.below hb3 (by omega), hk3.out, hb1.trans ((hb2.mono (by omega)).trans (hb3.mono (by omega))), by omega, by omega, by omega⟩
  obtain ⟨g1, hg1⟩ : ∃ g, w.heap.size = g := ⟨_, rfl⟩
  obtain ⟨g2, hg2⟩ : ∃ g, w1.heap.size = g := ⟨_, rfl⟩
  obtain ⟨g3, hg3⟩ : ∃ g, w2.heap.size = g := ⟨_, rfl⟩
  have HG2 := Lib.hid (show w.heap.size ≤ g2 by have := hb1.size; omega)
  rw [hg1, hg2, hg3] at HI
  rw [hg1, hg2, hg3]
  clear hk1 hs1 hb1 hk2 hs2 hb2 hk3 hs3 hb3
  go_loopw [4] (fun v wr => ∃ i : Nat, i ≤ 16 ∧ v = .int .i64 i ∧ In3 w g1 g2 g3 137 180 180 .u8 .u32 .u32 b (List.replicate 64 0) (planF b i) wr) (fun v _ => 16 - (intOf v).toNat)
  case atStart => exact ⟨0, by omega, rfl, HI⟩
  case round =>
    clear HI
    obtain ⟨i, hi, rfl, HI⟩ := hrel
    by_cases hlt : i < 16
    · have hpl := planF_len b i (by omega)
      have HW := HI.open_ (i := i) (by omega)
      have hset := fun v hv => planF_set b i (by omega) v hv
      obtain ⟨m, hm⟩ : ∃ m, 4 * i = m := ⟨_, rfl⟩
      obtain ⟨m1, hm1⟩ : ∃ m1, 4 * i + 1 = m1 := ⟨_, rfl⟩
      obtain ⟨m2, hm2⟩ : ∃ m2, 4 * i + 2 = m2 := ⟨_, rfl⟩
      obtain ⟨m3, hm3⟩ : ∃ m3, 4 * i + 3 = m3 := ⟨_, rfl⟩
      have c0 := HW.cell1 (j := m) (by omega)
      have c1 := HW.cell1 (j := m1) (by omega)
      have c2 := HW.cell1 (j := m2) (by omega)
      have c3 := HW.cell1 (j := m3) (by omega)
      have hg : ∀ j, j < 64 → 0 ≤ b.getD j 0 ∧ b.getD j 0 < 256 := by
        intro j hj
        have h : j < b.length := by omega
        simp [h]; exact hb _ (List.getElem_mem h)
      have r0 := hg m (by omega)
      have r1 := hg m1 (by omega)
      have r2 := hg m2 (by omega)
      have r3 := hg m3 (by omega)
      have hv : word4 b i = Wd.get4 (b.getD m 0) (b.getD m1 0) (b.getD m2 0) (b.getD m3 0) := by unfold word4; rw [hm1, hm2, hm3, hm]
      have hsv := hset (word4 b i) (by rw [if_pos hlt])
      have HK : ∀ w', In3W w g1 g2 g3 137 180 180 .u8 .u32 .u32 b (List.replicate 64 0) (planF b i) i w' → w'.cell? ⟨g1, m, none⟩ = some (.int .u8 (b.getD m 0)) ∧ w'.cell? ⟨g1, m1, none⟩ = some (.int .u8 (b.getD m1 0)) ∧ w'.cell? ⟨g1, m2, none⟩ = some (.int .u8 (b.getD m2 0)) ∧ w'.cell? ⟨g1, m3, none⟩ = some (.int .u8 (b.getD m3 0)) ∧ In3W w g1 g2 g3 137 180 180 .u8 .u32 .u32 b (List.replicate 64 0) (planF b i) i w' :=
        fun w' h => ⟨h.cell1 (by omega), h.cell1 (by omega), h.cell1 (by omega), h.cell1 (by omega), h⟩
      have HA : ∀ w', In3W w g1 g2 g3 137 180 180 .u8 .u32 .u32 b (List.replicate 64 0) (planF b i) i w' → (∃ u, w'.cell? ⟨g3, i, none⟩ = some (.int .u32 u)) ∧ w'.frozen? ⟨g3, i, none⟩ = false := fun w' h => h.at_ (by omega)
      obtain ⟨a0, ha0⟩ : ∃ a, b.getD m 0 = a := ⟨_, rfl⟩
      obtain ⟨a1, ha1⟩ : ∃ a, b.getD m1 0 = a := ⟨_, rfl⟩
      obtain ⟨a2, ha2⟩ : ∃ a, b.getD m2 0 = a := ⟨_, rfl⟩
      obtain ⟨a3, ha3⟩ : ∃ a, b.getD m3 0 = a := ⟨_, rfl⟩
      rw [ha0, ha1, ha2, ha3] at HK hv
      rw [ha0] at c0 r0
      rw [ha1] at c1 r1
      rw [ha2] at c2 r2
      rw [ha3] at c3 r3
      rw [hv] at hsv
      have HK' := Lib.hid HK
      have HA' := Lib.hid HA
      have HSV := Lib.hid hsv
      have e0 : IntKind.i64.wrap (4 * (i : Int)) = (m : Int) := by rw [IntWalk.i64_in _ (by omega)]; omega
      have e1 : IntKind.i64.wrap ((m : Int) + 1) = (m1 : Int) := by rw [IntWalk.i64_in _ (by omega)]; omega
      have e2 : IntKind.i64.wrap ((m : Int) + 2) = (m2 : Int) := by rw [IntWalk.i64_in _ (by omega)]; omega
      have e3 : IntKind.i64.wrap ((m : Int) + 3) = (m3 : Int) := by rw [IntWalk.i64_in _ (by omega)]; omega
      have q0 : (0 : Int) ≤ (m : Int) ∧ (m : Int) < 64 := by omega
      have q1 : (0 : Int) ≤ (m1 : Int) ∧ (m1 : Int) < 64 := by omega
      have q2 : (0 : Int) ≤ (m2 : Int) ∧ (m2 : Int) < 64 := by omega
      have q3 : (0 : Int) ≤ (m3 : Int) ∧ (m3 : Int) < 64 := by omega
      have q4 : (0 : Int) ≤ (i : Int) ∧ (i : Int) < 64 := by omega
      obtain ⟨⟨u0, hu0⟩, hf0⟩ := HA _ HW
      clear hset HK HA hg ha0 ha1 ha2 ha3 hm hm1 hm2 hm3 hv hsv hpl HI
      have HWd : In3W w g1 g2 g3 137 180 180 .u8 .u32 .u32 b (List.replicate 64 0) (planF b i) i wr.drew := by obtain ⟨u, hu⟩ := HW; exact ⟨u, hu.drew⟩
      go_wp2
      go_region_held3 (fun w' => w'.cell? ⟨g1, m, none⟩ = some (.int .u8 a0) ∧ w'.cell? ⟨g1, m1, none⟩ = some (.int .u8 a1) ∧ w'.cell? ⟨g1, m2, none⟩ = some (.int .u8 a2) ∧ w'.cell? ⟨g1, m3, none⟩ = some (.int .u8 a3) ∧ In3W w g1 g2 g3 137 180 180 .u8 .u32 .u32 b (List.replicate 64 0) (planF b i) i w')
        (first | assumption | exact HK'.out _ HWd | (go_split_ands; exact HK'.out _ HW5) | (go_split_ands; exact HK'.out _ (HW5.again _)))
        (first
          | (go_at_call 143; (with_reducible refine (rget32_c a0 a1 a2 a3 r0.1 r0.2 r1.1 r1.2 r2.1 r2.2 r3.1 r3.2 _).mono ?_); rintro e w5 ⟨rfl, hb5, _⟩; have HW5 := HWd.below hb5; obtain ⟨⟨u5, hu5⟩, hf5⟩ := HA'.out _ HW5))
      all_goals
        go_wp2
        go_roundw
        case rel => exact ⟨i + 1, by omega, by go_num, by rw [← HSV.out]; exact HW5.set_ _⟩
        case measure => simp [intOf]; omega
    · rw [show ((i : Nat) : Int) = 16 by omega]
      obtain rfl : i = 16 := by omega
      clear hi hlt
      go_wp2
      go_loopw [5] (fun v wr => ∃ i : Nat, 16 ≤ i ∧ i ≤ 64 ∧ v = .int .i64 i ∧ In3 w g1 g2 g3 137 180 180 .u8 .u32 .u32 b (List.replicate 64 0) (planF b i) wr) (fun v _ => 64 - (intOf v).toNat)
      case atStart => exact ⟨16, by omega, by omega, rfl, HI⟩
      case round =>
        clear HI
        obtain ⟨i, hi16, hi, rfl, HI⟩ := hrel
        by_cases hlt : i < 64
        · have hpl := planF_len b i (by omega)
          have HW := HI.open_ (i := i) (by omega)
          have hin := planTo_in b hb i
          have hg : ∀ j, j < i → (planF b i).getD j 0 = (planTo b i).getD j 0 ∧ 0 ≤ (planTo b i).getD j 0 ∧ (planTo b i).getD j 0 < 4294967296 := by
            intro j hj
            have h : j < (planTo b i).length := by rw [planTo_len]; exact hj
            refine ⟨planF_at b i j hj, ?_⟩
            simp [h]; exact hin _ (List.getElem_mem h)
          obtain ⟨m2, hm2⟩ : ∃ m, i - 2 = m := ⟨_, rfl⟩
          obtain ⟨m7, hm7⟩ : ∃ m, i - 7 = m := ⟨_, rfl⟩
          obtain ⟨m15, hm15⟩ : ∃ m, i - 15 = m := ⟨_, rfl⟩
          obtain ⟨m16, hm16⟩ : ∃ m, i - 16 = m := ⟨_, rfl⟩
          have hsv := planF_set b i hlt (nextW (planTo b i) i) (by rw [if_neg (by omega)])
          have hv : nextW (planTo b i) i = (mix2 ((planTo b i).getD m2 0) + (planTo b i).getD m7 0 + mix1 ((planTo b i).getD m15 0) + (planTo b i).getD m16 0) % 4294967296 := by unfold nextW; rw [hm2, hm7, hm15, hm16]
          have HK : ∀ w', In3W w g1 g2 g3 137 180 180 .u8 .u32 .u32 b (List.replicate 64 0) (planF b i) i w' → w'.cell? ⟨g3, m2, none⟩ = some (.int .u32 ((planF b i).getD m2 0)) ∧ w'.cell? ⟨g3, m7, none⟩ = some (.int .u32 ((planF b i).getD m7 0)) ∧ w'.cell? ⟨g3, m15, none⟩ = some (.int .u32 ((planF b i).getD m15 0)) ∧ w'.cell? ⟨g3, m16, none⟩ = some (.int .u32 ((planF b i).getD m16 0)) ∧ In3W w g1 g2 g3 137 180 180 .u8 .u32 .u32 b (List.replicate 64 0) (planF b i) i w' :=
            fun w' h => ⟨h.cell3 (by omega) (by omega), h.cell3 (by omega) (by omega), h.cell3 (by omega) (by omega), h.cell3 (by omega) (by omega), h⟩
          obtain ⟨⟨u0, hu0⟩, hf0⟩ := HW.at_ (by omega)
          rw [(hg m2 (by omega)).1, (hg m7 (by omega)).1, (hg m15 (by omega)).1, (hg m16 (by omega)).1] at HK
          have r2 := (hg m2 (by omega)).2
          have r7 := (hg m7 (by omega)).2
          have r15 := (hg m15 (by omega)).2
          have r16 := (hg m16 (by omega)).2
          obtain ⟨x2, hx2⟩ : ∃ a, (planTo b i).getD m2 0 = a := ⟨_, rfl⟩
          obtain ⟨x7, hx7⟩ : ∃ a, (planTo b i).getD m7 0 = a := ⟨_, rfl⟩
          obtain ⟨x15, hx15⟩ : ∃ a, (planTo b i).getD m15 0 = a := ⟨_, rfl⟩
          obtain ⟨x16, hx16⟩ : ∃ a, (planTo b i).getD m16 0 = a := ⟨_, rfl⟩
          rw [hx2, hx7, hx15, hx16] at HK hv
          rw [hx2] at r2
          rw [hx7] at r7
          rw [hx15] at r15
          rw [hx16] at r16
          obtain ⟨c0, c1, c2, c3, _⟩ := HK _ HW
          obtain ⟨y2, hy2⟩ : ∃ a, mix2 x2 = a := ⟨_, rfl⟩
          obtain ⟨y15, hy15⟩ : ∃ a, mix1 x15 = a := ⟨_, rfl⟩
          have k2 := mix2_in x2
          have k15 := mix1_in x15
          rw [hy2, hy15] at hv
          rw [hy2] at k2
          rw [hy15] at k15
          obtain ⟨t1, ht1⟩ : ∃ t, (y2 + x7) % 4294967296 = t := ⟨_, rfl⟩
          obtain ⟨t2, ht2⟩ : ∃ t, (t1 + y15) % 4294967296 = t := ⟨_, rfl⟩
          obtain ⟨t3, ht3⟩ : ∃ t, (t2 + x16) % 4294967296 = t := ⟨_, rfl⟩
          have hv3 : nextW (planTo b i) i = t3 := by rw [hv]; omega
          rw [hv3] at hsv
          have f1 : IntKind.u32.wrap (y2 + x7) = t1 := by rw [IntKind.wrap_u32]; exact ht1
          have f2 : IntKind.u32.wrap (t1 + y15) = t2 := by rw [IntKind.wrap_u32]; exact ht2
          have f3 : IntKind.u32.wrap (t2 + x16) = t3 := by rw [IntKind.wrap_u32]; exact ht3
          have HK' := Lib.hid HK
          have HSV := Lib.hid hsv
          have e2 : IntKind.i64.wrap ((i : Int) - 2) = (m2 : Int) := by rw [IntWalk.i64_in _ (by omega)]; omega
          have e7 : IntKind.i64.wrap ((i : Int) - 7) = (m7 : Int) := by rw [IntWalk.i64_in _ (by omega)]; omega
          have e15 : IntKind.i64.wrap ((i : Int) - 15) = (m15 : Int) := by rw [IntWalk.i64_in _ (by omega)]; omega
          have e16 : IntKind.i64.wrap ((i : Int) - 16) = (m16 : Int) := by rw [IntWalk.i64_in _ (by omega)]; omega
          have q0 : (0 : Int) ≤ (m2 : Int) ∧ (m2 : Int) < 64 := by omega
          have q1 : (0 : Int) ≤ (m7 : Int) ∧ (m7 : Int) < 64 := by omega
          have q2 : (0 : Int) ≤ (m15 : Int) ∧ (m15 : Int) < 64 := by omega
          have q3 : (0 : Int) ≤ (m16 : Int) ∧ (m16 : Int) < 64 := by omega
          have q4 : (0 : Int) ≤ (i : Int) ∧ (i : Int) < 64 := by omega
          have H2 := Lib.hid hy2
          have H15 := Lib.hid hy15
          clear HK hg hin hx2 hx7 hx15 hx16 hm2 hm7 hm15 hm16 hv hv3 hsv hpl HI ht1 ht2 ht3 hy2 hy15
          have HWd : In3W w g1 g2 g3 137 180 180 .u8 .u32 .u32 b (List.replicate 64 0) (planF b i) i wr.drew := by obtain ⟨u, hu⟩ := HW; exact ⟨u, hu.drew⟩
          go_wp2
          go_region_held3 (fun w' => w'.cell? ⟨g3, m2, none⟩ = some (.int .u32 x2) ∧ w'.cell? ⟨g3, m7, none⟩ = some (.int .u32 x7) ∧ w'.cell? ⟨g3, m15, none⟩ = some (.int .u32 x15) ∧ w'.cell? ⟨g3, m16, none⟩ = some (.int .u32 x16) ∧ In3W w g1 g2 g3 137 180 180 .u8 .u32 .u32 b (List.replicate 64 0) (planF b i) i w')
            (first | assumption | exact HK'.out _ HWd | (go_split_ands; exact HK'.out _ (HWd.again _)))
            (first
              | (go_at_call 144; (with_reducible refine (rsecond_c x2 r2.1 r2.2 _).mono ?_); rw [H2.out]; rintro e w5 ⟨rfl, rfl⟩)
              | (go_at_call 145; (with_reducible refine (rfirst_c x15 r15.1 r15.2 _).mono ?_); rw [H15.out]; rintro e w5 ⟨rfl, rfl⟩))
          all_goals
            go_wp2
            go_roundw
            case rel => exact ⟨i + 1, by omega, by omega, by go_num, by rw [← HSV.out]; exact (HW.set_ _).drew⟩
            case measure => simp [intOf]; omega
        · rw [show ((i : Nat) : Int) = 64 by omega]
          obtain rfl : i = 64 := by omega
          rw [planF_full] at HI
          obtain ⟨h1, h2, h3, h4, h5, h6, h7⟩ := HI
          have hpl : (planL b).length = 64 := planTo_len b 64
          have HPL := Lib.hid hpl
          have H3 := Lib.hid h3
          have H2 := Lib.hid h2
          have hg2 : w.heap.size ≤ g2 := HG2.out
          clear hpl h1 h2 h3
          go_wp2_with (first
            | (with_reducible refine at_any ?_; refine at_dst 60 rfl ?_; refine wpList_load_ints rfl 180 (.tmp 3) rfl g3 rfl 180 .u32 (planL b) H3.out _ Tryz.underlying180 rfl (by rw [HPL.out]; exact size_plan) ?_)
            | (with_reducible refine at_any ?_; refine at_store 2 rfl ?_; refine wpList_store_ints rfl 180 (.tmp 2) (.tmp 60) rfl g2 rfl 180 .u32 (List.replicate 64 0) (planL b) H2.out rfl (by rw [HPL.out]; simp) (by rw [HPL.out]; exact size_plan) ?_; intro w9 hk9 hs9 hb9 ho9)
            | (refine bodyPost_cell 2 180 rfl g2 rfl 180 .u32 (planL b) hk9.out _ Tryz.underlying180 rfl (by rw [HPL.out]; exact size_plan) rfl ?_))
          rw [← hg1]
          exact h4.trans (hb9 _ hg2)
end
section
open Go.ChangeShapes Go.WideShapes Go.ChangeAt Go.RowKit
theorem rturned_c (x a b c : Int) (h0 : 0 ≤ x) (h1 : x < 4294967296) (a0 : 0 ≤ a) (a1 : a < 32) (b0 : 0 ≤ b) (b1 : b < 32) (c0 : 0 ≤ c) (c1 : c < 32) (w : World) :
    Calls Tryz.prog 146 #[.int .u32 x, .int .i64 a, .int .i64 b, .int .i64 c] w fun e w' => e = .returned (.int .u32 (turn3 x a b c)) ∧ w = w' := by
  unfold turn3
  go_enter Tryz.func146, Tryz.ntmps146
  go_wp2_with (go_at_call 152; (with_reducible refine (rrotate_c _ _ (by omega) (by omega) (by omega) (by omega) _).mono ?_); rintro e _ ⟨rfl, rfl⟩)
  go_ret
  exact ⟨rfl, rfl⟩
theorem rchoice_c (e f g : Int) (e0 : 0 ≤ e) (e1 : e < 4294967296) (f0 : 0 ≤ f) (f1 : f < 4294967296) (g0 : 0 ≤ g) (g1 : g < 4294967296) (w : World) :
    Calls Tryz.prog 147 #[.int .u32 e, .int .u32 f, .int .u32 g] w fun r w' => r = .returned (.int .u32 (chW e f g)) ∧ w = w' := by
  unfold chW
  go_enter Tryz.func147, Tryz.ntmps147
  go_wp2
  go_ret
  exact ⟨rfl, rfl⟩
theorem rmajority_c (a b c : Int) (a0 : 0 ≤ a) (a1 : a < 4294967296) (b0 : 0 ≤ b) (b1 : b < 4294967296) (c0 : 0 ≤ c) (c1 : c < 4294967296) (w : World) :
    Calls Tryz.prog 148 #[.int .u32 a, .int .u32 b, .int .u32 c] w fun r w' => r = .returned (.int .u32 (majW a b c)) ∧ w = w' := by
  unfold majW
  go_enter Tryz.func148, Tryz.ntmps148
  go_wp2
  go_ret
  exact ⟨rfl, rfl⟩
def Z8 : List Int := List.replicate 8 0
theorem zero_state : ∀ W, (zeroValue 159).run Tryz.prog W = .ok (.agg (intsA .u32 Z8)) W := (zero_of_info (n := 8) (by kernel_rfl)).1
theorem size_state : (Tryz.prog.info? 159).map (·.size) = some 8 := by kernel_rfl
theorem size_state8 (a b c d e f p q : Int) : (Tryz.prog.info? 159).map (·.size) = some [a, b, c, d, e, f, p, q].length := size_state
theorem Z8_len8 (a b c d e f p q : Int) : Z8.length = [a, b, c, d, e, f, p, q].length := rfl
def St2 (w : World) (g r : Nat) (s z : List Int) (w' : World) : Prop := BlkI w' g 159 .u32 s ∧ BlkI w' r 159 .u32 z ∧ Below w.heap.size w w' ∧ w.heap.size ≤ r ∧ g ≠ r
theorem St2.drew {w w' : World} {g r : Nat} {s z : List Int} (h : St2 w g r s z w') : St2 w g r s z w'.drew := ⟨h.1, h.2.1, h.2.2.1.drew, h.2.2.2⟩
theorem St2.below {w w' w'' : World} {g r : Nat} {s z : List Int} (h : St2 w g r s z w') (hb : Below w'.heap.size w' w'') : St2 w g r s z w'' := ⟨h.1.below hb h.1.lt, h.2.1.below hb h.2.1.lt, h.2.2.1.trans (hb.mono h.2.2.1.size), h.2.2.2⟩
theorem St2.fst {w w' : World} {g r : Nat} {s z : List Int} (h : St2 w g r s z w') : BlkI w' g 159 .u32 s := h.1
theorem St2.snd {w w' : World} {g r : Nat} {s z : List Int} (h : St2 w g r s z w') : BlkI w' r 159 .u32 z := h.2.1
theorem St2.bel {w w' : World} {g r : Nat} {s z : List Int} (h : St2 w g r s z w') : Below w.heap.size w w' := h.2.2.1
theorem St2.out {w w' : World} {g r : Nat} {s z : List Int} (h : St2 w g r s z w') : w.heap.size ≤ r := h.2.2.2.1
theorem St2.ne {w w' : World} {g r : Nat} {s z : List Int} (h : St2 w g r s z w') : g ≠ r := h.2.2.2.2
theorem St2.cells {w w' : World} {g r : Nat} {a b c d e f p q : Int} {z : List Int} (h : St2 w g r [a, b, c, d, e, f, p, q] z w') :
    w'.cell? ⟨g, 0, none⟩ = some (.int .u32 a) ∧ w'.cell? ⟨g, 1, none⟩ = some (.int .u32 b) ∧ w'.cell? ⟨g, 2, none⟩ = some (.int .u32 c) ∧ w'.cell? ⟨g, 3, none⟩ = some (.int .u32 d) ∧ w'.cell? ⟨g, 4, none⟩ = some (.int .u32 e) ∧ w'.cell? ⟨g, 5, none⟩ = some (.int .u32 f) ∧ w'.cell? ⟨g, 6, none⟩ = some (.int .u32 p) ∧ w'.cell? ⟨g, 7, none⟩ = some (.int .u32 q) ∧ St2 w g r [a, b, c, d, e, f, p, q] z w' :=
  ⟨h.1.cell (j := 0) (by simp), h.1.cell (j := 1) (by simp), h.1.cell (j := 2) (by simp), h.1.cell (j := 3) (by simp), h.1.cell (j := 4) (by simp), h.1.cell (j := 5) (by simp), h.1.cell (j := 6) (by simp), h.1.cell (j := 7) (by simp), h⟩
set_option maxHeartbeats 1000000 in
theorem rround_c (s : List Int) (W K : Int) (hl : s.length = 8) (hs : WIn s) (W0 : 0 ≤ W) (W1 : W < 4294967296) (K0 : 0 ≤ K) (K1 : K < 4294967296) (w : World) :
    Calls Tryz.prog 138 #[.agg (intsA .u32 s), .int .u32 W, .int .u32 K] w fun e w' => e = .returned (.agg (intsA .u32 (roundL s W K))) ∧ Below w.heap.size w w' := by
  have hr0 := hs.at_ 0
  have hr1 := hs.at_ 1
  have hr2 := hs.at_ 2
  have hr3 := hs.at_ 3
  have hr4 := hs.at_ 4
  have hr5 := hs.at_ 5
  have hr6 := hs.at_ 6
  have hr7 := hs.at_ 7
  obtain ⟨a, b, c, d, e, f, p, q, rfl⟩ : ∃ a b c d e f p q, s = [a, b, c, d, e, f, p, q] := ⟨_, _, _, _, _, _, _, _, list8 s hl⟩
  simp only [List.getD_cons_zero, List.getD_cons_succ] at hr0 hr1 hr2 hr3 hr4 hr5 hr6 hr7
  obtain ⟨y1, hy1⟩ : ∃ y, turn3 e 6 11 25 = y := ⟨_, rfl⟩
  obtain ⟨y2, hy2⟩ : ∃ y, chW e f p = y := ⟨_, rfl⟩
  obtain ⟨y3, hy3⟩ : ∃ y, turn3 a 2 13 22 = y := ⟨_, rfl⟩
  obtain ⟨y4, hy4⟩ : ∃ y, majW a b c = y := ⟨_, rfl⟩
  obtain ⟨t1, ht1⟩ : ∃ t, (q + y1) % 4294967296 = t := ⟨_, rfl⟩
  obtain ⟨t2, ht2⟩ : ∃ t, (t1 + y2) % 4294967296 = t := ⟨_, rfl⟩
  obtain ⟨t3, ht3⟩ : ∃ t, (t2 + K) % 4294967296 = t := ⟨_, rfl⟩
  obtain ⟨t4, ht4⟩ : ∃ t, (t3 + W) % 4294967296 = t := ⟨_, rfl⟩
  obtain ⟨u1, hu1⟩ : ∃ t, (y3 + y4) % 4294967296 = t := ⟨_, rfl⟩
  have hres : roundL [a, b, c, d, e, f, p, q] W K = [(t4 + u1) % 4294967296, a, b, c, (d + t4) % 4294967296, e, f, p] := by
    have e1 : (q + turn3 e 6 11 25 + chW e f p + K + W) % 4294967296 = t4 := by rw [hy1, hy2]; omega
    have e2 : (turn3 a 2 13 22 + majW a b c) % 4294967296 = u1 := by rw [hy3, hy4]; exact hu1
    simp only [roundL, List.getD_cons_zero, List.getD_cons_succ]
    rw [e1, e2]
  rw [hres]
  obtain ⟨v0, hv0⟩ : ∃ t, (t4 + u1) % 4294967296 = t := ⟨_, rfl⟩
  obtain ⟨v4, hv4⟩ : ∃ t, (d + t4) % 4294967296 = t := ⟨_, rfl⟩
  rw [hv0, hv4]
  have f1 : IntKind.u32.wrap (q + y1) = t1 := by rw [IntKind.wrap_u32]; exact ht1
  have f2 : IntKind.u32.wrap (t1 + y2) = t2 := by rw [IntKind.wrap_u32]; exact ht2
  have f3 : IntKind.u32.wrap (t2 + K) = t3 := by rw [IntKind.wrap_u32]; exact ht3
  have f4 : IntKind.u32.wrap (t3 + W) = t4 := by rw [IntKind.wrap_u32]; exact ht4
  have f5 : IntKind.u32.wrap (y3 + y4) = u1 := by rw [IntKind.wrap_u32]; exact hu1
  have H1 := Lib.hid hy1
  have H2 := Lib.hid hy2
  have H3 := Lib.hid hy3
  have H4 := Lib.hid hy4
  clear hy1 hy2 hy3 hy4 ht1 ht2 ht3 ht4 hu1 hres hs hl
  go_enter Tryz.func138, Tryz.ntmps138
  go_wp2_with (first
    | (with_reducible refine at_any ?_; refine at_dst 3 rfl ?_; refine wpList_box_ints rfl 159 (.tmp 0) rfl .u32 _ rfl ?_; intro w1 hk1 hs1 hb1)
    | (with_reducible refine at_any ?_; refine at_dst 6 rfl ?_; refine wpList_alloc_ints rfl 159 rfl .u32 Z8 zero_state ?_; intro w2 hk2 hs2 hb2))
  have HS : St2 w w.heap.size w1.heap.size [a, b, c, d, e, f, p, q] Z8 w2 := by
    have q1 := hs1.out
    exact ⟨hk1.out.below hb2 (by omega), hk2.out, hb1.trans (hb2.mono (by omega)), by omega, by omega⟩
  obtain ⟨g, hg⟩ : ∃ g, w.heap.size = g := ⟨_, rfl⟩
  obtain ⟨r, hr⟩ : ∃ g, w1.heap.size = g := ⟨_, rfl⟩
  have HW := Lib.hid hg
  rw [hg, hr] at HS
  rw [hg, hr]
  clear hk1 hs1 hb1 hk2 hs2 hb2 hg hr
  obtain ⟨c0, c1, c2, c3, c4, c5, c6, c7, _⟩ := HS.cells
  have HSd := HS.drew
  have HSdd := HSd.drew
  go_region_held3 (fun w' => w'.cell? ⟨g, 0, none⟩ = some (.int .u32 a) ∧ w'.cell? ⟨g, 1, none⟩ = some (.int .u32 b) ∧ w'.cell? ⟨g, 2, none⟩ = some (.int .u32 c) ∧ w'.cell? ⟨g, 3, none⟩ = some (.int .u32 d) ∧ w'.cell? ⟨g, 4, none⟩ = some (.int .u32 e) ∧ w'.cell? ⟨g, 5, none⟩ = some (.int .u32 f) ∧ w'.cell? ⟨g, 6, none⟩ = some (.int .u32 p) ∧ w'.cell? ⟨g, 7, none⟩ = some (.int .u32 q) ∧ St2 w g r [a, b, c, d, e, f, p, q] Z8 w')
    (first | assumption | exact HSd.cells)
    (first
      | (go_at_call 146; (with_reducible refine (rturned_c e 6 11 25 hr4.1 hr4.2 (by omega) (by omega) (by omega) (by omega) (by omega) (by omega) _).mono ?_); rw [H1.out]; rintro r w5 ⟨rfl, rfl⟩)
      | (go_at_call 147; (with_reducible refine (rchoice_c e f p hr4.1 hr4.2 hr5.1 hr5.2 hr6.1 hr6.2 _).mono ?_); rw [H2.out]; rintro r w5 ⟨rfl, rfl⟩))
  go_wp2
  go_region_held3 (fun w' => w'.cell? ⟨g, 0, none⟩ = some (.int .u32 a) ∧ w'.cell? ⟨g, 1, none⟩ = some (.int .u32 b) ∧ w'.cell? ⟨g, 2, none⟩ = some (.int .u32 c) ∧ w'.cell? ⟨g, 3, none⟩ = some (.int .u32 d) ∧ w'.cell? ⟨g, 4, none⟩ = some (.int .u32 e) ∧ w'.cell? ⟨g, 5, none⟩ = some (.int .u32 f) ∧ w'.cell? ⟨g, 6, none⟩ = some (.int .u32 p) ∧ w'.cell? ⟨g, 7, none⟩ = some (.int .u32 q) ∧ St2 w g r [a, b, c, d, e, f, p, q] Z8 w')
    (first | assumption | exact HSdd.cells)
    (first
      | (go_at_call 146; (with_reducible refine (rturned_c a 2 13 22 hr0.1 hr0.2 (by omega) (by omega) (by omega) (by omega) (by omega) (by omega) _).mono ?_); rw [H3.out]; rintro r w5 ⟨rfl, rfl⟩)
      | (go_at_call 148; (with_reducible refine (rmajority_c a b c hr0.1 hr0.2 hr1.1 hr1.2 hr2.1 hr2.2 _).mono ?_); rw [H4.out]; rintro r w5 ⟨rfl, rfl⟩))
  have HS6 := Lib.hid HSdd.snd
  have f6 : IntKind.u32.wrap (t4 + u1) = v0 := by rw [IntKind.wrap_u32]; exact hv0
  have f7 : IntKind.u32.wrap (d + t4) = v4 := by rw [IntKind.wrap_u32]; exact hv4
  clear hv0 hv4
  go_wp2_with (first
    | (with_reducible refine at_any ?_; refine at_store 6 rfl ?_; refine wpList_store_ints rfl 159 (.tmp 6) (.tmp 57) rfl r rfl 159 .u32 Z8 [v0, a, b, c, v4, e, f, p] HS6.out (by kernel_rfl) (Z8_len8 _ _ _ _ _ _ _ _) (size_state8 _ _ _ _ _ _ _ _) ?_; intro w9 hk9 hs9 hb9 ho9)
    | (refine bodyPost_cell 6 159 rfl r rfl 159 .u32 [v0, a, b, c, v4, e, f, p] hk9.out _ Tryz.underlying159 rfl (size_state8 _ _ _ _ _ _ _ _) rfl ?_))
  exact HSdd.bel.trans (hb9 _ HSdd.out)
end
section
open Go.ChangeShapes Go.WideShapes Go.ChangeAt Go.RowKit
theorem rstart_c (w : World) : Calls Tryz.prog 123 #[] w fun e w' => e = .returned (.agg (intsA .u32 startL)) ∧ Below w.heap.size w w' := by
  have HL := Lib.hid (show Z8.length = startL.length from rfl)
  have HZ := Lib.hid (show (Tryz.prog.info? 159).map (·.size) = some startL.length from size_state)
  go_enter Tryz.func123, Tryz.ntmps123
  go_wp2_with (first
    | (with_reducible refine at_any ?_; refine at_dst 0 rfl ?_; refine wpList_alloc_ints rfl 159 rfl .u32 Z8 zero_state ?_; intro w2 hk2 hs2 hb2)
    | (with_reducible refine at_any ?_; refine at_store 0 rfl ?_; refine wpList_store_ints rfl 159 (.tmp 0) (.tmp 1) rfl w.heap.size rfl 159 .u32 Z8 startL hk2.out (by kernel_rfl) HL.out HZ.out ?_; intro w9 hk9 hs9 hb9 ho9)
    | (refine bodyPost_cell 0 159 rfl w.heap.size rfl 159 .u32 startL hk9.out _ Tryz.underlying159 rfl HZ.out rfl ?_))
  exact hb2.trans (hb9 _ (Nat.le_refl _))
theorem index_w64 (zs : List Int) (hl : zs.length = 64) (i : Int) (h0 : 0 ≤ i) (h1 : i ≤ 63) (w : World) : (Instr.index 179 (.agg (intsA .u32 zs)) (.int .i64 i)).run Tryz.prog w = .ok (.int .u32 (zs.getD i.toNat 0)) w := by
  obtain ⟨i0, hi, _, hs, _⟩ := info_parts info_u32c
  exact run_index_arr Tryz.underlying179 Tryz.underlying62 hi hs _ _ _ _ h0 (by omega) (intsA_at .u32 zs i.toNat (by omega)) w
theorem rconst_c (i : Int) (i0 : -9223372036854775808 ≤ i) (i1 : i ≤ 9223372036854775807) (w : World) :
    Calls Tryz.prog 139 #[.int .i64 i] w fun e w' => e = .returned (.int .u32 (constN i)) ∧ w = w' := by
  unfold constN
  by_cases h : 0 ≤ i ∧ i ≤ 63
  · rw [if_pos h]
    obtain ⟨h0, h1⟩ := h
    have hix := fun W => index_w64 constL constL_len i h0 h1 W
    obtain ⟨C, hC⟩ : ∃ C, constL.getD i.toNat 0 = C := ⟨_, rfl⟩
    obtain ⟨A, hA⟩ : ∃ A, intsA .u32 constL = A := ⟨_, rfl⟩
    rw [hC, hA] at hix
    rw [hC]
    have HA := Lib.hid hA
    clear hC hA
    go_enter Tryz.func139, Tryz.ntmps139
    go_wp2_with (with_reducible refine at_any ?_; refine at_dst 9 rfl ?_; refine wpList_val rfl (.agg A) (by rw [← HA.out]; kernel_rfl) ?_)
    go_ret
    exact ⟨rfl, rfl⟩
  · rw [if_neg h]
    by_cases h0 : i < 0
    · go_enter Tryz.func139, Tryz.ntmps139
      go_wp2
      go_ret
      exact ⟨rfl, rfl⟩
    · have h1 : 63 < i := by omega
      clear h
      go_enter Tryz.func139, Tryz.ntmps139
      go_wp2
      go_ret
      exact ⟨rfl, rfl⟩
def Tk (w : World) (g2 g4 g5 g6 : Nat) (s P z : List Int) (w' : World) : Prop := In3 w g2 g4 g6 159 159 159 .u32 .u32 .u32 s Z8 z w' ∧ BlkI w' g5 180 .u32 P ∧ g5 ≠ g6
section
variable {w w' w'' : World} {g2 g4 g5 g6 : Nat} {s P z : List Int}
theorem Tk.below (h : Tk w g2 g4 g5 g6 s P z w') (hb : Below w'.heap.size w' w'') : Tk w g2 g4 g5 g6 s P z w'' := ⟨h.1.below hb, h.2.1.below hb h.2.1.lt, h.2.2⟩
theorem Tk.drew (h : Tk w g2 g4 g5 g6 s P z w') : Tk w g2 g4 g5 g6 s P z w'.drew := ⟨h.1.drew, h.2.1, h.2.2⟩
theorem Tk.in3 (h : Tk w g2 g4 g5 g6 s P z w') : In3 w g2 g4 g6 159 159 159 .u32 .u32 .u32 s Z8 z w' := h.1
theorem Tk.plan (h : Tk w g2 g4 g5 g6 s P z w') : BlkI w' g5 180 .u32 P := h.2.1
theorem Tk.store (h : Tk w g2 g4 g5 g6 s P z w') {y : List Int} (hk : BlkI w'' g6 159 .u32 y) (hb : ∀ B, B ≤ g6 → Below B w' w'') (ho : ∀ j, j ≠ g6 → w''.heap[j]? = w'.heap[j]?) : Tk w g2 g4 g5 g6 s P y w'' := by
  obtain ⟨⟨h1, h2, h3, h4, h5, h6, h7⟩, h8, h9⟩ := h
  exact ⟨⟨h1.other ho h6, h2.other ho h7, hk, h4.trans (hb _ h5), h5, h6, h7⟩, h8.other ho h9, h9⟩
def TkW (w : World) (g2 g4 g5 g6 : Nat) (s P : List Int) (w' : World) : Prop := ∃ z, Tk w g2 g4 g5 g6 s P z w'
theorem TkW.plan (h : TkW w g2 g4 g5 g6 s P w') : BlkI w' g5 180 .u32 P := by obtain ⟨z, h⟩ := h; exact h.plan
end
theorem zero_planZ : ∀ W, (zeroValue 180).run Tryz.prog W = .ok (.agg (intsA .u32 Z64)) W := zero_plan
theorem constN_in (i : Int) : 0 ≤ constN i ∧ constN i < 4294967296 := by
  unfold constN
  split
  · have h : ∀ z ∈ constL, 0 ≤ z ∧ z < 4294967296 := by decide +kernel
    exact WIn.at_ h _
  · omega
theorem sized (s : List Int) (h : s.length = 8) : (Tryz.prog.info? 159).map (·.size) = some s.length := by rw [h]; exact size_state
set_option maxHeartbeats 2000000 in
theorem rtake_c (s b : List Int) (hl : s.length = 8) (hs : WIn s) (hbl : b.length = 64) (hb : ∀ z ∈ b, 0 ≤ z ∧ z < 256) (w : World) :
    Calls Tryz.prog 130 #[.agg (intsA .u32 s), .agg (intsA .u8 b)] w fun e w' => e = .returned (.agg (intsA .u32 (takeL s b))) ∧ Below w.heap.size w w' := by
  obtain ⟨X0, hx⟩ : ∃ x, rounds s b 64 = x := ⟨_, rfl⟩
  obtain ⟨R, hR⟩ : ∃ R, sums X0 s 8 = R := ⟨_, rfl⟩
  have hxl := rounds_len s b hl 64
  rw [hx] at hxl
  rw [show takeL s b = R by rw [takeL, hx, hR]]
  have HX := Lib.hid hx
  have HR := Lib.hid hR
  have HXL := Lib.hid hxl
  clear hx hR hxl
  have SZ := Lib.hid (sized s hl)
  have ZL := Lib.hid (show Z8.length = s.length by rw [hl]; rfl)
  have PZ := Lib.hid (show Z64.length = (planL b).length by rw [planL_len, Z64_len])
  have PS := Lib.hid (show (Tryz.prog.info? 180).map (·.size) = some (planL b).length by rw [planL_len]; exact size_plan)
  have BS := Lib.hid (show (Tryz.prog.info? 137).map (·.size) = some b.length by rw [hbl]; kernel_rfl)
  go_enter Tryz.func130, Tryz.ntmps130
  go_wp2_with (first
    | (with_reducible refine at_any ?_; refine at_dst 2 rfl ?_; refine wpList_box_ints rfl 159 (.tmp 0) rfl .u32 s rfl ?_; intro w1 hk1 hs1 hb1)
    | (with_reducible refine at_any ?_; refine at_dst 3 rfl ?_; refine wpList_box_ints rfl 137 (.tmp 1) rfl .u8 b rfl ?_; intro w2 hk2 hs2 hb2; have hk1b := Lib.hid (hk1.out.below hb2 hk1.out.lt))
    | (with_reducible refine at_any ?_; refine at_dst 4 rfl ?_; refine wpList_alloc_ints rfl 159 rfl .u32 Z8 zero_state ?_; intro w3 hk3 hs3 hb3; have hk1c := Lib.hid (hk1b.out.below hb3 hk1b.out.lt); have hk2c := Lib.hid (hk2.out.below hb3 hk2.out.lt); have bl3 := Lib.hid (hb1.trans ((hb2.mono hb1.size).trans (hb3.mono (by have := hb1.size; have := hb2.size; omega)))))
    | (with_reducible refine at_any ?_; refine at_dst 9 rfl ?_; refine wpList_load_ints rfl 137 (.tmp 3) rfl w1.heap.size rfl 137 .u8 b hk2c.out _ Tryz.underlying137 rfl BS.out ?_)
    | (go_at_call 137; (with_reducible refine (rof_c b hbl hb _).mono ?_); rintro e w4 ⟨rfl, hb4⟩; have hk1d := Lib.hid (hk1c.out.below hb4 hk1c.out.lt); have hk3d := Lib.hid (hk3.out.below hb4 hk3.out.lt); have bl4 := Lib.hid (bl3.out.trans (hb4.mono bl3.out.size)))
    | (with_reducible refine at_any ?_; refine at_dst 5 rfl ?_; refine wpList_alloc_ints rfl 180 rfl .u32 Z64 zero_planZ ?_; intro w5 hk5 hs5 hb5; have hk1e := Lib.hid (hk1d.out.below hb5 hk1d.out.lt); have hk3e := Lib.hid (hk3d.out.below hb5 hk3d.out.lt); have bl5 := Lib.hid (bl4.out.trans (hb5.mono bl4.out.size)))
    | (with_reducible refine at_any ?_; refine at_store 5 rfl ?_; refine wpList_store_ints rfl 180 (.tmp 5) (.tmp 10) rfl w4.heap.size rfl 180 .u32 Z64 (planL b) hk5.out rfl PZ.out PS.out ?_; intro w6 hk6 hs6 hb6 ho6; have hk1f := Lib.hid (hk1e.out.below (hb6 _ (Nat.le_refl _)) hk1d.out.lt); have hk3f := Lib.hid (hk3e.out.below (hb6 _ (Nat.le_refl _)) hk3d.out.lt); have bl6 := Lib.hid (bl5.out.trans (hb6 _ bl4.out.size)))
    | (with_reducible refine at_any ?_; refine at_dst 11 rfl ?_; refine wpList_load_ints rfl 159 (.tmp 2) rfl w.heap.size rfl 159 .u32 s hk1f.out _ Tryz.underlying159 rfl SZ.out ?_)
    | (with_reducible refine at_any ?_; refine at_dst 6 rfl ?_; refine wpList_alloc_ints rfl 159 rfl .u32 Z8 zero_state ?_; intro w7 hk7 hs7 hb7; have hk1g := Lib.hid (hk1f.out.below hb7 hk1f.out.lt); have hk3g := Lib.hid (hk3f.out.below hb7 hk3f.out.lt); have hk6g := Lib.hid (hk6.out.below hb7 hk6.out.lt); have bl7 := Lib.hid (bl6.out.trans (hb7.mono bl6.out.size)))
    | (with_reducible refine at_any ?_; refine at_store 6 rfl ?_; refine wpList_store_ints rfl 159 (.tmp 6) (.tmp 11) rfl w6.heap.size rfl 159 .u32 Z8 s hk7.out rfl ZL.out SZ.out ?_; intro w8 hk8 hs8 hb8 ho8))
  have HT : Tk w w.heap.size w2.heap.size w4.heap.size w6.heap.size s (planL b) (rounds s b 0) w8 := by
    have q1 := hk1f.out.lt
    have q3 := hk3f.out.lt
    have q6 := hk6.out.lt
    exact ⟨⟨hk1g.out.other ho8 (by omega), hk3g.out.other ho8 (by omega), hk8.out, bl7.out.trans (hb8 _ bl6.out.size), bl6.out.size, by omega, by omega⟩, hk6g.out.other ho8 (by omega), by omega⟩
  obtain ⟨g2, hg2⟩ : ∃ g, w.heap.size = g := ⟨_, rfl⟩
  obtain ⟨g4, hg4⟩ : ∃ g, w2.heap.size = g := ⟨_, rfl⟩
  obtain ⟨g5, hg5⟩ : ∃ g, w4.heap.size = g := ⟨_, rfl⟩
  obtain ⟨g6, hg6⟩ : ∃ g, w6.heap.size = g := ⟨_, rfl⟩
  have HG4 := Lib.hid (show w.heap.size ≤ g4 by have := hb1.size; have := hb2.size; omega)
  have HW := Lib.hid hg2
  rw [hg2, hg4, hg5, hg6] at HT
  rw [hg2, hg4, hg5, hg6]
  clear hk1 hs1 hb1 hk2 hs2 hb2 hk1b hk3 hs3 hb3 hk1c hk2c bl3 hb4 hk1d hk3d bl4 hk5 hs5 hb5 hk1e hk3e bl5 hk6 hs6 hb6 ho6 hk1f hk3f bl6 hk7 hs7 hb7 hk1g hk3g hk6g bl7 hk8 hs8 hb8 ho8 hg2 hg4 hg5 hg6 PZ PS BS ZL
  go_loopw [7] (fun v wr => ∃ i : Nat, i ≤ 64 ∧ v = .int .i64 i ∧ Tk w g2 g4 g5 g6 s (planL b) (rounds s b i) wr) (fun v _ => 64 - (intOf v).toNat)
  case atStart => exact ⟨0, by omega, rfl, HT⟩
  case round =>
    clear HT
    obtain ⟨i, hi, rfl, HT⟩ := hrel
    by_cases hlt : i < 64
    · have hxl := rounds_len s b hl i
      have hxi := rounds_in s b hs i
      have c5 : ∀ W, TkW w g2 g4 g5 g6 s (planL b) W → W.cell? ⟨g5, i, none⟩ = some (.int .u32 (pw b i)) := fun W h => h.plan.cell (j := i) (by rw [planL_len]; exact hlt)
      have ry := pw_in b hb i hlt
      obtain ⟨x, hx⟩ : ∃ x, rounds s b i = x := ⟨_, rfl⟩
      have hnx : rounds s b (i + 1) = roundL x (pw b i) (constN i) := by rw [rounds, hx]
      rw [hx] at hxl hxi HT
      obtain ⟨y, hy⟩ : ∃ y, pw b i = y := ⟨_, rfl⟩
      obtain ⟨k, hk⟩ : ∃ k, constN (i : Int) = k := ⟨_, rfl⟩
      have rk := constN_in (i : Int)
      rw [hy, hk] at hnx
      rw [hy] at c5 ry
      rw [hk] at rk
      have d1 := fun W => rconst_c (i : Int) (by omega) (by omega) W
      rw [hk] at d1
      have D1 := Lib.hid d1
      have D2 := Lib.hid (fun W => rround_c x y k hxl hxi ry.1 ry.2 rk.1 rk.2 W)
      have HXS := Lib.hid (sized x hxl)
      have HRS := Lib.hid (sized (roundL x y k) rfl)
      have HLL := Lib.hid (show x.length = (roundL x y k).length by rw [hxl]; rfl)
      have q0 : (0 : Int) ≤ (i : Int) ∧ (i : Int) < 64 := by omega
      have HNX := Lib.hid hnx
      have HTd := HT.drew
      clear hnx hx hy hk d1 hxl hxi rk ry
      go_wp2
      refine wp_region_held_drew (S := TkW w g2 g4 g5 g6 s (planL b)) (by kernel_rfl) (⟨_, HTd⟩) (fun hH => ?_)
      refine held_val 1 rfl (by kernel_rfl) (by kernel_rfl) (by kernel_rfl) (fun _ _ _ _ h => h) (by rfl) (.int .i64 (i : Int)) (fun W h => by go_simp) hH ?_
      try simp only [Act.put, List.setIfInBounds_toArray, List.set_cons_zero, List.set_cons_succ]
      refine held_val 2 rfl (by kernel_rfl) (by kernel_rfl) (by kernel_rfl) (fun _ _ _ _ h => h) (by rfl) (.pointer (some ⟨g5, i, none⟩)) (fun W h => by go_simp) hH ?_
      try simp only [Act.put, List.setIfInBounds_toArray, List.set_cons_zero, List.set_cons_succ]
      refine held_val 3 rfl (by kernel_rfl) (by kernel_rfl) (by kernel_rfl) (fun _ _ _ _ h => h) (by rfl) (.int .u32 y) (fun W h => by have c := c5 W h; go_simp) hH ?_
      try simp only [Act.put, List.setIfInBounds_toArray, List.set_cons_zero, List.set_cons_succ]
      refine held_val 4 rfl (by kernel_rfl) (by kernel_rfl) (by kernel_rfl) (fun _ _ _ _ h => h) (by rfl) (.int .i64 (i : Int)) (fun W h => by go_simp) hH ?_
      try simp only [Act.put, List.setIfInBounds_toArray, List.set_cons_zero, List.set_cons_succ]
      refine wpAnyH_ready (rs := [0, 5]) (by kernel_rfl) (by decide) ?_
      refine AllReadyH.cons rfl (fun K hK => ?_) (AllReadyH.cons rfl (fun K hK => ?_) AllReadyH.nil)
      · refine step_load_ints (by rfl) 159 (.tmp 6) rfl g6 (by kernel_rfl) 159 .u32 x HTd.in3.trd _ Tryz.underlying159 rfl HXS.out ?_
        refine hK.out _ _ hH (fun _ => ?_)
        clear hK K
        try simp only [Act.put, List.setIfInBounds_toArray, List.set_cons_zero, List.set_cons_succ]
        refine wpAnyH_ready (rs := [5]) (by kernel_rfl) (by decide) ?_
        refine AllReadyH.cons rfl (fun K hK => ?_) AllReadyH.nil
        go_simp
        refine (D1.out _).mono ?_
        rintro e _ ⟨rfl, rfl⟩
        refine hK.out _ _ hH (fun _ => ?_)
        clear hK K
        try simp only [Act.put, List.setIfInBounds_toArray, List.set_cons_zero, List.set_cons_succ]
        refine wpAnyH_ready (rs := [6]) (by kernel_rfl) (by decide) ?_
        refine AllReadyH.cons rfl (fun K hK => ?_) AllReadyH.nil
        go_simp
        refine (D2.out _).mono ?_
        rintro e w9 ⟨rfl, hbw9⟩
        have h9 := HTd.below hbw9
        refine hK.out _ _ ⟨_, h9⟩ (fun _ => ?_)
        clear hK K
        try simp only [Act.put, List.setIfInBounds_toArray, List.set_cons_zero, List.set_cons_succ]
        refine held_store 7 rfl (by kernel_rfl) (by rfl) 159 (.tmp 6) (.tmp 22) rfl g6 (by kernel_rfl) 159 .u32 x (roundL x y k) (h9.in3.trd) (by kernel_rfl) (HLL.out) (HRS.out) ?_
        intro w10 hkw10 hbw10 how10
        refine ⟨⟨_, h9.store hkw10.out hbw10 how10⟩, ?_⟩
        try simp only [Act.put, List.setIfInBounds_toArray, List.set_cons_zero, List.set_cons_succ]
        refine wpAnyH_done (by kernel_rfl) ?_ _
        have HN := Lib.hid (h9.store hkw10.out hbw10 how10)
        rw [← HNX.out] at HN
        go_wp2
        go_roundw
        case rel => exact ⟨i + 1, by omega, by go_num, HN.out⟩
        case measure => simp [intOf]; omega
      · go_simp
        refine (D1.out _).mono ?_
        rintro e _ ⟨rfl, rfl⟩
        refine hK.out _ _ hH (fun _ => ?_)
        clear hK K
        try simp only [Act.put, List.setIfInBounds_toArray, List.set_cons_zero, List.set_cons_succ]
        refine wpAnyH_ready (rs := [0]) (by kernel_rfl) (by decide) ?_
        refine AllReadyH.cons rfl (fun K hK => ?_) AllReadyH.nil
        refine step_load_ints (by rfl) 159 (.tmp 6) rfl g6 (by kernel_rfl) 159 .u32 x HTd.in3.trd _ Tryz.underlying159 rfl HXS.out ?_
        refine hK.out _ _ hH (fun _ => ?_)
        clear hK K
        try simp only [Act.put, List.setIfInBounds_toArray, List.set_cons_zero, List.set_cons_succ]
        refine wpAnyH_ready (rs := [6]) (by kernel_rfl) (by decide) ?_
        refine AllReadyH.cons rfl (fun K hK => ?_) AllReadyH.nil
        go_simp
        refine (D2.out _).mono ?_
        rintro e w9 ⟨rfl, hbw9⟩
        have h9 := HTd.below hbw9
        refine hK.out _ _ ⟨_, h9⟩ (fun _ => ?_)
        clear hK K
        try simp only [Act.put, List.setIfInBounds_toArray, List.set_cons_zero, List.set_cons_succ]
        refine held_store 7 rfl (by kernel_rfl) (by rfl) 159 (.tmp 6) (.tmp 22) rfl g6 (by kernel_rfl) 159 .u32 x (roundL x y k) (h9.in3.trd) (by kernel_rfl) (HLL.out) (HRS.out) ?_
        intro w10 hkw10 hbw10 how10
        refine ⟨⟨_, h9.store hkw10.out hbw10 how10⟩, ?_⟩
        try simp only [Act.put, List.setIfInBounds_toArray, List.set_cons_zero, List.set_cons_succ]
        refine wpAnyH_done (by kernel_rfl) ?_ _
        have HN := Lib.hid (h9.store hkw10.out hbw10 how10)
        rw [← HNX.out] at HN
        go_wp2
        go_roundw
        case rel => exact ⟨i + 1, by omega, by go_num, HN.out⟩
        case measure => simp [intOf]; omega
    · rw [show ((i : Nat) : Int) = 64 by omega]
      obtain rfl : i = 64 := by omega
      have hxl := HXL.out
      rw [HX.out] at HT
      have HI := HT.in3
      clear HT hi hlt
      go_wp2
      go_loopw [8] (fun v wr => ∃ i : Nat, i ≤ 8 ∧ v = .int .i64 i ∧ In3 w g2 g4 g6 159 159 159 .u32 .u32 .u32 s Z8 (sums X0 s i) wr) (fun v _ => 8 - (intOf v).toNat)
      case atStart => exact ⟨0, by omega, rfl, HI⟩
      case round =>
        clear HI
        obtain ⟨i, hi, rfl, HI⟩ := hrel
        by_cases hlt : i < 8
        · have hsl := sums_len X0 s i
          have c6 := HI.trd.cell (j := i) (by omega)
          rw [sums_at X0 s i i (Nat.le_refl _)] at c6
          have f6 := HI.trd.frozen i
          have c2 := HI.fst.cell (j := i) (by omega)
          have HN := Lib.hid (HI.set_ i ((X0.getD i 0 + s.getD i 0) % 4294967296)).drew
          rw [← sums] at HN
          obtain ⟨y, hy⟩ : ∃ y, X0.getD i 0 = y := ⟨_, rfl⟩
          obtain ⟨z, hz⟩ : ∃ z, s.getD i 0 = z := ⟨_, rfl⟩
          obtain ⟨v, hv⟩ : ∃ v, (y + z) % 4294967296 = v := ⟨_, rfl⟩
          rw [hy] at c6
          rw [hz] at c2
          rw [hy, hz, hv] at HN
          have e1 : IntKind.u32.wrap (y + z) = v := by rw [IntKind.wrap_u32]; exact hv
          have q0 : (0 : Int) ≤ (i : Int) ∧ (i : Int) < 8 := by omega
          clear HI hy hz hv hsl
          go_wp2
          go_region
          all_goals
            go_wp2
            go_roundw
            case rel => exact ⟨i + 1, by omega, by go_num, HN.out⟩
            case measure => simp [intOf]; omega
        · rw [show ((i : Nat) : Int) = 8 by omega]
          obtain rfl : i = 8 := by omega
          have hsl := sums_len X0 s 8
          rw [hxl] at hsl
          have RZ := Lib.hid (sized (sums X0 s 8) hsl)
          have RL := Lib.hid (show Z8.length = (sums X0 s 8).length by rw [hsl]; rfl)
          have H6 := Lib.hid HI.trd
          have H4 := Lib.hid HI.snd
          have HB := Lib.hid HI.bel
          rw [HR.out] at RZ RL H6
          clear HI hi hlt hsl
          go_wp2_with (first
            | (with_reducible refine at_any ?_; refine at_dst 36 rfl ?_; refine wpList_load_ints rfl 159 (.tmp 6) rfl g6 rfl 159 .u32 R H6.out _ Tryz.underlying159 rfl RZ.out ?_)
            | (with_reducible refine at_any ?_; refine at_store 4 rfl ?_; refine wpList_store_ints rfl 159 (.tmp 4) (.tmp 36) rfl g4 rfl 159 .u32 Z8 R H4.out rfl RL.out RZ.out ?_; intro w9 hk9 hs9 hb9 ho9)
            | (refine bodyPost_cell 4 159 rfl g4 rfl 159 .u32 R hk9.out _ Tryz.underlying159 rfl RZ.out rfl ?_))
          first | exact HB.out.trans (hb9 _ HG4.out) | (rw [← HW.out]; exact HB.out.trans (hb9 _ HG4.out))
end
section
open Go.ChangeShapes Go.WideShapes Go.ChangeAt Go.RowKit
theorem zero_hash : ∀ W, (zeroValue 26).run Tryz.prog W = .ok (.agg (intsA .u8 (List.replicate 32 0))) W := (zero_of_info (n := 32) (by kernel_rfl)).1
theorem size_hash : (Tryz.prog.info? 26).map (·.size) = some 32 := by kernel_rfl
theorem size_blk : (Tryz.prog.info? 137).map (·.size) = some 64 := by kernel_rfl
set_option maxHeartbeats 1000000 in
theorem rhash_c (l : List Int) (hl : l.length = 8) (hb : ∀ z ∈ l, 0 ≤ z ∧ z < 4294967296) (w : World) :
    Calls Tryz.prog 121 #[.agg (intsA .u32 l)] w fun e w' => e = .returned (.agg (intsA .u8 (hashL l))) ∧ Below w.heap.size w w' := by
  go_enter Tryz.func121, Tryz.ntmps121
  go_wp2_with (first
    | (with_reducible refine at_any ?_; refine at_dst 1 rfl ?_; refine wpList_box_ints rfl 159 (.tmp 0) rfl .u32 l rfl ?_; intro w1 hk1 hs1 hb1)
    | (with_reducible refine at_any ?_; refine at_dst 2 rfl ?_; refine wpList_alloc_ints rfl 26 rfl .u8 (List.replicate 32 0) zero_hash ?_; intro w2 hk2 hs2 hb2)
    | (with_reducible refine at_any ?_; refine at_dst 3 rfl ?_; refine wpList_alloc_ints rfl 26 rfl .u8 (List.replicate 32 0) zero_hash ?_; intro w3 hk3 hs3 hb3))
  have HI : In3 w w.heap.size w1.heap.size w2.heap.size 159 26 26 .u32 .u8 .u8 l (List.replicate 32 0) (hashF l 0 0) w3 := by
    rw [hashF_zero]
    have q1 := hs1.out
    have q2 := hs2.out
    have q3 := hs3.out
    exact ⟨(hk1.out.below hb2 (by omega)).below hb3 (by omega), hk2.out.below hb3 (by omega), hk3.out, hb1.trans ((hb2.mono (by omega)).trans (hb3.mono (by omega))), by omega, by omega, by omega⟩
  obtain ⟨g1, hg1⟩ : ∃ g, w.heap.size = g := ⟨_, rfl⟩
  obtain ⟨g2, hg2⟩ : ∃ g, w1.heap.size = g := ⟨_, rfl⟩
  obtain ⟨g3, hg3⟩ : ∃ g, w2.heap.size = g := ⟨_, rfl⟩
  have HG2 := Lib.hid (show w.heap.size ≤ g2 by have := hb1.size; omega)
  rw [hg1, hg2, hg3] at HI
  rw [hg1, hg2, hg3]
  clear hk1 hs1 hb1 hk2 hs2 hb2 hk3 hs3 hb3
  go_loopw [4] (fun v wr => ∃ i : Nat, i ≤ 8 ∧ v = .int .i64 i ∧ In3 w g1 g2 g3 159 26 26 .u32 .u8 .u8 l (List.replicate 32 0) (hashF l i 0) wr) (fun v _ => 8 - (intOf v).toNat)
  case atStart => exact ⟨0, by omega, rfl, HI⟩
  case round =>
    clear HI
    obtain ⟨wo, rfl⟩ : ∃ wo, wo = wr := ⟨_, rfl⟩
    obtain ⟨i, hi, rfl, HI⟩ := hrel
    by_cases hlt : i < 8
    · have c0 := HI.1.cell (j := i) (by omega)
      have rx : 0 ≤ l.getD i 0 ∧ l.getD i 0 < 4294967296 := by
        have h : i < l.length := by omega
        simp [h]; exact hb _ (List.getElem_mem h)
      obtain ⟨ps, hps⟩ : ∃ ps, put4L (l.getD i 0) = ps := ⟨_, rfl⟩
      have hset : ∀ k, k < 4 → (hashF l i k).set (4 * i + k) (ps.getD k 0) = hashF l i (k + 1) := by
        intro k hk
        have := hashF_set l i k hk hlt
        rwa [hps] at this
      obtain ⟨x, hx⟩ : ∃ x, l.getD i 0 = x := ⟨_, rfl⟩
      rw [hx] at c0 rx hps
      obtain ⟨p0, p1, p2, p3, rfl⟩ : ∃ p0 p1 p2 p3, ps = [p0, p1, p2, p3] := ⟨_, _, _, _, hps.symm⟩
      have hput := fun W => rput32_c x rx.1 rx.2 W
      have hp4 : put4 x = ((put4L x).map (Value.int .u8)).toArray := rfl
      rw [hp4, hps] at hput
      have HP := Lib.hid hput
      have HSET := Lib.hid hset
      have HI' := Lib.hid HI
      clear hput hp4 hps hset hx HI
      go_wp2_with (go_at_call 129; (with_reducible refine (HP.out _).mono ?_); rintro e w4 ⟨rfl, hb4, _⟩)
      have HB5 := Lib.hid (BlkI.new w4 172 .u8 [p0, p1, p2, p3])
      have HI5 := Lib.hid ((HI'.out.below hb4).below ((Below.refl _ _).alloc (Nat.le_refl _) (Obj.cells (intsA .u8 [p0, p1, p2, p3]) 172)))
      have hne : w4.heap.size ≠ g3 := by have := (HI'.out.below hb4).2.2.1.lt; omega
      obtain ⟨W5, hW5⟩ : ∃ W5, w4.alloc (Obj.cells #[.int .u8 p0, .int .u8 p1, .int .u8 p2, .int .u8 p3] 172) = W5 := ⟨_, rfl⟩
      have hW5' : w4.alloc (Obj.cells (intsA .u8 [p0, p1, p2, p3]) 172) = W5 := hW5
      rw [hW5'] at HB5 HI5
      rw [hW5]
      obtain ⟨g5, hg5⟩ : ∃ g, w4.heap.size = g := ⟨_, rfl⟩
      rw [hg5] at HB5 hne ⊢
      clear hW5 hW5' hg5 hb4 HI' c0 rx HP
      obtain ⟨ps, hps⟩ : ∃ ps, [p0, p1, p2, p3] = ps := ⟨_, rfl⟩
      have hpl : ps.length = 4 := by rw [← hps]; rfl
      rw [hps] at HB5 HSET
      clear hps
      go_loopw [6] (fun v wq => ∃ k : Nat, k ≤ 4 ∧ v = .int .i64 k ∧ In3 w g1 g2 g3 159 26 26 .u32 .u8 .u8 l (List.replicate 32 0) (hashF l i k) wq ∧ BlkI wq g5 172 .u8 ps) (fun v _ => 4 - (intOf v).toNat)
      case atStart => exact ⟨0, by omega, rfl, HI5.out, HB5.out⟩
      case round =>
        clear HI5 HB5
        obtain ⟨k, hk, rfl, HI, HB⟩ := hrel
        by_cases hkl : k < 4
        · have c5 := HB.cell (j := k) (by omega)
          have hbl := hashF_len l i k (by omega) (by omega)
          have c3 := HI.2.2.1.cell (j := 4 * i + k) (by omega)
          have f3 := HI.2.2.1.frozen (4 * i + k)
          have HN := Lib.hid (HI.set_ (4 * i + k) (ps.getD k 0))
          rw [HSET.out k hkl] at HN
          have HBN := Lib.hid (HB.far (p := ⟨g3, 4 * i + k, none⟩) hne (.int .u8 (ps.getD k 0)))
          obtain ⟨y, hy⟩ : ∃ y, ps.getD k 0 = y := ⟨_, rfl⟩
          rw [hy] at c5 HN HBN
          clear hy HI HB hbl
          go_wp2
          go_roundw
          case rel => exact ⟨k + 1, by omega, by go_num, HN.out, HBN.out⟩
          case measure => simp [intOf]; omega
        · rw [show ((k : Nat) : Int) = 4 by omega]
          obtain rfl : k = 4 := by omega
          rw [hashF_next] at HI
          have HI' := Lib.hid HI
          clear HI hk hkl
          go_wp2
          go_roundw
          case rel => exact ⟨i + 1, by omega, by go_num, HI'.out⟩
          case measure => simp [intOf]; omega
    · rw [show ((i : Nat) : Int) = 8 by omega]
      obtain rfl : i = 8 := by omega
      rw [hashF_full] at HI
      obtain ⟨h1, h2, h3, h4, h5, h6, h7⟩ := HI
      have hpl : (hashL l).length = 32 := backTo_len l 8
      have HPL := Lib.hid hpl
      have H3 := Lib.hid h3
      have H2 := Lib.hid h2
      have hg2 : w.heap.size ≤ g2 := HG2.out
      clear hpl h1 h2 h3
      go_wp2_with (first
        | (with_reducible refine at_any ?_; refine at_dst 27 rfl ?_; refine wpList_load_ints rfl 26 (.tmp 3) rfl g3 rfl 26 .u8 (hashL l) H3.out _ Tryz.underlying26 rfl (by rw [HPL.out]; exact size_hash) ?_)
        | (with_reducible refine at_any ?_; refine at_store 2 rfl ?_; refine wpList_store_ints rfl 26 (.tmp 2) (.tmp 27) rfl g2 rfl 26 .u8 (List.replicate 32 0) (hashL l) H2.out rfl (by rw [HPL.out]; simp) (by rw [HPL.out]; exact size_hash) ?_; intro w9 hk9 hs9 hb9 ho9)
        | (refine bodyPost_cell 2 26 rfl g2 rfl 26 .u8 (hashL l) hk9.out _ Tryz.underlying26 rfl (by rw [HPL.out]; exact size_hash) rfl ?_))
      rw [← hg1]
      exact h4.trans (hb9 _ hg2)
def Tk5 (w : World) (g2 g4 : Nat) (z : List Int) (w' : World) : Prop := BlkI w' g2 159 .u32 z ∧ BlkI w' g4 159 .u32 Z8 ∧ Below w.heap.size w w' ∧ w.heap.size ≤ g2 ∧ g4 ≠ g2
section
variable {w w' w'' : World} {g2 g4 : Nat} {z : List Int}
theorem Tk5.below (h : Tk5 w g2 g4 z w') (hb : Below w'.heap.size w' w'') : Tk5 w g2 g4 z w'' := ⟨h.1.below hb h.1.lt, h.2.1.below hb h.2.1.lt, h.2.2.1.trans (hb.mono h.2.2.1.size), h.2.2.2⟩
theorem Tk5.drew (h : Tk5 w g2 g4 z w') : Tk5 w g2 g4 z w'.drew := ⟨h.1, h.2.1, h.2.2.1.drew, h.2.2.2⟩
theorem Tk5.store (h : Tk5 w g2 g4 z w') {y : List Int} (hk : BlkI w'' g2 159 .u32 y) (hb : ∀ B, B ≤ g2 → Below B w' w'') (ho : ∀ j, j ≠ g2 → w''.heap[j]? = w'.heap[j]?) : Tk5 w g2 g4 y w'' :=
  ⟨hk, h.2.1.other ho h.2.2.2.2, h.2.2.1.trans (hb _ h.2.2.2.1), h.2.2.2⟩
def Tk5W (w : World) (g2 g4 : Nat) (w' : World) : Prop := ∃ z, Tk5 w g2 g4 z w'
theorem Tk5W.bel (h : Tk5W w g2 g4 w') : Below w.heap.size w w' := by obtain ⟨z, h⟩ := h; exact h.2.2.1
end
set_option maxHeartbeats 2000000 in
theorem rtakes_c (s : List Int) (A : Option Addr) (n c : Nat) (bs : List (List Int)) (hl : s.length = 8) (hs : WIn s) (w : World) (hr : RdA .u8 64 w w.heap.size A n bs) (hb : ∀ b ∈ bs, ∀ z ∈ b, 0 ≤ z ∧ z < 256) (hn : n ≤ 1000000) :
    Calls Tryz.prog 122 #[.agg (intsA .u32 s), .slice A n c] w fun e w' => e = .returned (.agg (intsA .u32 (takesL s bs))) ∧ Below w.heap.size w w' := by
  have SR := Lib.hid (sized (takesL s bs) (takesL_len s bs hl))
  have ZR := Lib.hid (show Z8.length = (takesL s bs).length by rw [takesL_len s bs hl]; rfl)
  have HR := Lib.hid hr
  have hnl := hr.1
  clear hr
  go_enter Tryz.func122, Tryz.ntmps122
  go_wp2_with (first
    | (with_reducible refine at_any ?_; refine at_dst 2 rfl ?_; refine wpList_box_ints rfl 159 (.tmp 0) rfl .u32 s rfl ?_; intro w1 hk1 hs1 hb1)
    | (with_reducible refine at_any ?_; refine at_dst 4 rfl ?_; refine wpList_alloc_ints rfl 159 rfl .u32 Z8 zero_state ?_; intro w2 hk2 hs2 hb2))
  have HT : Tk5 w w.heap.size w1.heap.size (takesL s (bs.take 0)) w2 := by
    have q1 := hs1.out
    exact ⟨hk1.out.below hb2 hk1.out.lt, hk2.out, hb1.trans (hb2.mono hb1.size), Nat.le_refl _, by omega⟩
  obtain ⟨g2, hg2⟩ : ∃ g, w.heap.size = g := ⟨_, rfl⟩
  obtain ⟨g4, hg4⟩ : ∃ g, w1.heap.size = g := ⟨_, rfl⟩
  have HG4 := Lib.hid (show w.heap.size ≤ g4 by have := hb1.size; omega)
  have HW := Lib.hid hg2
  rw [hg2, hg4] at HT
  rw [hg2, hg4]
  have HNL := Lib.hid hnl
  clear hk1 hs1 hb1 hk2 hs2 hb2 hg2 hg4 hnl
  go_loopw [5] (fun v wr => ∃ i : Nat, i ≤ n ∧ v = .int .i64 i ∧ Tk5 w g2 g4 (takesL s (bs.take i)) wr) (fun v _ => n - (intOf v).toNat)
  case atStart => exact ⟨0, by omega, rfl, HT⟩
  case round =>
    clear HT
    obtain ⟨i, hi, rfl, HT⟩ := hrel
    by_cases hlt : i < n
    · obtain ⟨b0, off, rfl, hb0, _⟩ := HR.out.at_ hlt
      have HRG := Lib.hid (show ∀ W, Tk5W w g2 g4 W → W.rangeAt b0 (off + i * 64) ((bs.getD i []).map (Value.int .u8)) from fun W h => by
        obtain ⟨b1, off1, e1, _, h1⟩ := (HR.out.below h.bel).at_ hlt
        injection e1 with e1
        injection e1 with e1 e2
        subst e1 e2
        exact h1)
      have hil : i < bs.length := by have := HNL.out; omega
      have hnx := takesL_next s bs i hil
      have hxl := takesL_len s (bs.take i) hl
      have hxi := takesL_in s (bs.take i) hs
      have hmem : bs.getD i [] ∈ bs := by simp [List.getD, List.getElem?_eq_getElem hil]
      have hbl : (bs.getD i []).length = 64 := HR.out.2.1 _ hmem
      have hbi := hb _ hmem
      obtain ⟨x, hx⟩ : ∃ x, takesL s (bs.take i) = x := ⟨_, rfl⟩
      obtain ⟨b, hbb⟩ : ∃ b, bs.getD i [] = b := ⟨_, rfl⟩
      rw [hx] at hnx hxl hxi HT
      rw [hbb] at hnx hbl hbi HRG
      have D1 := Lib.hid (fun W => rtake_c x b hxl hxi hbl hbi W)
      have HXS := Lib.hid (sized x hxl)
      have HYS := Lib.hid (sized (takeL x b) (takeL_len x b hxl))
      have HLL := Lib.hid (show x.length = (takeL x b).length by rw [takeL_len x b hxl, hxl])
      have HBS := Lib.hid (show (Tryz.prog.info? 137).map (·.size) = some (b.map (Value.int .u8)).length by rw [List.length_map, hbl]; exact size_blk)
      have HNX := Lib.hid hnx
      have HTd := HT.drew
      have q0 : (0 : Int) ≤ (i : Int) ∧ (i : Int) < (n : Int) := by omega
      clear hnx hx hbb hxl hxi hbl hbi hmem hil
      go_wp2
      refine wp_region_held_drew (S := Tk5W w g2 g4) (by kernel_rfl) (⟨_, HTd⟩) (fun hH => ?_)
      refine held_val 1 rfl (by kernel_rfl) (by kernel_rfl) (by kernel_rfl) (fun _ _ _ _ h => h) (by rfl) (.slice (some ⟨b0, off, none⟩) n c) (fun W h => by go_simp) hH ?_
      try simp only [Act.put, List.setIfInBounds_toArray, List.set_cons_zero, List.set_cons_succ]
      refine held_val 2 rfl (by kernel_rfl) (by kernel_rfl) (by kernel_rfl) (fun _ _ _ _ h => h) (by rfl) (.int .i64 (i : Int)) (fun W h => by go_simp) hH ?_
      try simp only [Act.put, List.setIfInBounds_toArray, List.set_cons_zero, List.set_cons_succ]
      refine held_val 3 rfl (by kernel_rfl) (by kernel_rfl) (by kernel_rfl) (fun _ _ _ _ h => h) (by rfl) (.pointer (some ⟨b0, off + i * 64, none⟩)) (fun W h => by go_simp) hH ?_
      try simp only [Act.put, List.setIfInBounds_toArray, List.set_cons_zero, List.set_cons_succ]
      refine held_load_mid 4 rfl (by kernel_rfl) (by kernel_rfl) (by kernel_rfl) (fun _ _ _ _ h => h) (by rfl) 137 (.tmp 15) rfl b0 (off + i * 64) (by kernel_rfl) (b.map (Value.int .u8)) HRG.out _ Tryz.underlying137 rfl HBS.out hH ?_
      try simp only [Act.put, List.setIfInBounds_toArray, List.set_cons_zero, List.set_cons_succ]
      refine wpAnyH_ready (rs := [0]) (by kernel_rfl) (by decide) ?_
      refine AllReadyH.cons rfl (fun K hK => ?_) AllReadyH.nil
      refine step_load_ints (by rfl) 159 (.tmp 2) rfl g2 (by kernel_rfl) 159 .u32 x HTd.1 _ Tryz.underlying159 rfl HXS.out ?_
      refine hK.out _ _ hH (fun _ => ?_)
      clear hK K
      try simp only [Act.put, List.setIfInBounds_toArray, List.set_cons_zero, List.set_cons_succ]
      refine wpAnyH_ready (rs := [5]) (by kernel_rfl) (by decide) ?_
      refine AllReadyH.cons rfl (fun K hK => ?_) AllReadyH.nil
      go_simp
      refine (D1.out _).mono ?_
      rintro e w9 ⟨rfl, hbw9⟩
      have h9 := HTd.below hbw9
      refine hK.out _ _ ⟨_, h9⟩ (fun _ => ?_)
      clear hK K
      try simp only [Act.put, List.setIfInBounds_toArray, List.set_cons_zero, List.set_cons_succ]
      refine held_store 6 rfl (by kernel_rfl) (by rfl) 159 (.tmp 2) (.tmp 17) rfl g2 (by kernel_rfl) 159 .u32 x (takeL x b) (h9.1) (by kernel_rfl) (HLL.out) (HYS.out) ?_
      intro w10 hkw10 hbw10 how10
      refine ⟨⟨_, h9.store hkw10.out hbw10 how10⟩, ?_⟩
      try simp only [Act.put, List.setIfInBounds_toArray, List.set_cons_zero, List.set_cons_succ]
      refine wpAnyH_done (by kernel_rfl) ?_ _
      have HN := Lib.hid (h9.store hkw10.out hbw10 how10)
      rw [← HNX.out] at HN
      go_wp2
      go_roundw
      case rel => exact ⟨i + 1, by omega, by go_num, HN.out⟩
      case measure => simp [intOf]; omega
    · obtain rfl : i = n := by omega
      rw [List.take_of_length_le (by rw [HNL.out]; exact Nat.le_refl _)] at HT
      obtain ⟨h1, h2, h3, h4⟩ := HT
      have H1 := Lib.hid h1
      have H2 := Lib.hid h2
      clear h1 h2
      go_wp2_with (first
        | (with_reducible refine at_any ?_; refine at_dst 18 rfl ?_; refine wpList_load_ints rfl 159 (.tmp 2) rfl g2 rfl 159 .u32 (takesL s bs) H1.out _ Tryz.underlying159 rfl SR.out ?_)
        | (with_reducible refine at_any ?_; refine at_store 4 rfl ?_; refine wpList_store_ints rfl 159 (.tmp 4) (.tmp 18) rfl g4 rfl 159 .u32 Z8 (takesL s bs) H2.out rfl ZR.out SR.out ?_; intro w9 hk9 hs9 hb9 ho9)
        | (refine bodyPost_cell 4 159 rfl g4 rfl 159 .u32 (takesL s bs) hk9.out _ Tryz.underlying159 rfl SR.out rfl ?_))
      first | exact h3.trans (hb9 _ HG4.out) | (rw [← HW.out]; exact h3.trans (hb9 _ HG4.out))
def joinL (rs : List Row) : List Int := (rs.map (·.zs)).flatten
theorem joinL_next (rs : List Row) (i : Nat) (r : Row) (h : rs[i]? = some r) : joinL (rs.take (i + 1)) = joinL (rs.take i) ++ r.zs := by
  obtain ⟨hi, e⟩ := List.getElem?_eq_some_iff.1 h
  unfold joinL
  rw [List.take_succ_eq_append_getElem hi, List.map_append, List.flatten_append, e]
  simp
theorem joinL_len (rs : List Row) (m : Nat) (h : ∀ r ∈ rs, r.zs.length ≤ m) : (joinL rs).length ≤ rs.length * m := by
  induction rs with
  | nil => simp [joinL]
  | cons r rs ih =>
    have h1 := h r (by simp)
    have h2 := ih fun x hx => h x (by simp [hx])
    have e : (joinL (r :: rs)).length = r.zs.length + (joinL rs).length := by simp [joinL]
    rw [e, List.length_cons, Nat.add_mul]
    omega
end
section
open Go.ChangeShapes Go.WideShapes Go.ChangeAt Go.RowKit
theorem OwnI.cap {w : World} {base : Nat} {e : TypeId} {k : IntKind} {A : Option Addr} {n c : Nat} {zs : List Int} (h : OwnI w base e k (.slice A n c) zs) : n ≤ c ∧ zs.length = n := by
  obtain ⟨A', c', e', h1, h2⟩ := h.form
  injection e' with e1 e2 e3
  subst e2 e3
  exact ⟨h1, rfl⟩
def wrV (s : List Int) (A : Option Addr) (r c : Nat) (n : Int) : Array Value := (s.map (Value.int .u32) ++ [Value.slice A r c, Value.int .u64 n]).toArray
theorem wrV_size (s : List Int) (hl : s.length = 8) (A : Option Addr) (r c : Nat) (n : Int) : (wrV s A r c n).size = 10 := by simp [wrV, hl]
theorem wrV_ones (s : List Int) (A : Option Addr) (r c : Nat) (n : Int) : (wrV s A r c n).all (·.oneCell') = true := all_oneCell_toArray (by
  intro u hu
  rcases List.mem_append.1 hu with h | h
  · exact ints_one .u32 s u h
  · simp only [List.mem_cons, List.not_mem_nil, or_false] at h
    rcases h with h | h <;> subst h <;> rfl)
theorem wrV_rest (s : List Int) (hl : s.length = 8) (A : Option Addr) (r c : Nat) (n : Int) : (wrV s A r c n)[8]? = some (.slice A r c) := by
  unfold wrV
  rw [List.getElem?_toArray, List.getElem?_append_right (by simp; omega)]
  simp [hl]
theorem wrV_bytes (s : List Int) (hl : s.length = 8) (A : Option Addr) (r c : Nat) (n : Int) : (wrV s A r c n)[9]? = some (.int .u64 n) := by
  unfold wrV
  rw [List.getElem?_toArray, List.getElem?_append_right (by simp; omega)]
  simp [hl]
theorem size_wr : (Tryz.prog.info? 166).map (·.size) = some 10 := by kernel_rfl
theorem zero_wr : ∀ W, (zeroValue 166).run Tryz.prog W = .ok (.agg (wrV Z8 none 0 0 0)) W := (zero_of_info (n := 10) (by kernel_rfl)).1
theorem sizedW (s : List Int) (hl : s.length = 8) (A : Option Addr) (r c : Nat) (n : Int) : (Tryz.prog.info? 166).map (·.size) = some (wrV s A r c n).size := by rw [wrV_size s hl]; exact size_wr
set_option maxHeartbeats 1000000 in
theorem rsum_c (A : Option Addr) (c L : Nat) (b : List Int) (w : World) (hr : Rd .u8 w w.heap.size A L b) (hc : L ≤ c) (hL : L ≤ 100000) (hbb : ∀ z ∈ b, 0 ≤ z ∧ z < 256) :
    Calls Tryz.prog 116 #[.slice A L c] w fun e w' => e = .returned (.agg (intsA .u8 (shaL b))) ∧ Below w.heap.size w w' := by
  have hpl := padL_len5 b
  have hlen := hr.len
  have hpi := padL_in b hbb (by omega)
  have hpc := rpad_c A c L b
  obtain ⟨P, hP⟩ : ∃ P, padL b = P := ⟨_, rfl⟩
  obtain ⟨q, hq⟩ : ∃ q, P.length / 64 = q := ⟨_, rfl⟩
  obtain ⟨BS, hBS⟩ : ∃ BS, cutN P q = BS := ⟨_, rfl⟩
  have hR : shaL b = hashL (takesL startL BS) := by unfold shaL; rw [hP, hq, hBS]
  obtain ⟨X, hX⟩ : ∃ X, takesL startL BS = X := ⟨_, rfl⟩
  obtain ⟨R, hRR⟩ : ∃ R, hashL X = R := ⟨_, rfl⟩
  rw [hX, hRR] at hR
  rw [hP] at hpl hpi hpc
  have hbi := cutN_in P q hpi
  have hbl := cutN_length P q
  rw [hBS] at hbi hbl
  have hxl : X.length = 8 := by rw [← hX]; exact takesL_len _ _ rfl
  have hxi : WIn X := by rw [← hX]; exact takesL_in _ _ startL_in
  have hrl : R.length = 32 := by rw [← hRR]; exact hashL_len X
  have HT1 := Lib.hid (fun A n c W h1 h2 => rtakes_c startL A n c BS rfl startL_in W h1 hbi h2)
  have HH1 := Lib.hid (fun W => rhash_c X hxl hxi W)
  rw [hX] at HT1
  rw [hRR] at HH1
  have HC1 := Lib.hid (fun A c W h1 h2 => rcut_c A c P.length P W h1 h2 (by omega))
  rw [hq, hBS] at HC1
  have HPL := Lib.hid hpl
  have hq1 : q ≤ 10000 := by omega
  have HPC := Lib.hid hpc
  have HRR := Lib.hid hR
  have HBL := Lib.hid hbl
  have SR := Lib.hid (show (Tryz.prog.info? 26).map (·.size) = some R.length by rw [hrl]; exact size_hash)
  have ZR := Lib.hid (show (List.replicate 32 (0 : Int)).length = R.length by rw [hrl]; simp)
  have HR0 := Lib.hid hr
  clear hpl hpi hpc hP hq hBS hR hX hRR hbi hbl hxl hxi hrl hr hlen
  go_enter Tryz.func116, Tryz.ntmps116
  go_wp2_with (first
    | (with_reducible refine at_any ?_; refine at_dst 2 rfl ?_; refine wpList_alloc_ints rfl 26 rfl .u8 (List.replicate 32 0) zero_hash ?_; intro w1 hk1 hs1 hb1; have HR1 := Lib.hid (HR0.out.below hb1).fit)
    | (go_at_call 120; (with_reducible refine (HPC.out w1 HR1.out hc (by omega)).mono ?_); rintro e w2 ⟨A2, c2, rfl, how2, hb2⟩; have hk2 := Lib.hid (hk1.out.below hb2 hk1.out.lt); have bl2 := Lib.hid (hb1.trans (hb2.mono hb1.size)); have HO2 := Lib.hid how2; clear how2)
    | (go_at_call 119; (with_reducible refine (HC1.out A2 c2 w2 (HO2.out.rd rfl) HO2.out.cap.1).mono ?_); rintro e w3 ⟨A3, c3, A4, c4, rfl, how3, hrd3, hc4, hb3⟩; have hk3 := Lib.hid (hk2.out.below hb3 hk2.out.lt); have bl3 := Lib.hid (bl2.out.trans (hb3.mono bl2.out.size)); have HO3 := Lib.hid how3; clear how3 hrd3 hc4)
    | (go_at_call 123; (with_reducible refine (rstart_c _).mono ?_); rintro e w4 ⟨rfl, hb4⟩; have hk4 := Lib.hid (hk3.out.below hb4 hk3.out.lt); have bl4 := Lib.hid (bl3.out.trans (hb4.mono bl3.out.size)); have HA4 := Lib.hid (((HO3.out.rd rfl).below hb4).mono hb4.size))
    | (go_at_call 122; (with_reducible refine (HT1.out A3 BS.length c3 w4 HA4.out (by rw [HBL.out]; omega)).mono ?_); rintro e w5 ⟨rfl, hb5⟩; have hk5 := Lib.hid (hk4.out.below hb5 hk4.out.lt); have bl5 := Lib.hid (bl4.out.trans (hb5.mono bl4.out.size)))
    | (go_at_call 121; (with_reducible refine (HH1.out w5).mono ?_); rintro e w6 ⟨rfl, hb6⟩; have hk6 := Lib.hid (hk5.out.below hb6 hk5.out.lt); have bl6 := Lib.hid (bl5.out.trans (hb6.mono bl5.out.size)))
    | (with_reducible refine at_any ?_; refine at_store 2 rfl ?_; refine wpList_store_ints rfl 26 (.tmp 2) (.tmp 14) rfl w.heap.size rfl 26 .u8 (List.replicate 32 0) R hk6.out rfl ZR.out SR.out ?_; intro w9 hk9 hs9 hb9 ho9)
    | (refine bodyPost_cell 2 26 rfl w.heap.size rfl 26 .u8 R hk9.out _ Tryz.underlying26 rfl SR.out rfl ?_))
  exact ⟨by rw [HRR.out], bl6.out.trans (hb9 _ (Nat.le_refl _))⟩
theorem run_build_new (s0 s1 s2 s3 s4 s5 s6 s7 : Int) (w : World) :
    (Instr.build 166 #[(0, .agg #[.int .u32 s0, .int .u32 s1, .int .u32 s2, .int .u32 s3, .int .u32 s4, .int .u32 s5, .int .u32 s6, .int .u32 s7])]).run Tryz.prog w = .ok (.agg #[.int .u32 s0, .int .u32 s1, .int .u32 s2, .int .u32 s3, .int .u32 s4, .int .u32 s5, .int .u32 s6, .int .u32 s7, .slice none 0 0, .int .u64 0]) w := by
  go_simp
theorem build_new {a : Act} {o : Oper} {x : Operand} (w : World) (s : List Int) (hl : s.length = 8) (ho : o.op = .build 166 #[(0, x)]) (hx : a.eval x = .agg (intsA .u32 s)) :
    (execOp a.eval o).run Tryz.prog w = .ok (.value (.agg (wrV s none 0 0 0))) w := by
  rw [list8 s hl] at hx ⊢
  have h := run_build_new (s.getD 0 0) (s.getD 1 0) (s.getD 2 0) (s.getD 3 0) (s.getD 4 0) (s.getD 5 0) (s.getD 6 0) (s.getD 7 0) w
  unfold execOp
  simp only [ho, List.map_toArray, List.map_cons, List.map_nil, hx]
  change ((Instr.build 166 #[(0, .agg #[.int .u32 (s.getD 0 0), .int .u32 (s.getD 1 0), .int .u32 (s.getD 2 0), .int .u32 (s.getD 3 0), .int .u32 (s.getD 4 0), .int .u32 (s.getD 5 0), .int .u32 (s.getD 6 0), .int .u32 (s.getD 7 0)])]) >>= fun v => pure (Next.value v)).run Tryz.prog w = _
  simp only [Sem.run_bind, h, Result.andThen_ok, Sem.run_pure]
  rfl
end
section
open Go.ChangeShapes Go.WideShapes Go.ChangeAt Go.RowKit
theorem wrV_kind (s : List Int) (A : Option Addr) (r c : Nat) (n : Int) (j : Nat) (z : Int) : (wrV s A r c n)[j]? ≠ some (.int .u8 z) := by
  intro h
  unfold wrV at h
  rw [List.getElem?_toArray] at h
  rcases List.mem_append.1 (List.mem_of_getElem? h) with h1 | h1
  · obtain ⟨x, _, hx⟩ := List.mem_map.1 h1
    injection hx with h2 h3
    cases h2
  · simp at h1
theorem Rd.apart {w : World} {B n g : Nat} {A : Option Addr} {zs : List Int} {t : TypeId} {s : List Int} {A' : Option Addr} {r c : Nat} {m : Int} (h : Rd .u8 w B A n zs) (hk : Blk w g t (wrV s A' r c m)) : ∀ b off, 0 < n → A = some ⟨b, off, none⟩ → b ≠ g := by
  intro b off hn e hbg
  obtain ⟨b1, off1, e1, _, hc⟩ := h.2 hn
  rw [e] at e1
  injection e1 with e1
  injection e1 with e2 e3
  have h0 := hc 0 hn
  rw [← e2, ← e3, hbg, hk.cell] at h0
  exact wrV_kind _ _ _ _ _ _ _ h0
end
section
open Go.ChangeShapes Go.WideShapes Go.ChangeAt Go.RowKit
section
variable {P : Program} {w w' : World} {ops : Array Oper} {rest : List Oper} {o : Oper} {a : Act} {Q : Exit → Act → World → Prop}
theorem wpList_load_at (hgd : o.guard = none) (ty : TypeId) (x : Operand) (ho : o.op = .load ty x) (g off : Nat) (hx : a.eval x = .pointer (some ⟨g, off, none⟩)) (k : IntKind) (zs : List Int) (hb : w.rangeAt g off (zs.map (Value.int k)))
    (d : TypeDesc) (hu : P.underlying ty = some d) (hd : d.isRow = true) (hi : (P.info? ty).map (·.size) = some zs.length)
    (h : wpList P ops Q rest (a.put o.dst (.agg (intsA k zs))) w) : wpList P ops Q (o :: rest) a w :=
  wpList_load_mid hgd ty x ho g off hx (zs.map (Value.int k)) d hb hu hd (by rw [List.length_map]; exact hi) h
end
theorem BlkI.blk {w : World} {g : Nat} {t : TypeId} {k : IntKind} {zs : List Int} (h : BlkI w g t k zs) : Blk w g t (intsA k zs) := h
end
section
open Go.ChangeShapes Go.WideShapes Go.ChangeAt Go.RowKit
theorem str_rd5 {w : World} {B : Nat} {A : Option Addr} {n c : Nat} {zs : List Int} (h : Rd .u8 w B A n zs) : (convert 23 9 (.slice A n c)).run Tryz.prog w = .ok (.string (strB zs)) w :=
  run_str Tryz.underlying23 Tryz.underlying5 Tryz.underlying9 h (fun hA => by
    rcases Nat.eq_zero_or_pos n with h0 | h0
    · exact h0
    · obtain ⟨b, off, e, _⟩ := h.2 h0; rw [hA] at e; cases e)
theorem toL_eq5 {a b : ByteArray} : a.toList = b.toList ↔ a = b := by
  rw [ByteArray.toList_eq, ByteArray.toList_eq]
  constructor
  · intro h
    obtain ⟨⟨x⟩⟩ := a
    obtain ⟨⟨y⟩⟩ := b
    simp at h
    rw [h]
  · intro h; rw [h]
end
section
open Go.ChangeShapes Go.WideShapes Go.ChangeAt Go.RowKit
theorem wrV_put (s y : List Int) (hs : s.length = 8) (hy : y.length = 8) (A : Option Addr) (r c : Nat) (n : Int) : putAll (wrV s A r c n) 0 (intsA .u32 y).toList = wrV y A r c n := by
  obtain ⟨a, b, d, e, f, p, q, u, rfl⟩ : ∃ a b d e f p q u, s = [a, b, d, e, f, p, q, u] := ⟨_, _, _, _, _, _, _, _, list8 s hs⟩
  obtain ⟨a', b', d', e', f', p', q', u', rfl⟩ : ∃ a b d e f p q u, y = [a, b, d, e, f, p, q, u] := ⟨_, _, _, _, _, _, _, _, list8 y hy⟩
  simp [wrV, putAll, intsA]
theorem wrV_set9 (s : List Int) (hs : s.length = 8) (A : Option Addr) (r c : Nat) (n m : Int) : (wrV s A r c n).setIfInBounds 9 (.int .u64 m) = wrV s A r c m := by
  obtain ⟨a, b, d, e, f, p, q, u, rfl⟩ : ∃ a b d e f p q u, s = [a, b, d, e, f, p, q, u] := ⟨_, _, _, _, _, _, _, _, list8 s hs⟩
  simp [wrV]
theorem wrV_set8 (s : List Int) (hs : s.length = 8) (A A' : Option Addr) (r c r' c' : Nat) (n : Int) : (wrV s A r c n).setIfInBounds 8 (.slice A' r' c') = wrV s A' r' c' n := by
  obtain ⟨a, b, d, e, f, p, q, u, rfl⟩ : ∃ a b d e f p q u, s = [a, b, d, e, f, p, q, u] := ⟨_, _, _, _, _, _, _, _, list8 s hs⟩
  simp [wrV]
def LiesB (q : Nat) (b : List Int) (W : World) : Prop := BlkI W q 137 .u8 b
def Wrt (w0 : World) (g : Nat) (A : Option Addr) (c : Nat) (s r : List Int) (n : Int) (w : World) : Prop :=
  Blk w g 176 (wrV s A r.length c n) ∧ OwnI w w0.heap.size 5 .u8 (.slice A r.length c) r ∧ Below w0.heap.size w0 w ∧ w0.heap.size ≤ g
section
variable {w0 w w' : World} {g : Nat} {A : Option Addr} {c : Nat} {s r : List Int} {n : Int}
theorem Wrt.bel (h : Wrt w0 g A c s r n w) : Below w0.heap.size w0 w := h.2.2.1
theorem Wrt.size (h : Wrt w0 g A c s r n w) : w0.heap.size ≤ w.heap.size := h.2.2.1.size
theorem Wrt.lt (h : Wrt w0 g A c s r n w) : g < w.heap.size := h.1.lt
theorem Wrt.drew (h : Wrt w0 g A c s r n w) : Wrt w0 g A c s r n w.drew := ⟨h.1, h.2.1, h.2.2.1.drew, h.2.2.2⟩
theorem Wrt.below (h : Wrt w0 g A c s r n w) (hb : Below w.heap.size w w') : Wrt w0 g A c s r n w' :=
  ⟨h.1.below hb h.lt, h.2.1.below hb, h.bel.trans (hb.mono h.size), h.2.2.2⟩
theorem Wrt.only {s' : List Int} {n' : Int} (h : Wrt w0 g A c s r n w) (ho : Only g w w') (hk : Blk w' g 176 (wrV s' A r.length c n')) : Wrt w0 g A c s' r n' w' :=
  ⟨hk, h.2.1.only h.1 (by decide) ho, h.bel.trans (ho.below h.2.2.2 h.size), h.2.2.2⟩
theorem Wrt.rd (h : Wrt w0 g A c s r n w) : Rd .u8 w w.heap.size A r.length r := h.2.1.rd rfl
theorem Wrt.cap (h : Wrt w0 g A c s r n w) : r.length ≤ c := h.2.1.cap.1
theorem Wrt.cell8 (h : Wrt w0 g A c s r n w) (hs : s.length = 8) : w.cell? ⟨g, 8, none⟩ = some (.slice A r.length c) := by rw [h.1.cell]; exact wrV_rest s hs _ _ _ _
theorem Wrt.cell9 (h : Wrt w0 g A c s r n w) (hs : s.length = 8) : w.cell? ⟨g, 9, none⟩ = some (.int .u64 n) := by rw [h.1.cell]; exact wrV_bytes s hs _ _ _ _
end
theorem wrV_range {w : World} {g : Nat} {t : TypeId} {s : List Int} {A : Option Addr} {r c : Nat} {n : Int} (h : Blk w g t (wrV s A r c n)) : w.rangeAt g 0 (s.map (Value.int .u32)) := by
  intro j v hv
  rw [Nat.zero_add, h.cell]
  unfold wrV
  rw [List.getElem?_toArray]
  have hj : j < (s.map (Value.int .u32)).length := by
    rcases Nat.lt_or_ge j (s.map (Value.int .u32)).length with h1 | h1
    · exact h1
    · rw [List.getElem?_eq_none h1] at hv; cases hv
  rw [List.getElem?_append_left hj]
  exact hv
def AnyW (_ : World) : Prop := True
end
section
open Go.ChangeShapes Go.WideShapes Go.ChangeAt Go.RowKit
def Blk4 (w : World) (g8 g7 g6 g3 : Nat) (Y X Z s : List Int) : World → Prop := Fx [.blk g8 149 (intsA .u8 Y), .blk g7 149 (intsA .u8 X), .blk g6 26 (intsA .u8 Z), .blk g3 26 (intsA .u8 s), .bel w]
section
variable {w w1 w2 : World} {g8 g7 g6 g3 : Nat} {Y X Z s R : List Int}
theorem Blk4.below (h : Blk4 w g8 g7 g6 g3 Y X Z s w1) (hb : Below w1.heap.size w1 w2) : Blk4 w g8 g7 g6 g3 Y X Z s w2 := Fx.below h hb
theorem Blk4.drew (h : Blk4 w g8 g7 g6 g3 Y X Z s w1) : Blk4 w g8 g7 g6 g3 Y X Z s w1.drew := Fx.drew h
theorem Blk4.alloc (h : Blk4 w g8 g7 g6 g3 Y X Z s w1) (o : Obj) : Blk4 w g8 g7 g6 g3 Y X Z s (w1.alloc o) := Fx.alloc h o
theorem Blk4.grown {k : IntKind} {v : Value} {zs : List Int} (h : Blk4 w g8 g7 g6 g3 Y X Z s w1) (ho : OwnI w1 w.heap.size 5 k v zs) (hs : w.heap.size ≤ w1.heap.size) (hg : w1.grownBy w2 v.ownBlock) : Blk4 w g8 g7 g6 g3 Y X Z s w2 :=
  Fx.grown h ho ⟨show _ ≠ _ by decide, show _ ≠ _ by decide, show _ ≠ _ by decide, show _ ≠ _ by decide, rfl, trivial⟩ hs hg
theorem Blk4.c8 (h : Blk4 w g8 g7 g6 g3 Y X Z s w1) : BlkI w1 g8 149 .u8 Y := h.1
theorem Blk4.c7 (h : Blk4 w g8 g7 g6 g3 Y X Z s w1) : BlkI w1 g7 149 .u8 X := h.2.1
theorem Blk4.c6 (h : Blk4 w g8 g7 g6 g3 Y X Z s w1) : BlkI w1 g6 26 .u8 Z := h.2.2.1
theorem Blk4.c3 (h : Blk4 w g8 g7 g6 g3 Y X Z s w1) : BlkI w1 g3 26 .u8 s := h.2.2.2.1
theorem Blk4.bel (h : Blk4 w g8 g7 g6 g3 Y X Z s w1) : Below w.heap.size w w1 := h.2.2.2.2.1
def Blk4W (w : World) (g8 g7 g6 g3 : Nat) (Y X s : List Int) (w1 : World) : Prop := ∃ Z, Blk4 w g8 g7 g6 g3 Y X Z s w1
theorem Blk4.any (h : Blk4 w g8 g7 g6 g3 Y X Z s w1) : Blk4W w g8 g7 g6 g3 Y X s w1 := ⟨Z, h⟩
theorem Blk4.put6 (h : Blk4 w g8 g7 g6 g3 Y X Z s w1) (h6 : g6 < g7) (h7 : g7 < g8) (h3 : g3 < g6) (h0 : w.heap.size ≤ g3) (hk : BlkI w2 g6 26 .u8 R) (hs : w2.heap.size = w1.heap.size) (hb : ∀ B, B ≤ g6 → Below B w1 w2) (ho : ∀ j, j ≠ g6 → w2.heap[j]? = w1.heap[j]?) : Blk4 w g8 g7 g6 g3 Y X R s w2 :=
  ⟨Blk.other h.1 ho (by omega), Blk.other h.2.1 ho (by omega), hk, Blk.other h.2.2.2.1 ho (by omega), Below.trans h.bel (hb _ (by omega)), trivial⟩
end
theorem zero_b8s : ∀ W, (zeroValue 149).run Tryz.prog W = .ok (.agg (intsA .u8 (List.replicate 8 0))) W := (zero_of_info (n := 8) (by kernel_rfl)).1
theorem size_b8s : (Tryz.prog.info? 149).map (·.size) = some 8 := by kernel_rfl
def row3 (g1 g2 g3 n1 n2 n3 : Nat) : Array Value := #[.slice (some ⟨g1, 0, none⟩) n1 n1, .slice (some ⟨g2, 0, none⟩) n2 n2, .slice (some ⟨g3, 0, none⟩) n3 n3]
theorem rows3 {W : World} {g1 g2 g3 n1 n2 n3 : Nat} {t1 t2 t3 : TypeId} {x y z : List Int} (h1 : BlkI W g1 t1 .u8 x) (h2 : BlkI W g2 t2 .u8 y) (h3 : BlkI W g3 t3 .u8 z) (l1 : x.length = n1) (l2 : y.length = n2) (l3 : z.length = n3) :
    RdRows (W.alloc (.cells (row3 g1 g2 g3 n1 n2 n3) 23)) (W.alloc (.cells (row3 g1 g2 g3 n1 n2 n3) 23)).heap.size (some ⟨W.heap.size, 0, none⟩) 3 [⟨some ⟨g1, 0, none⟩, n1, n1, x⟩, ⟨some ⟨g2, 0, none⟩, n2, n2, y⟩, ⟨some ⟨g3, 0, none⟩, n3, n3, z⟩] := by
  subst l1 l2 l3
  have hk := Blk.new W 23 (row3 g1 g2 g3 x.length y.length z.length)
  have hb : Below W.heap.size W (W.alloc (.cells (row3 g1 g2 g3 x.length y.length z.length) 23)) := (Below.refl _ _).alloc (Nat.le_refl _) _
  have r1 := (h1.below hb h1.lt).rd
  have r2 := (h2.below hb h2.lt).rd
  have r3 := (h3.below hb h3.lt).rd
  refine ⟨rfl, fun _ => ⟨_, 0, rfl, hk.lt, fun j r hj => ?_⟩, fun r hr => ?_⟩
  · match j, hj with
    | 0, hj => injection hj with hj; subst hj; rw [hk.cell]; rfl
    | 1, hj => injection hj with hj; subst hj; rw [hk.cell]; rfl
    | 2, hj => injection hj with hj; subst hj; rw [hk.cell]; rfl
  · simp only [List.mem_cons, List.not_mem_nil, or_false] at hr
    rcases hr with rfl | rfl | rfl
    · exact ⟨r1, Nat.le_refl _⟩
    · exact ⟨r2, Nat.le_refl _⟩
    · exact ⟨r3, Nat.le_refl _⟩
theorem run_build3 (g1 g2 g3 n1 n2 n3 : Nat) (w : World) : (Instr.buildSlice 162 3 #[(0, .slice (some ⟨g1, 0, none⟩) n1 n1), (1, .slice (some ⟨g2, 0, none⟩) n2 n2), (2, .slice (some ⟨g3, 0, none⟩) n3 n3)]).run Tryz.prog w = .ok (.slice (some ⟨w.heap.size, 0, none⟩) 3 3) (w.alloc (.cells (row3 g1 g2 g3 n1 n2 n3) 23)) := by
  unfold row3
  go_simp
theorem exec_build3 {o : Oper} {a : Act} {w : World} (p q r : Operand) (g1 g2 g3 n1 n2 n3 : Nat) (ho : o.op = .buildSlice 162 3 #[(0, p), (1, q), (2, r)]) (hp : a.eval p = .slice (some ⟨g1, 0, none⟩) n1 n1) (hq : a.eval q = .slice (some ⟨g2, 0, none⟩) n2 n2) (hr : a.eval r = .slice (some ⟨g3, 0, none⟩) n3 n3) :
    (execOp a.eval o).run Tryz.prog w = .ok (.value (.slice (some ⟨w.heap.size, 0, none⟩) 3 3)) (w.alloc (.cells (row3 g1 g2 g3 n1 n2 n3) 23)) := by
  unfold execOp
  simp only [ho, List.map_toArray, List.map_cons, List.map_nil, hp, hq, hr]
  change ((Instr.buildSlice 162 3 #[(0, .slice (some ⟨g1, 0, none⟩) n1 n1), (1, .slice (some ⟨g2, 0, none⟩) n2 n2), (2, .slice (some ⟨g3, 0, none⟩) n3 n3)]) >>= fun v => pure (Next.value v)).run Tryz.prog w = _
  simp only [Sem.run_bind, run_build3, Result.andThen_ok, Sem.run_pure]
end
section
open Go.ChangeShapes Go.WideShapes Go.ChangeAt Go.RowKit
def srcV (s : Src) (A : Option Addr) (c : Nat) : Array Value := ([Value.int .i64 s.kind, .slice A s.tape.length c, .int .u64 s.bits] ++ (s.seed.map (Value.int .u8) ++ [Value.int .u64 s.dom, .int .u64 s.at_])).toArray
theorem srcV_size (s : Src) (hl : s.seed.length = 32) (A : Option Addr) (c : Nat) : (srcV s A c).size = 37 := by simp [srcV, hl]
theorem srcV_ones (s : Src) (A : Option Addr) (c : Nat) : (srcV s A c).all (·.oneCell') = true := all_oneCell_toArray (by
  intro u hu
  rcases List.mem_append.1 hu with h | h
  · simp only [List.mem_cons, List.not_mem_nil, or_false] at h
    rcases h with h | h | h <;> subst h <;> rfl
  · rcases List.mem_append.1 h with h | h
    · exact ints_one .u8 s.seed u h
    · simp only [List.mem_cons, List.not_mem_nil, or_false] at h
      rcases h with h | h <;> subst h <;> rfl)
theorem srcV_kind (s : Src) (A : Option Addr) (c : Nat) : (srcV s A c)[0]? = some (.int .i64 s.kind) := rfl
theorem srcV_tape (s : Src) (A : Option Addr) (c : Nat) : (srcV s A c)[1]? = some (.slice A s.tape.length c) := rfl
theorem srcV_bits (s : Src) (A : Option Addr) (c : Nat) : (srcV s A c)[2]? = some (.int .u64 s.bits) := rfl
theorem srcV_dom (s : Src) (hl : s.seed.length = 32) (A : Option Addr) (c : Nat) : (srcV s A c)[35]? = some (.int .u64 s.dom) := by
  unfold srcV
  rw [List.getElem?_toArray, List.getElem?_append_right (by simp), List.getElem?_append_right (by simp [hl])]
  simp [hl]
theorem srcV_at (s : Src) (hl : s.seed.length = 32) (A : Option Addr) (c : Nat) : (srcV s A c)[36]? = some (.int .u64 s.at_) := by
  unfold srcV
  rw [List.getElem?_toArray, List.getElem?_append_right (by simp), List.getElem?_append_right (by simp [hl])]
  simp [hl]
theorem srcV_seed {w : World} {g : Nat} {t : TypeId} {s : Src} {A : Option Addr} {c : Nat} (h : Blk w g t (srcV s A c)) : w.rangeAt g 3 (s.seed.map (Value.int .u8)) := by
  intro j v hv
  rw [h.cell]
  unfold srcV
  rw [List.getElem?_toArray, List.getElem?_append_right (by simp)]
  have hj : j < (s.seed.map (Value.int .u8)).length := by
    rcases Nat.lt_or_ge j (s.seed.map (Value.int .u8)).length with h1 | h1
    · exact h1
    · rw [List.getElem?_eq_none h1] at hv; cases hv
  rw [show 3 + j - [Value.int .i64 s.kind, .slice A s.tape.length c, .int .u64 s.bits].length = j by simp, List.getElem?_append_left hj]
  exact hv
theorem srcV_set (s : Src) (hl : s.seed.length = 32) (A : Option Addr) (c : Nat) (n : Int) : (srcV s A c).setIfInBounds 36 (.int .u64 n) = srcV (s.to n) A c := by
  unfold srcV Src.to
  rw [List.setIfInBounds_toArray]
  congr 1
  rw [List.set_append_right _ _ (by simp), List.set_append_right _ _ (by simp [hl])]
  simp [hl]
theorem size_src : (Tryz.prog.info? 28).map (·.size) = some 37 := by kernel_rfl
theorem zero_src : ∀ W, (zeroValue 28).run Tryz.prog W = .ok (.agg (srcV Src.zero none 0)) W := (zero_of_info (n := 37) (by kernel_rfl)).1
theorem sizedS (s : Src) (hl : s.seed.length = 32) (A : Option Addr) (c : Nat) : (Tryz.prog.info? 28).map (·.size) = some (srcV s A c).size := by rw [srcV_size s hl]; exact size_src
theorem srcV_same (a b : Src) (ha : a.seed.length = 32) (hb : b.seed.length = 32) (A B : Option Addr) (c d : Nat) : (srcV a A c).size = (srcV b B d).size := by rw [srcV_size a ha, srcV_size b hb]
theorem run_build_src0 (w : World) : (Instr.build 28 #[]).run Tryz.prog w = .ok (.agg #[.int .i64 0, .slice none 0 0, .int .u64 0, .int .u8 0, .int .u8 0, .int .u8 0, .int .u8 0, .int .u8 0, .int .u8 0, .int .u8 0, .int .u8 0, .int .u8 0, .int .u8 0, .int .u8 0, .int .u8 0, .int .u8 0, .int .u8 0, .int .u8 0, .int .u8 0, .int .u8 0, .int .u8 0, .int .u8 0, .int .u8 0, .int .u8 0, .int .u8 0, .int .u8 0, .int .u8 0, .int .u8 0, .int .u8 0, .int .u8 0, .int .u8 0, .int .u8 0, .int .u8 0, .int .u8 0, .int .u8 0, .int .u64 0, .int .u64 0]) w := by
  go_simp
theorem build_src0 {a : Act} {o : Oper} (w : World) (ho : o.op = .build 28 #[]) : (execOp a.eval o).run Tryz.prog w = .ok (.value (.agg (srcV Src.zero none 0))) w := by
  unfold execOp
  simp only [ho, List.map_toArray, List.map_nil]
  change ((Instr.build 28 #[]) >>= fun v => pure (Next.value v)).run Tryz.prog w = _
  simp only [Sem.run_bind, run_build_src0, Result.andThen_ok, Sem.run_pure]
  rfl
theorem run_build_src1 (A : Option Addr) (n c : Nat) (b : Int) (w : World) : (Instr.build 28 #[(0, .int .i64 1), (1, .slice A n c), (2, .int .u64 b)]).run Tryz.prog w = .ok (.agg #[.int .i64 1, .slice A n c, .int .u64 b, .int .u8 0, .int .u8 0, .int .u8 0, .int .u8 0, .int .u8 0, .int .u8 0, .int .u8 0, .int .u8 0, .int .u8 0, .int .u8 0, .int .u8 0, .int .u8 0, .int .u8 0, .int .u8 0, .int .u8 0, .int .u8 0, .int .u8 0, .int .u8 0, .int .u8 0, .int .u8 0, .int .u8 0, .int .u8 0, .int .u8 0, .int .u8 0, .int .u8 0, .int .u8 0, .int .u8 0, .int .u8 0, .int .u8 0, .int .u8 0, .int .u8 0, .int .u8 0, .int .u64 0, .int .u64 0]) w := by
  go_simp
def Src.tapeOf (zs : List Int) (b : Int) : Src := ⟨1, zs, b, List.replicate 32 0, 0, 0⟩
theorem build_src1 {a : Act} {o : Oper} {x y z : Operand} (w : World) (A : Option Addr) (c : Nat) (zs : List Int) (b : Int) (ho : o.op = .build 28 #[(0, x), (1, y), (2, z)]) (hx : a.eval x = .int .i64 1) (hy : a.eval y = .slice A zs.length c) (hz : a.eval z = .int .u64 b) :
    (execOp a.eval o).run Tryz.prog w = .ok (.value (.agg (srcV (Src.tapeOf zs b) A c))) w := by
  unfold execOp
  simp only [ho, List.map_toArray, List.map_cons, List.map_nil, hx, hy, hz]
  change ((Instr.build 28 #[(0, .int .i64 1), (1, .slice A zs.length c), (2, .int .u64 b)]) >>= fun v => pure (Next.value v)).run Tryz.prog w = _
  simp only [Sem.run_bind, run_build_src1, Result.andThen_ok, Sem.run_pure]
  rfl
theorem list32 (s : List Int) (hl : s.length = 32) : s = [s.getD 0 0, s.getD 1 0, s.getD 2 0, s.getD 3 0, s.getD 4 0, s.getD 5 0, s.getD 6 0, s.getD 7 0, s.getD 8 0, s.getD 9 0, s.getD 10 0, s.getD 11 0, s.getD 12 0, s.getD 13 0, s.getD 14 0, s.getD 15 0, s.getD 16 0, s.getD 17 0, s.getD 18 0, s.getD 19 0, s.getD 20 0, s.getD 21 0, s.getD 22 0, s.getD 23 0, s.getD 24 0, s.getD 25 0, s.getD 26 0, s.getD 27 0, s.getD 28 0, s.getD 29 0, s.getD 30 0, s.getD 31 0] := by
  match s, hl with
  | [s0, s1, s2, s3, s4, s5, s6, s7, s8, s9, s10, s11, s12, s13, s14, s15, s16, s17, s18, s19, s20, s21, s22, s23, s24, s25, s26, s27, s28, s29, s30, s31], _ => rfl
theorem OwnI.apart {w : World} {base g n c : Nat} {e t : TypeId} {k : IntKind} {A : Option Addr} {zs : List Int} {cs : Array Value} (h : OwnI w base e k (.slice A n c) zs) (hb : Blk w g t cs) (hne : e ≠ t) : ∀ b off, 0 < n → A = some ⟨b, off, none⟩ → b ≠ g := by
  intro b off hn hA
  rcases h.2 with ⟨h1, h2⟩ | ⟨g', cap, cur, h1, h2, h3, h4⟩
  · injection h1 with e1 e2 e3
    omega
  · injection h1 with e1 e2 e3
    rw [hA] at e1
    injection e1 with e1
    injection e1 with e1 e4
    subst e1
    rintro rfl
    unfold Blk at hb
    rw [h3] at hb
    injection hb with hb
    injection hb with _ h5
    exact hne h5
theorem size_u64s : (Tryz.prog.info? 24).map (·.size) = some 1 := by kernel_rfl
theorem pow2_le (n : Nat) (h : n ≤ 63) : (2 : Int) ^ n ≤ 9223372036854775808 := by
  have h1 : (2 : Int) ^ n ≤ 2 ^ 63 := by
    have h2 : 2 ^ n ≤ 2 ^ 63 := Nat.pow_le_pow_right (by omega) h
    exact_mod_cast h2
  omega
theorem right_div (x : Int) (q : Nat) (h : q ≤ 7) : Wd.right x (q : Int) = x / 2 ^ q := by
  unfold Wd.right
  rcases Nat.eq_zero_or_pos q with h0 | h0
  · subst h0
    simp
  · rw [if_neg (by omega), if_neg (by omega), Int.toNat_natCast]
def Sep (w : World) (A A' : Option Addr) : Prop := A' = A ∨ ∀ b off, A' = some ⟨b, off, none⟩ → w.heap.size ≤ b
def RetTake (w : World) (s : Src) (k : Int) (A : Option Addr) (e : Ending) (w' : World) : Prop :=
  ∃ A' c', e = .returned (.tuple #[.int .u64 (takeV s k), .agg (srcV (takeS s k) A' c'), .int .i64 (takeE s k)]) ∧ Rd .u8 w' w'.heap.size A' s.tape.length s.tape ∧ s.tape.length ≤ c' ∧ c' ≤ maxLen ∧ Sep w A A' ∧ Below w.heap.size w w'
def RetTape (w : World) (zs : List Int) (b : Int) (e : Ending) (w' : World) : Prop :=
  if b ≤ 8 * (zs.length : Int) then ∃ A' c', e = .returned (.tuple #[.agg (srcV (Src.tapeOf zs b) A' c'), .int .i64 0]) ∧ Rd .u8 w' w'.heap.size A' zs.length zs ∧ zs.length ≤ c' ∧ c' ≤ maxLen ∧ Below w.heap.size w w'
  else e = .returned (.tuple #[.agg (srcV Src.zero none 0), .int .i64 1]) ∧ Below w.heap.size w w'
def Src2 (w : World) (g2 g5 : Nat) (V Z : Array Value) : World → Prop := Fx [.blk g5 28 Z, .blk g2 28 V, .bel w]
section
variable {w w1 w2 : World} {g2 g5 : Nat} {V Z X : Array Value}
theorem Src2.below (h : Src2 w g2 g5 V Z w1) (hb : Below w1.heap.size w1 w2) : Src2 w g2 g5 V Z w2 := Fx.below h hb
theorem Src2.drew (h : Src2 w g2 g5 V Z w1) : Src2 w g2 g5 V Z w1.drew := Fx.drew h
theorem Src2.snd (h : Src2 w g2 g5 V Z w1) : Blk w1 g5 28 Z := h.1
theorem Src2.fst (h : Src2 w g2 g5 V Z w1) : Blk w1 g2 28 V := h.2.1
theorem Src2.bel (h : Src2 w g2 g5 V Z w1) : Below w.heap.size w w1 := h.2.2.1
theorem Src2.keep (h : Src2 w g2 g5 V Z w1) : Fx [.blk g2 28 V, .bel w] w1 := h.2
theorem Src2.old (h : Src2 w g2 g5 V Z w1) : Fx [.blk g5 28 Z] w1 := ⟨h.1, trivial⟩
theorem Src2.mk (h : Fx [.blk g2 28 V, .bel w] w1) (h2 : Blk w1 g5 28 Z) : Src2 w g2 g5 V Z w1 := ⟨h2, h⟩
theorem Src2.only (h : Src2 w g2 g5 V Z w1) (h0 : w.heap.size ≤ g2) (h1 : g2 < g5) (hk : Blk w2 g2 28 X) (ho : Only g2 w1 w2) : Src2 w g2 g5 X Z w2 :=
  ⟨Blk.only h.1 ho (Nat.ne_of_gt h1), hk, Below.trans h.bel (ho.below h0 h.bel.size), trivial⟩
end
section
variable {P : Program} {w : World} {ops : Array Oper} {rest : List Oper} {o : Oper} {a : Act} {Q : Exit → Act → World → Prop}
theorem wpList_load_gdb (hw : Region.wanted o (yielded ops a.tmps) = true) (ty : TypeId) (x : Operand) (ho : o.op = .load ty x) (g : Nat) (hx : a.eval x = .pointer (some ⟨g, 0, none⟩)) (t : TypeId) (cs : Array Value) (hb : Blk w g t cs)
    (d : TypeDesc) (hu : P.underlying ty = some d) (hd : d.isRow = true) (hi : (P.info? ty).map (·.size) = some cs.size)
    (h : wpList P ops Q rest (a.put o.dst (.agg cs)) w) : wpList P ops Q (o :: rest) a w :=
  wpList_step fun K hK => by
    rw [if_pos hw]
    exact wp_load_mid ty x ho g 0 hx cs.toList d hb.range hu hd (by rw [Array.length_toList]; exact hi) (hK _ _ h)
theorem wpList_load_gdo (hw : Region.wanted o (yielded ops a.tmps) = true) (ty : TypeId) (x : Operand) (ho : o.op = .load ty x) (g off : Nat) (hx : a.eval x = .pointer (some ⟨g, off, none⟩)) (k : IntKind) (zs : List Int) (hb : w.rangeAt g off (zs.map (Value.int k)))
    (d : TypeDesc) (hu : P.underlying ty = some d) (hd : d.isRow = true) (hi : (P.info? ty).map (·.size) = some zs.length)
    (h : wpList P ops Q rest (a.put o.dst (.agg (intsA k zs))) w) : wpList P ops Q (o :: rest) a w :=
  wpList_step fun K hK => by
    rw [if_pos hw]
    exact wp_load_mid ty x ho g off hx (zs.map (Value.int k)) d hb hu hd (by rw [List.length_map]; exact hi) (hK _ _ h)
theorem bodyPost_mid {fn : Func} {R : Ending → World → Prop} (p0 p p1 : Tmp) (ty : TypeId) (h : fn.results = #[.tmp p0, .cell p ty, .tmp p1]) (g : Nat) (ht : a.tmps.getD p undef = .pointer (some ⟨g, 0, none⟩)) (v0 v1 : Value) (h0 : a.tmps.getD p0 undef = v0) (h1 : a.tmps.getD p1 undef = v1) (t : TypeId) (cs : Array Value) (hb : Blk w g t cs)
    (d : TypeDesc) (hu : P.underlying ty = some d) (hd : d.isRow = true) (hi : (P.info? ty).map (·.size) = some cs.size) (hdf : a.defers = []) (hR : R (.returned (.tuple #[v0, .agg cs, v1])) w) : bodyPost P fn R .ret a w := by
  refine bodyPost_ret (v := .tuple #[v0, .agg cs, v1]) ?_ hdf hR
  have hl := run_loadVar_mid (P := P) w g 0 ty cs.toList d hb.range hu hd (by rw [Array.length_toList]; exact hi)
  have ht' : a.tmps[p]?.getD undef = .pointer (some ⟨g, 0, none⟩) := by rw [← ht, Array.getD_eq_getD_getElem?]
  have h0' : a.tmps[p0]?.getD undef = v0 := by rw [← h0, Array.getD_eq_getD_getElem?]
  have h1' : a.tmps[p1]?.getD undef = v1 := by rw [← h1, Array.getD_eq_getD_getElem?]
  simp only [results, h]
  simp [ht', h0', h1', asAddr, hl]
end
end
section
open Go.ChangeShapes Go.WideShapes Go.ChangeAt Go.RowKit
theorem Rd.to {k : IntKind} {w w' : World} {n : Nat} {A : Option Addr} {zs : List Int} (h : Rd k w w.heap.size A n zs) (hb : Below w.heap.size w w') : Rd k w' w'.heap.size A n zs := (h.below hb).mono hb.size
theorem eq_hash (zs ys : List Int) (hz : zs.length = 32) (hy : ys.length = 32) (w : World) : (Op.equalIn 10000 26 (.agg (intsA .u8 zs)) (.agg (intsA .u8 ys))).run Tryz.prog w = .ok (decide (zs = ys)) w := by
  obtain ⟨i0, hi, _, hs, _⟩ := info_parts info_u8'
  exact run_equal_ints Tryz.underlying26 Tryz.underlying5 hi hs (by kernel_rfl) zs ys hz hy w
theorem u8b {l : List Int} (h : ∀ z ∈ l, (Lit.int .u8 z).wf = true) : ∀ z ∈ l, 0 ≤ z ∧ z < 256 := fun z hz => by have := bounds_u8 (h z hz); omega
end
section
def needN (n : Int) : Nat := if n = 0 then 0 else Wd.bitsL (n - 1).toNat
theorem needN_le (n : Int) (h0 : 0 ≤ n) (h1 : n < 18446744073709551616) : needN n ≤ 64 := by
  unfold needN
  split
  · omega
  · exact Wd.bitsL_le _ (by omega)
end
section
def drawGo (k : Nat) (n : Int) : Nat → Src → Int × Src × Int
  | 0, s => (0, s, 9)
  | m + 1, s => if takeE s k = 0 then (if takeV s k < n then (takeV s k, takeS s k, 0) else drawGo k n m (takeS s k)) else (0, s, takeE s k)
def drawB (s : Src) (n a : Int) : Bool := rightS s && decide (1 ≤ n ∧ n < 9223372036854775808 ∧ 1 ≤ a ∧ a ≤ 64)
def drawR (s : Src) (n a : Int) : Int × Src × Int := if drawB s n a = true then drawGo (needN n) n a.toNat s else (0, s, 1)
def drawT (s : Src) (n a : Int) : Src := (drawR s n a).2.1
theorem drawGo_zero (k : Nat) (n : Int) (s : Src) : drawGo k n 0 s = (0, s, 9) := rfl
theorem drawGo_err {k : Nat} {n : Int} {m : Nat} {s : Src} (h : takeE s k ≠ 0) : drawGo k n (m + 1) s = (0, s, takeE s k) := by rw [drawGo, if_neg h]
theorem drawGo_hit {k : Nat} {n : Int} {m : Nat} {s : Src} (h : takeE s k = 0) (hx : takeV s k < n) : drawGo k n (m + 1) s = (takeV s k, takeS s k, 0) := by rw [drawGo, if_pos h, if_pos hx]
theorem drawGo_miss {k : Nat} {n : Int} {m : Nat} {s : Src} (h : takeE s k = 0) (hx : ¬ takeV s k < n) : drawGo k n (m + 1) s = drawGo k n m (takeS s k) := by rw [drawGo, if_pos h, if_neg hx]
theorem takeS_to {s : Src} {k : Nat} (h : takeE s k = 0) : takeS s k = s.to (s.at_ + k) := by unfold takeS; rw [if_pos h]
theorem to_to (s : Src) (m n : Int) : (s.to m).to n = s.to n := rfl
theorem drawGo_src (k : Nat) (n : Int) : ∀ (m : Nat) (s : Src), ∃ p, (drawGo k n m s).2.1 = s.to p
  | 0, s => ⟨s.at_, rfl⟩
  | m + 1, s => by
    by_cases h : takeE s k = 0
    · by_cases hx : takeV s k < n
      · rw [drawGo_hit h hx]; exact ⟨_, takeS_to h⟩
      · rw [drawGo_miss h hx, takeS_to h]
        obtain ⟨p, hp⟩ := drawGo_src k n m (s.to (s.at_ + k))
        exact ⟨p, by rw [hp, to_to]⟩
    · rw [drawGo_err h]; exact ⟨s.at_, rfl⟩
theorem drawGo_ok (k : Nat) (n : Int) : ∀ (m : Nat) (s : Src), s.Ok → (drawGo k n m s).2.1.Ok
  | 0, s, ok => ok
  | m + 1, s, ok => by
    by_cases h : takeE s k = 0
    · by_cases hx : takeV s k < n
      · rw [drawGo_hit h hx]; exact takeS_ok ok k
      · rw [drawGo_miss h hx]; exact drawGo_ok k n m _ (takeS_ok ok k)
    · rw [drawGo_err h]; exact ok
theorem drawGo_val (k : Nat) (n : Int) : ∀ (m : Nat) (s : Src), 0 ≤ (drawGo k n m s).1 ∧ (drawGo k n m s).1 < 18446744073709551616
  | 0, s => by rw [drawGo_zero]; exact ⟨Int.le_refl _, (by show (0 : Int) < 18446744073709551616; omega)⟩
  | m + 1, s => by
    by_cases h : takeE s k = 0
    · by_cases hx : takeV s k < n
      · rw [drawGo_hit h hx]; exact takeV_in s k
      · rw [drawGo_miss h hx]; exact drawGo_val k n m _
    · rw [drawGo_err h]; exact ⟨Int.le_refl _, (by show (0 : Int) < 18446744073709551616; omega)⟩
theorem takeE_in (s : Src) (k : Int) : takeE s k = 0 ∨ takeE s k = 8 ∨ takeE s k = 1 := by unfold takeE; split <;> (try split) <;> omega
theorem drawT_ok (s : Src) (n a : Int) (ok : s.Ok) : (drawT s n a).Ok := by
  unfold drawT drawR
  split
  · exact drawGo_ok _ _ _ _ ok
  · exact ok
theorem drawT_tape (s : Src) (n a : Int) : (drawT s n a).tape = s.tape := by
  unfold drawT drawR
  split
  · obtain ⟨p, hp⟩ := drawGo_src (needN n) n a.toNat s
    rw [hp]; rfl
  · rfl
theorem drawGo_first (k : Nat) (n : Int) : ∀ (m : Nat) (s : Src), (drawGo k n m s).2.2 = 0 → (drawGo k n m s).1 < n ∧ ∃ j, j < m ∧ (drawGo k n m s).2.1 = s.to (s.at_ + (k * (j + 1) : Nat)) ∧ drawGo k n j s = (0, s.to (s.at_ + (k * j : Nat)), 9)
  | 0, s, he => by rw [drawGo_zero] at he; exact absurd he (by show ¬ (9 : Int) = 0; omega)
  | m + 1, s, he => by
    by_cases h : takeE s k = 0
    · by_cases hx : takeV s k < n
      · rw [drawGo_hit h hx]
        refine ⟨hx, 0, by omega, ?_, ?_⟩
        · rw [Nat.zero_add, Nat.mul_one]; exact takeS_to h
        · rw [Nat.mul_zero, Int.natCast_zero, Int.add_zero]; rfl
      · rw [drawGo_miss h hx] at he ⊢
        obtain ⟨h1, j, hj, h2, h3⟩ := drawGo_first k n m _ he
        refine ⟨h1, j + 1, by omega, ?_, ?_⟩
        · rw [h2, takeS_to h, to_to]
          rw [show (s.to (s.at_ + (k : Int))).at_ + ((k * (j + 1) : Nat) : Int) = s.at_ + ((k * (j + 1 + 1) : Nat) : Int) from (by
            show s.at_ + (k : Int) + _ = _
            rw [Nat.mul_add k (j + 1) 1]
            omega)]
        · rw [drawGo_miss h hx, h3, takeS_to h, to_to]
          rw [show (s.to (s.at_ + (k : Int))).at_ + ((k * j : Nat) : Int) = s.at_ + ((k * (j + 1) : Nat) : Int) from (by
            show s.at_ + (k : Int) + _ = _
            rw [Nat.mul_add k j 1]
            omega)]
    · rw [drawGo_err h] at he
      exact absurd he h
end
section
open Go.ChangeShapes Go.WideShapes Go.ChangeAt Go.RowKit
def Apt (n : Nat) (A : Option Addr) (g : Nat) : Prop := ∀ b off, 0 < n → A = some ⟨b, off, none⟩ → b ≠ g
theorem Apt.of_lt {k : IntKind} {w : World} {B n g : Nat} {A : Option Addr} {zs : List Int} (h : Rd k w B A n zs) (hg : B ≤ g) : Apt n A g := fun b off hn hA => by
  obtain ⟨b', off', e, hlt, _⟩ := h.2 hn
  rw [hA] at e
  injection e with e
  injection e with e1 e2
  omega
theorem Apt.of_sep {w : World} {n g : Nat} {A A' : Option Addr} (h : Sep w A A') (ha : Apt n A g) (hg : g < w.heap.size) : Apt n A' g := fun b off hn hA => by
  rcases h with h | h
  · rw [h] at hA; exact ha b off hn hA
  · have := h b off hA; omega
theorem Sep.trans {w w' : World} {A B C : Option Addr} (h : Sep w A B) (h' : Sep w' B C) (hs : w.heap.size ≤ w'.heap.size) : Sep w A C := by
  rcases h' with h1 | h1
  · rw [h1]; exact h
  · exact .inr fun b off hA => by have := h1 b off hA; omega
theorem Sep.refl (w : World) (A : Option Addr) : Sep w A A := .inl rfl
def RdP (A : Option Addr) (n : Nat) (zs : List Int) (w : World) : Prop := Rd .u8 w w.heap.size A n zs
section
variable {A : Option Addr} {n : Nat} {zs : List Int} {w w' : World}
theorem RdP.rd (h : RdP A n zs w) : Rd .u8 w w.heap.size A n zs := h
theorem RdP.below (h : RdP A n zs w) (hb : Below w.heap.size w w') : RdP A n zs w' := (Rd.below h hb).mono hb.size
theorem RdP.drew (h : RdP A n zs w) : RdP A n zs w.drew := h.below (Below.refl _ _).drew
theorem RdP.store {g : Nat} {t : TypeId} {cs : Array Value} (h : RdP A n zs w) (hk : Blk w g t cs) (ha : Apt n A g) (hs : w'.heap.size = w.heap.size) (hb : ∀ B, B ≤ g → Below B w w') (ho : ∀ j, j ≠ g → w'.heap[j]? = w.heap[j]?) : RdP A n zs w' := by
  have h1 := Rd.other h ho ha
  show Rd .u8 w' w'.heap.size A n zs
  rw [hs]
  exact h1
end
structure DrS (w0 : World) (g3 g7 : Nat) (V : Array Value) (A : Option Addr) (n : Nat) (zs : List Int) (w : World) : Prop where
  blk : Blk w g3 28 V
  bel : Below w0.heap.size w0 w
  rd : RdP A n zs w
  apt3 : Apt n A g3
  apt7 : Apt n A g7
  le3 : w0.heap.size ≤ g3
  lt : g3 < g7
  lt7 : g7 < w.heap.size
section
variable {w0 w w' : World} {g3 g7 n : Nat} {V V' : Array Value} {A A' : Option Addr} {zs : List Int}
theorem DrS.below (h : DrS w0 g3 g7 V A n zs w) (hb : Below w.heap.size w w') : DrS w0 g3 g7 V A n zs w' :=
  ⟨h.blk.below hb h.blk.lt, Below.trans h.bel (hb.mono h.bel.size), h.rd.below hb, h.apt3, h.apt7, h.le3, h.lt, by have := h.lt7; have := hb.size; omega⟩
theorem DrS.drew (h : DrS w0 g3 g7 V A n zs w) : DrS w0 g3 g7 V A n zs w.drew := h.below (Below.refl _ _).drew
theorem DrS.le7 (h : DrS w0 g3 g7 V A n zs w) : w0.heap.size ≤ g7 := by have := h.le3; have := h.lt; omega
theorem DrS.lt3 (h : DrS w0 g3 g7 V A n zs w) : g3 < w.heap.size := by have := h.lt; have := h.lt7; omega
theorem DrS.store {g : Nat} {t : TypeId} {cs : Array Value} (h : DrS w0 g3 g7 V A n zs w) (hk : Blk w g t cs) (ha : g3 ≠ g ∧ Apt n A g ∧ w0.heap.size ≤ g) (hs : w'.heap.size = w.heap.size) (hb : ∀ B, B ≤ g → Below B w w') (ho : ∀ j, j ≠ g → w'.heap[j]? = w.heap[j]?) : DrS w0 g3 g7 V A n zs w' :=
  ⟨Blk.other h.blk ho ha.1, Below.trans h.bel (hb _ ha.2.2), h.rd.store hk ha.2.1 hs hb ho, h.apt3, h.apt7, h.le3, h.lt, by rw [hs]; exact h.lt7⟩
theorem DrS.store7 (h : DrS w0 g3 g7 V A n zs w) : g3 ≠ g7 ∧ Apt n A g7 ∧ w0.heap.size ≤ g7 := ⟨Nat.ne_of_lt h.lt, h.apt7, h.le7⟩
theorem DrS.put3 (h : DrS w0 g3 g7 V A n zs w) (hr : RdP A' n zs w) (h3 : Apt n A' g3) (h7 : Apt n A' g7) (hk : Blk w' g3 28 V') (hs : w'.heap.size = w.heap.size) (hb : ∀ B, B ≤ g3 → Below B w w') (ho : ∀ j, j ≠ g3 → w'.heap[j]? = w.heap[j]?) : DrS w0 g3 g7 V' A' n zs w' :=
  ⟨hk, Below.trans h.bel (hb _ h.le3), hr.store h.blk h3 hs hb ho, h3, h7, h.le3, h.lt, by rw [hs]; exact h.lt7⟩
theorem DrS.mk2 {w1 w2 w3 : World} {Z : Array Value} (hrd : Rd .u8 w w.heap.size A n zs) (hk1 : Blk w1 w.heap.size 28 V) (hb1 : Below w.heap.size w w1) (hk2 : Blk w2 w1.heap.size 28 Z) (hb2 : Below w1.heap.size w1 w2) (hb3 : Below w2.heap.size w2 w3) : DrS w w.heap.size w1.heap.size V A n zs w3 :=
  have hb13 : Below w1.heap.size w1 w3 := hb2.trans (hb3.mono hb2.size)
  have hb03 : Below w.heap.size w w3 := hb1.trans (hb13.mono hb1.size)
  ⟨hk1.below hb13 hk1.lt, hb03, (hrd.below hb03).mono hb03.size, Apt.of_lt hrd (Nat.le_refl _), Apt.of_lt hrd hb1.size, Nat.le_refl _, hk1.lt, by have := hk2.lt; have := hb3.size; omega⟩
end
structure DrH (w0 : World) (g7 g11 : Nat) (V : Array Value) (A : Option Addr) (n : Nat) (zs : List Int) (w : World) : Prop where
  blk : Blk w g11 28 V
  bel : Below w0.heap.size w0 w
  rd : RdP A n zs w
  apt : Apt n A g7
  ne : g11 ≠ g7
  le : w0.heap.size ≤ g7
section
variable {w0 w w' w5 w6 w7 : World} {g3 g7 g11 n : Nat} {V V2 Z : Array Value} {A A2 : Option Addr} {zs : List Int}
theorem DrH.below (h : DrH w0 g7 g11 V A n zs w) (hb : Below w.heap.size w w') : DrH w0 g7 g11 V A n zs w' :=
  ⟨h.blk.below hb h.blk.lt, Below.trans h.bel (hb.mono h.bel.size), h.rd.below hb, h.apt, h.ne, h.le⟩
theorem DrH.drew (h : DrH w0 g7 g11 V A n zs w) : DrH w0 g7 g11 V A n zs w.drew := h.below (Below.refl _ _).drew
theorem DrH.store {g : Nat} {t : TypeId} {cs : Array Value} (h : DrH w0 g7 g11 V A n zs w) (hk : Blk w g t cs) (ha : g11 ≠ g ∧ Apt n A g ∧ w0.heap.size ≤ g) (hs : w'.heap.size = w.heap.size) (hb : ∀ B, B ≤ g → Below B w w') (ho : ∀ j, j ≠ g → w'.heap[j]? = w.heap[j]?) : DrH w0 g7 g11 V A n zs w' :=
  ⟨Blk.other h.blk ho ha.1, Below.trans h.bel (hb _ ha.2.2), h.rd.store hk ha.2.1 hs hb ho, h.apt, h.ne, h.le⟩
theorem DrH.store7 (h : DrH w0 g7 g11 V A n zs w) : g11 ≠ g7 ∧ Apt n A g7 ∧ w0.heap.size ≤ g7 := ⟨h.ne, h.apt, h.le⟩
theorem DrS.hof (h : DrS w0 g3 g7 V A n zs w) (Z : Array Value) : Fx.off g3 V [.blk g7 28 Z] := ⟨Nat.ne_of_gt h.lt, trivial⟩
theorem DrS.took (h : DrS w0 g3 g7 V A n zs w) (hz : Fx [.blk g7 28 Z] w) (hr : Rd .u8 w5 w5.heap.size A2 n zs) (hsp : Sep w A A2) (hb5 : Below w.heap.size w w5) (hb6 : Below w5.heap.size w5 w6) (hk6 : Blk w6 w5.heap.size 28 Z) (hk7 : Blk w7 w5.heap.size 28 V2) (hs7 : w7.heap.size = w6.heap.size) (hb7 : ∀ B, B ≤ w5.heap.size → Below B w6 w7) (ho7 : ∀ j, j ≠ w5.heap.size → w7.heap[j]? = w6.heap[j]?) :
    DrS w0 g3 g7 V A n zs w7 ∧ Fx [.blk g7 28 Z] w7 ∧ RdP A2 n zs w7 ∧ Apt n A2 g3 ∧ Apt n A2 g7 ∧ DrH w0 g7 w5.heap.size V2 A2 n zs w7 := by
  have hr5 : RdP A2 n zs w5 := hr
  have z5 := hb5.size
  have l3 := h.lt3
  have l7 := h.lt7
  have a3 := Apt.of_sep hsp h.apt3 h.lt3
  have a7 := Apt.of_sep hsp h.apt7 h.lt7
  have S6 := (h.below hb5).below hb6
  have S7 := S6.store hk6 ⟨by omega, Apt.of_lt h.rd.rd z5, by have := h.bel.size; omega⟩ hs7 hb7 ho7
  have R7 := (hr5.below hb6).store hk6 (Apt.of_lt hr (Nat.le_refl _)) hs7 hb7 ho7
  have Z6 := (hz.below hb5).below hb6
  have Z7 := Z6.store hk6 (show Fx.off w5.heap.size Z [.blk g7 28 Z] from ⟨Nat.ne_of_lt (Nat.lt_of_lt_of_le l7 z5), trivial⟩) hs7 hb7 ho7
  exact ⟨S7, Z7, R7, a3, a7, hk7, S7.bel, R7, a7, by omega, h.le7⟩
end
def RetDraw (w : World) (s : Src) (A : Option Addr) (r : Int × Src × Int) (e : Ending) (w' : World) : Prop :=
  ∃ A' c', e = .returned (.tuple #[.int .u64 r.1, .agg (srcV r.2.1 A' c'), .int .i64 r.2.2]) ∧ Rd .u8 w' w'.heap.size A' s.tape.length s.tape ∧ s.tape.length ≤ c' ∧ c' ≤ maxLen ∧ Sep w A A' ∧ Below w.heap.size w w'
def DrL (w0 : World) (g3 g7 : Nat) (s : Src) (k : Nat) (n : Int) (a : Nat) (A0 : Option Addr) (Z : Array Value) (i : Nat) (w : World) : Prop :=
  ∃ si Ai ci, drawGo k n a s = drawGo k n (a - i) si ∧ si.Ok ∧ si.tape = s.tape ∧ DrS w0 g3 g7 (srcV si Ai ci) Ai s.tape.length s.tape w ∧ Fx [.blk g7 28 Z] w ∧ Sep w0 A0 Ai ∧ s.tape.length ≤ ci ∧ ci ≤ maxLen
end
section
open Go.ChangeShapes Go.WideShapes Go.ChangeAt Go.RowKit
theorem fx1 {w : World} {g : Nat} {t : TypeId} {cs : Array Value} (h : Blk w g t cs) : Fx [.blk g t cs] w := ⟨h, trivial⟩
theorem sep_from {w w' : World} {A B : Option Addr} (h : Sep w' A B) (hs : w.heap.size ≤ w'.heap.size) : Sep w A B := (Sep.refl w A).trans h hs
theorem draw_in (s : Src) (n a : Int) : 0 ≤ (drawR s n a).1 ∧ (drawR s n a).1 < 18446744073709551616 := by
  unfold drawR
  split
  · exact drawGo_val _ _ _ _
  · exact ⟨Int.le_refl _, by show (0 : Int) < 18446744073709551616; omega⟩
def RetLead (w : World) (s : Src) (A : Option Addr) (r : Int × Src × Int) (e : Ending) (w' : World) : Prop :=
  ∃ A' c', e = .returned (.tuple #[.int .i64 r.1, .agg (srcV r.2.1 A' c'), .int .i64 r.2.2]) ∧ Rd .u8 w' w'.heap.size A' s.tape.length s.tape ∧ s.tape.length ≤ c' ∧ c' ≤ maxLen ∧ Sep w A A' ∧ Below w.heap.size w w'
end
section
open Go.ChangeShapes Go.WideShapes Go.ChangeAt Go.RowKit
def ledGo (l : List Int) (r : Int × Src × Int) : Int × Src × Int := if r.2.2 = 0 then (ownV l r.1, r.2.1, 0) else (0, r.2.1, r.2.2)
def ledT (l : List Int) (s : Src) (a : Int) : Int × Src × Int := if sumL l = 0 then (0, s, 10) else ledGo l (drawR s (sumL l) a)
def ledR (l : List Int) (s : Src) (a : Int) : Int × Src × Int := if sumL l < 9223372036854775808 then ledT l s a else (0, s, 11)
theorem led_big {l : List Int} (s : Src) (a : Int) (h : ¬ sumL l < 9223372036854775808) : ledR l s a = (0, s, 11) := if_neg h
theorem led_ok {l : List Int} (s : Src) (a : Int) (h : sumL l < 9223372036854775808) : ledR l s a = ledT l s a := if_pos h
theorem ledT_zero {l : List Int} (s : Src) (a : Int) (h : sumL l = 0) : ledT l s a = (0, s, 10) := if_pos h
theorem ledT_go {l : List Int} (s : Src) (a : Int) (h : sumL l ≠ 0) : ledT l s a = ledGo l (drawR s (sumL l) a) := if_neg h
theorem ledT_in (l : List Int) (s : Src) (a : Int) (ok : s.Ok) : (ledT l s a).2.1.Ok ∧ (ledT l s a).2.1.tape = s.tape := by
  unfold ledT ledGo
  split
  · exact ⟨ok, rfl⟩
  · split
    · exact ⟨drawT_ok s _ a ok, drawT_tape s _ a⟩
    · exact ⟨drawT_ok s _ a ok, drawT_tape s _ a⟩
theorem ledT_ok {l : List Int} (hz : ∀ z ∈ l, 0 ≤ z) (s : Src) (a : Int) (h : (ledT l s a).2.2 = 0) : ∃ k, k < l.length ∧ (ledT l s a).1 = (k : Int) ∧ 0 < l.getD k 0 ∧ s.at_ ≤ (ledT l s a).2.1.at_ := by
  unfold ledT ledGo at h ⊢
  by_cases h1 : sumL l = 0
  · rw [if_pos h1] at h
    exact absurd h (show ¬ ((10 : Int) = 0) by decide)
  · rw [if_neg h1] at h ⊢
    by_cases h2 : (drawR s (sumL l) a).2.2 = 0
    · rw [if_pos h2]
      have hx := draw_in s (sumL l) a
      unfold drawR at h2 hx ⊢
      by_cases hb : drawB s (sumL l) a = true
      · rw [if_pos hb] at h2 hx ⊢
        obtain ⟨e1, j, _, e2, _⟩ := drawGo_first _ _ _ _ h2
        obtain ⟨k, f1, f2, _, f4, f5⟩ := own_at hz hx.1 e1
        have := preL_next (l := l) (n := k) f1
        refine ⟨k, f1, f2, by omega, ?_⟩
        rw [e2]
        show s.at_ ≤ s.at_ + _
        omega
      · rw [if_neg hb] at h2
        exact absurd h2 (by show ¬ ((1 : Int) = 0); decide)
    · rw [if_neg h2] at h
      exact absurd h h2
end
section
def comGo (a : Int) : Nat → List Int → Src → List Int × Src × Int
  | 0, _, s => ([], s, 0)
  | c + 1, l, s =>
    if (ledR l s a).2.2 = 0 then
      (if (comGo a c (l.set (ledR l s a).1.toNat 0) (ledR l s a).2.1).2.2 = 0 then ((ledR l s a).1 :: (comGo a c (l.set (ledR l s a).1.toNat 0) (ledR l s a).2.1).1, (comGo a c (l.set (ledR l s a).1.toNat 0) (ledR l s a).2.1).2.1, 0)
        else ([], (comGo a c (l.set (ledR l s a).1.toNat 0) (ledR l s a).2.1).2.1, (comGo a c (l.set (ledR l s a).1.toNat 0) (ledR l s a).2.1).2.2))
    else ([], (ledR l s a).2.1, (ledR l s a).2.2)
def comB (c : Int) (s : Src) (a : Int) : Bool := rightS s && decide (0 ≤ c ∧ c ≤ 256 ∧ 1 ≤ a ∧ a ≤ 64)
def comR (l : List Int) (c : Int) (s : Src) (a : Int) : List Int × Src × Int := if comB c s a = true then (if (posL l : Int) < c then ([], s, 12) else comGo a c.toNat l s) else ([], s, 1)
def comL (l : List Int) (c : Int) (s : Src) (a : Int) : List Int × Src × Int := if sumL l < 9223372036854775808 then comR l c s a else ([], s, 11)
section
variable {a : Int} {c : Nat} {l : List Int} {s : Src}
theorem comGo_zero : comGo a 0 l s = ([], s, 0) := rfl
theorem comGo_no (h : (ledR l s a).2.2 ≠ 0) : comGo a (c + 1) l s = ([], (ledR l s a).2.1, (ledR l s a).2.2) := by rw [comGo, if_neg h]
theorem comGo_on (h : (ledR l s a).2.2 = 0) (h2 : (comGo a c (l.set (ledR l s a).1.toNat 0) (ledR l s a).2.1).2.2 = 0) : comGo a (c + 1) l s = ((ledR l s a).1 :: (comGo a c (l.set (ledR l s a).1.toNat 0) (ledR l s a).2.1).1, (comGo a c (l.set (ledR l s a).1.toNat 0) (ledR l s a).2.1).2.1, 0) := by rw [comGo, if_pos h, if_pos h2]
theorem comGo_off (h : (ledR l s a).2.2 = 0) (h2 : (comGo a c (l.set (ledR l s a).1.toNat 0) (ledR l s a).2.1).2.2 ≠ 0) : comGo a (c + 1) l s = ([], (comGo a c (l.set (ledR l s a).1.toNat 0) (ledR l s a).2.1).2.1, (comGo a c (l.set (ledR l s a).1.toNat 0) (ledR l s a).2.1).2.2) := by rw [comGo, if_pos h, if_neg h2]
end
theorem comGo_err (a : Int) : ∀ (c : Nat) (l : List Int) (s : Src), (comGo a c l s).2.2 ≠ 0 → (comGo a c l s).1 = []
  | 0, l, s, h => absurd rfl h
  | c + 1, l, s, h => by
    by_cases h1 : (ledR l s a).2.2 = 0
    · by_cases h2 : (comGo a c (l.set (ledR l s a).1.toNat 0) (ledR l s a).2.1).2.2 = 0
      · rw [comGo_on h1 h2] at h
        exact absurd rfl h
      · rw [comGo_off h1 h2]
    · rw [comGo_no h1]
theorem ledR_sum {l : List Int} {s : Src} {a : Int} (h : (ledR l s a).2.2 = 0) : sumL l < 9223372036854775808 := by
  by_cases h1 : sumL l < 9223372036854775808
  · exact h1
  · rw [led_big s a h1] at h
    exact absurd h (by show ¬ (11 : Int) = 0; decide)
theorem ledR_ok {l : List Int} (hz : ∀ z ∈ l, 0 ≤ z) {s : Src} {a : Int} (h : (ledR l s a).2.2 = 0) : ∃ k, k < l.length ∧ (ledR l s a).1 = (k : Int) ∧ 0 < l.getD k 0 ∧ s.at_ ≤ (ledR l s a).2.1.at_ := by
  have hs := ledR_sum h
  rw [led_ok s a hs] at h ⊢
  exact ledT_ok hz s a h
theorem set_nn {l : List Int} (hz : ∀ z ∈ l, 0 ≤ z) (k : Nat) : ∀ z ∈ l.set k 0, 0 ≤ z := fun z h => by
  rcases List.mem_or_eq_of_mem_set h with h | h
  · exact hz z h
  · rw [h]; exact Int.le_refl _
theorem set_getDc {l : List Int} {k j : Nat} (hk : k < l.length) : (l.set k 0).getD j 0 = if j = k then 0 else l.getD j 0 := by
  by_cases h : j = k
  · subst h
    rw [if_pos rfl, List.getD_eq_getElem?_getD, List.getElem?_set_self hk]
    rfl
  · rw [if_neg h, List.getD_eq_getElem?_getD, List.getElem?_set_ne (fun e => h e.symm), ← List.getD_eq_getElem?_getD]
theorem comGo_src (a : Int) : ∀ (c : Nat) (l : List Int) (s : Src), s.Ok → (comGo a c l s).2.1.Ok ∧ (comGo a c l s).2.1.tape = s.tape
  | 0, l, s, ok => ⟨ok, rfl⟩
  | c + 1, l, s, ok => by
    have hL : (ledR l s a).2.1.Ok ∧ (ledR l s a).2.1.tape = s.tape := by
      unfold ledR
      split
      · exact ledT_in l s a ok
      · exact ⟨ok, rfl⟩
    by_cases h1 : (ledR l s a).2.2 = 0
    · have ih := comGo_src a c (l.set (ledR l s a).1.toNat 0) (ledR l s a).2.1 hL.1
      by_cases h2 : (comGo a c (l.set (ledR l s a).1.toNat 0) (ledR l s a).2.1).2.2 = 0
      · rw [comGo_on h1 h2]
        exact ⟨ih.1, ih.2.trans hL.2⟩
      · rw [comGo_off h1 h2]
        exact ⟨ih.1, ih.2.trans hL.2⟩
    · rw [comGo_no h1]
      exact hL
end
section

end
section

end
section

end
section
def wayD (k st lost : Nat) (g : Nat → Nat) : Nat → Nat → Nat
  | 0, _ => 0
  | a + 1, r => if k ≤ r then st * g (r - k) + lost * wayD k st lost g a (r - k) else 0
def memB (l : List Int) (i : Int) : Prop := 0 ≤ i ∧ i < (l.length : Int) ∧ 0 < l.getD i.toNat 0
instance (l : List Int) (i : Int) : Decidable (memB l i) := inferInstanceAs (Decidable (_ ∧ _ ∧ _))
def wayN (m : Nat) : List Int → List Int → Nat → Nat
  | [], _, r => 2 ^ r
  | i :: M, l, r => if memB l i then wayD (needN (sumL l)) (l.getD i.toNat 0).toNat (2 ^ needN (sumL l) - (sumL l).toNat) (wayN m M (l.set i.toNat 0)) m r else 0
theorem need_pow {n : Int} (h : 1 ≤ n) (h2 : n < 9223372036854775808) : needN n ≤ 63 ∧ n.toNat ≤ 2 ^ needN n := by
  by_cases h1 : n = 1
  · subst h1; exact ⟨by decide, by decide⟩
  · have e : needN n = (n - 1).toNat.log2 + 1 := by
      unfold needN Wd.bitsL
      rw [if_neg (by omega), if_neg (by omega)]
    obtain ⟨x, hx⟩ : ∃ x, (n - 1).toNat = x := ⟨_, rfl⟩
    rw [hx] at e
    have h3 := Nat.log2_self_le (n := x) (by omega)
    have h4 := Nat.lt_log2_self (n := x)
    rw [e]
    refine ⟨?_, by omega⟩
    rcases Nat.lt_or_ge x.log2 63 with h5 | h5
    · omega
    · have h6 : 9223372036854775808 ≤ 2 ^ x.log2 := Nat.le_trans (by decide) (Nat.pow_le_pow_right (n := 2) (by omega) h5)
      omega
theorem sum_ge {l : List Int} (hz : ∀ z ∈ l, 0 ≤ z) {k : Nat} (hk : k < l.length) : l.getD k 0 ≤ sumL l := by
  have h1 := preL_next hk
  have h2 := preL_nn hz k
  have h3 := preL_le hz (k + 1)
  omega
theorem sum_set {l : List Int} (hz : ∀ z ∈ l, 0 ≤ z) (k : Nat) : sumL (l.set k 0) ≤ sumL l := by
  by_cases hk : k < l.length
  · have h := preL_set (l := l) 0 hk l.length
    have e1 : preL (l.set k 0) l.length = sumL (l.set k 0) := by
      have := preL_all (l.set k 0)
      rwa [List.length_set] at this
    rw [e1, preL_all, if_pos hk] at h
    have := hz _ (getD_in hk)
    omega
  · rw [List.set_eq_of_length_le (by omega)]
    exact Int.le_refl _
end
section
def Lim (l : List Int) : Prop := ∀ z ∈ l, 0 ≤ z ∧ z < 4294967296
def valL : List Int → Nat
  | [] => 0
  | x :: l => x.toNat + 4294967296 * valL l
def trimL : List Int → List Int
  | [] => []
  | x :: l => if trimL l = [] ∧ x = 0 then [] else x :: trimL l
def natL (n : Nat) : List Int := if h : n = 0 then [] else ((n % 4294967296 : Nat) : Int) :: natL (n / 4294967296)
  termination_by n
  decreasing_by exact Nat.div_lt_self (by omega) (by omega)
theorem natL_zero : natL 0 = [] := by rw [natL]; rfl
theorem natL_pos {n : Nat} (h : n ≠ 0) : natL n = ((n % 4294967296 : Nat) : Int) :: natL (n / 4294967296) := by rw [natL, dif_neg h]
theorem Lim.nil : Lim [] := fun z h => by cases h
theorem Lim.cons {x : Int} {l : List Int} (h : 0 ≤ x ∧ x < 4294967296) (hl : Lim l) : Lim (x :: l) := fun z hz => by
  rcases List.mem_cons.1 hz with rfl | hz
  · exact h
  · exact hl z hz
theorem Lim.hd {x : Int} {l : List Int} (h : Lim (x :: l)) : 0 ≤ x ∧ x < 4294967296 := h x (by simp)
theorem Lim.tl {x : Int} {l : List Int} (h : Lim (x :: l)) : Lim l := fun z hz => h z (by simp [hz])
theorem Lim.app {l m : List Int} (hl : Lim l) (hm : Lim m) : Lim (l ++ m) := fun z hz => by
  rcases List.mem_append.1 hz with h | h
  · exact hl z h
  · exact hm z h
theorem Lim.take {l : List Int} (h : Lim l) (k : Nat) : Lim (l.take k) := fun z hz => h z (List.mem_of_mem_take hz)
theorem Lim.drop {l : List Int} (h : Lim l) (k : Nat) : Lim (l.drop k) := fun z hz => h z (List.mem_of_mem_drop hz)
theorem Lim.getD {l : List Int} (h : Lim l) (k : Nat) : 0 ≤ l.getD k 0 ∧ l.getD k 0 < 4294967296 := by
  rw [List.getD_eq_getElem?_getD]
  by_cases hk : k < l.length
  · rw [List.getElem?_eq_getElem hk]; exact h _ (List.getElem_mem hk)
  · rw [List.getElem?_eq_none (by omega)]; exact ⟨Int.le_refl _, by show (0 : Int) < 4294967296; omega⟩
theorem Lim.set {l : List Int} (h : Lim l) (k : Nat) {x : Int} (hx : 0 ≤ x ∧ x < 4294967296) : Lim (l.set k x) := fun z hz => by
  rcases List.mem_or_eq_of_mem_set hz with h1 | rfl
  · exact h z h1
  · exact hx
theorem Lim.rep (n : Nat) : Lim (List.replicate n 0) := fun z hz => by rw [List.eq_of_mem_replicate hz]; omega
theorem natL_lim (n : Nat) : Lim (natL n) := by
  induction n using Nat.strongRecOn with
  | ind n ih =>
    by_cases h : n = 0
    · subst h; rw [natL_zero]; exact Lim.nil
    · rw [natL_pos h]
      exact Lim.cons (by omega) (ih _ (Nat.div_lt_self (by omega) (by omega)))
theorem natL_val (n : Nat) : valL (natL n) = n := by
  induction n using Nat.strongRecOn with
  | ind n ih =>
    by_cases h : n = 0
    · subst h; rw [natL_zero]; rfl
    · rw [natL_pos h, valL, ih _ (Nat.div_lt_self (by omega) (by omega)), Int.toNat_natCast]
      omega
theorem natL_ne {n : Nat} (h : n ≠ 0) : natL n ≠ [] := by rw [natL_pos h]; simp
theorem natL_nil {n : Nat} (h : natL n = []) : n = 0 := Decidable.byContradiction fun hn => natL_ne hn h
theorem trimL_natL (n : Nat) : trimL (natL n) = natL n := by
  induction n using Nat.strongRecOn with
  | ind n ih =>
    by_cases h : n = 0
    · subst h; rw [natL_zero]; rfl
    · rw [natL_pos h, trimL, ih _ (Nat.div_lt_self (by omega) (by omega)), if_neg]
      rintro ⟨h1, h2⟩
      have := natL_nil h1
      omega
theorem trimL_eq {l : List Int} (h : Lim l) : trimL l = natL (valL l) := by
  induction l with
  | nil => rw [valL, natL_zero]; rfl
  | cons x l ih =>
    have hx := h.hd
    rw [trimL, ih h.tl]
    by_cases hz : valL (x :: l) = 0
    · have h1 : valL l = 0 := by rw [valL] at hz; omega
      have h2 : x = 0 := by rw [valL] at hz; omega
      rw [hz, h1, natL_zero, if_pos ⟨rfl, h2⟩]
    · rw [natL_pos hz]
      have e1 : valL (x :: l) % 4294967296 = x.toNat := by rw [valL]; omega
      have e2 : valL (x :: l) / 4294967296 = valL l := by rw [valL]; omega
      rw [e1, e2, Int.toNat_of_nonneg hx.1, if_neg]
      rintro ⟨h1, h2⟩
      have h3 := natL_nil h1
      apply hz
      rw [valL, h3, h2]
      rfl
theorem valL_app (l m : List Int) : valL (l ++ m) = valL l + 4294967296 ^ l.length * valL m := by
  induction l with
  | nil => simp [valL]
  | cons x l ih =>
    rw [List.cons_append, valL, valL, ih, List.length_cons, Nat.pow_succ, Nat.mul_add, Nat.mul_comm (4294967296 ^ l.length) 4294967296, Nat.mul_assoc]
    omega
theorem valL_lt {l : List Int} (h : Lim l) : valL l < 4294967296 ^ l.length := by
  induction l with
  | nil => exact Nat.one_pos
  | cons x l ih =>
    have h1 := ih h.tl
    have h2 := h.hd
    rw [valL, List.length_cons, Nat.pow_succ, Nat.mul_comm]
    generalize 4294967296 ^ l.length = p at *
    omega
theorem valL_rep (n : Nat) : valL (List.replicate n 0) = 0 := by
  induction n with
  | zero => rfl
  | succ n ih => rw [List.replicate_succ, valL, ih]; rfl
theorem valL_take_drop (l : List Int) (k : Nat) (hk : k ≤ l.length) : valL l = valL (l.take k) + 4294967296 ^ k * valL (l.drop k) := by
  conv => lhs; rw [← List.take_append_drop k l, valL_app]
  rw [List.length_take, Nat.min_eq_left hk]
theorem valL_drop_getD (l : List Int) (k : Nat) : valL (l.drop k) = (l.getD k 0).toNat + 4294967296 * valL (l.drop (k + 1)) := by
  by_cases hk : k < l.length
  · rw [List.drop_eq_getElem_cons hk, valL, List.getD_eq_getElem?_getD, List.getElem?_eq_getElem hk]
    rfl
  · rw [List.drop_eq_nil_of_le (by omega), List.drop_eq_nil_of_le (by omega), List.getD_eq_getElem?_getD, List.getElem?_eq_none (by omega)]
    rfl
theorem valL_take_succ (l : List Int) (k : Nat) (hk : k < l.length) : valL (l.take (k + 1)) = valL (l.take k) + 4294967296 ^ k * (l.getD k 0).toNat := by
  rw [List.take_add_one, valL_app, List.getElem?_eq_getElem hk, List.length_take, Nat.min_eq_left (by omega), List.getD_eq_getElem?_getD, List.getElem?_eq_getElem hk]
  show _ + _ * ((l[k]).toNat + 4294967296 * 0) = _ + _ * (l[k]).toNat
  rw [Nat.mul_zero, Nat.add_zero]
theorem valL_set (l : List Int) (k : Nat) (x : Int) (hk : k < l.length) : valL (l.set k x) + 4294967296 ^ k * (l.getD k 0).toNat = valL l + 4294967296 ^ k * x.toNat := by
  induction l generalizing k with
  | nil => cases hk
  | cons y l ih =>
    cases k with
    | zero =>
      show x.toNat + 4294967296 * valL l + 1 * y.toNat = y.toNat + 4294967296 * valL l + 1 * x.toNat
      omega
    | succ k =>
      have h := ih k (by simpa using hk)
      show y.toNat + 4294967296 * valL (l.set k x) + 4294967296 ^ (k + 1) * (l.getD k 0).toNat = y.toNat + 4294967296 * valL l + 4294967296 ^ (k + 1) * x.toNat
      rw [Nat.pow_succ, Nat.mul_comm (4294967296 ^ k) 4294967296, Nat.mul_assoc, Nat.mul_assoc]
      generalize 4294967296 ^ k * (l.getD k 0).toNat = p at *
      generalize 4294967296 ^ k * x.toNat = q at *
      omega
def lastOk (l : List Int) : Bool := match l.getLast? with
  | none => true
  | some x => x != 0
def rightN (l : List Int) : Bool := decide (l.length ≤ 256) && lastOk l
theorem lastOk_can {l : List Int} : lastOk l = true ↔ trimL l = l := by
  induction l with
  | nil => exact ⟨fun _ => rfl, fun _ => rfl⟩
  | cons x l ih =>
    cases l with
    | nil =>
      show (x != 0) = true ↔ (if ([] : List Int) = [] ∧ x = 0 then [] else [x]) = [x]
      by_cases hx : x = 0
      · simp [hx]
      · simp [hx]
    | cons y l =>
      have e : lastOk (x :: y :: l) = lastOk (y :: l) := by simp [lastOk, List.getLast?_cons_cons]
      rw [e, ih, show trimL (x :: y :: l) = (if trimL (y :: l) = [] ∧ x = 0 then [] else x :: trimL (y :: l)) from rfl]
      constructor
      · intro h; rw [h, if_neg (by rintro ⟨h1, _⟩; cases h1)]
      · intro h
        split at h
        · cases h
        · injection h
theorem can_eq {l : List Int} (h : Lim l) (hc : lastOk l = true) : l = natL (valL l) := by rw [← trimL_eq h, lastOk_can.1 hc]
theorem natL_ok (n : Nat) : lastOk (natL n) = true := lastOk_can.2 (trimL_natL n)
theorem natL_len (n k : Nat) : (natL n).length ≤ k ↔ n < 4294967296 ^ k := by
  induction k generalizing n with
  | zero =>
    rw [Nat.pow_zero]
    by_cases h : n = 0
    · subst h; rw [natL_zero]; simp
    · have := natL_ne h
      have h2 : (natL n).length ≠ 0 := fun h3 => this (List.eq_nil_of_length_eq_zero h3)
      constructor
      · omega
      · omega
  | succ k ih =>
    by_cases h : n = 0
    · subst h
      rw [natL_zero]
      exact ⟨fun _ => Nat.pow_pos (by omega), fun _ => by simp⟩
    · rw [natL_pos h, List.length_cons, Nat.pow_succ, Nat.succ_le_succ_iff, ih, Nat.div_lt_iff_lt_mul (by omega)]
theorem trimL_len (l : List Int) : (trimL l).length ≤ l.length := by
  induction l with
  | nil => exact Nat.le_refl _
  | cons x l ih =>
    rw [trimL]
    split
    · simp
    · simp [ih]
theorem trimL_take (l : List Int) : trimL l = l.take (trimL l).length := by
  induction l with
  | nil => rfl
  | cons x l ih =>
    rw [trimL]
    split
    · rfl
    · rw [List.length_cons, List.take_succ_cons, ← ih]
theorem trimL_snoc_zero (l : List Int) : trimL (l ++ [0]) = trimL l := by
  induction l with
  | nil => rfl
  | cons x l ih => rw [List.cons_append, trimL, ih, trimL]
end
section
open Go.ChangeShapes Go.WideShapes Go.ChangeAt Go.RowKit
theorem info_u32d : (Tryz.prog.info? 62).map (fun i => (i.zero, i.size, i.bytes)) = some (some (.int .u32 0), 1, 4) := by kernel_rfl
def RetN (w : World) (zs : List Int) (e : Ending) (w' : World) : Prop := ∃ A c, e = .returned (.slice A zs.length c) ∧ zs.length ≤ c ∧ c ≤ maxLen ∧ Rd .u32 w' w'.heap.size A zs.length zs ∧ Below w.heap.size w w'
theorem ret_boolN {p q : Bool} (h : p = q) : Ending.returned (.bool p) = .returned (.bool q) := by rw [h]
theorem ret_slice {A : Option Addr} {n m c : Nat} (h : n = m) : Ending.returned (.slice A n c) = .returned (.slice A m c) := by rw [h]
theorem ret_sliceE {A : Option Addr} {n m c : Nat} {e : Int} (h : n = m) : Ending.returned (.tuple #[.slice A n c, .int .i64 e]) = .returned (.tuple #[.slice A m c, .int .i64 e]) := by rw [h]
theorem rd_two32 (w : World) (e : TypeId) (x y : Int) : Rd .u32 (w.alloc (.cells #[.int .u32 x, .int .u32 y] e)) (w.alloc (.cells #[.int .u32 x, .int .u32 y] e)).heap.size (some ⟨w.heap.size, 0, none⟩) 2 [x, y] := by
  refine ⟨rfl, fun _ => ⟨w.heap.size, 0, rfl, (Blk.new w e #[.int .u32 x, .int .u32 y]).lt, fun j hj => ?_⟩⟩
  have : j = 0 ∨ j = 1 := by omega
  rcases this with rfl | rfl
  · rw [(Blk.new w e #[.int .u32 x, .int .u32 y]).cell]; rfl
  · rw [(Blk.new w e #[.int .u32 x, .int .u32 y]).cell]; rfl
theorem rd_trim {w : World} {B n : Nat} {A : Option Addr} {zs : List Int} (h : Rd .u32 w B A n zs) : Rd .u32 w B A (trimL zs).length (trimL zs) := by
  have h1 := h.upto (j := (trimL zs).length) (by rw [← h.len]; exact trimL_len zs)
  rwa [← trimL_take] at h1
theorem rightN_big {l : List Int} (h : 256 < l.length) : rightN l = false := by unfold rightN; rw [decide_eq_false (by omega)]; rfl
theorem lastOk_at {l : List Int} {m : Nat} (h : l.length = m + 1) : lastOk l = (l.getD m 0 != 0) := by
  have e : l.getLast? = some (l.getD m 0) := by
    rw [List.getLast?_eq_getElem?, h, Nat.add_sub_cancel, List.getD_eq_getElem?_getD, List.getElem?_eq_getElem (by omega)]
    rfl
  unfold lastOk
  rw [e]
theorem rightN_at {l : List Int} {m : Nat} (h : l.length = m + 1) (hm : m + 1 ≤ 256) : rightN l = (l.getD m 0 != 0) := by
  unfold rightN
  rw [decide_eq_true (by omega), Bool.true_and, lastOk_at h]
theorem trimL_zero {l : List Int} {k : Nat} (h : k < l.length) (hz : l.getD k 0 = 0) : trimL (l.take k) = trimL (l.take (k + 1)) := by
  rw [List.take_add_one, List.getElem?_eq_getElem h]
  rw [List.getD_eq_getElem?_getD, List.getElem?_eq_getElem h] at hz
  have hz2 : l[k] = 0 := hz
  show _ = trimL (l.take k ++ [l[k]])
  rw [hz2, trimL_snoc_zero]
theorem trimL_stop {l : List Int} {k : Nat} (h : k < l.length) (hz : l.getD k 0 ≠ 0) : (trimL (l.take (k + 1))).length = k + 1 := by
  have hl : (l.take (k + 1)).length = k + 1 := by rw [List.length_take]; omega
  have e : (l.take (k + 1)).getD k 0 = l.getD k 0 := by
    rw [List.getD_eq_getElem?_getD, List.getD_eq_getElem?_getD, List.getElem?_take, if_pos (by omega)]
  have h1 : lastOk (l.take (k + 1)) = true := by
    rw [lastOk_at hl, e]
    simpa [bne] using hz
  rw [lastOk_can.1 h1, hl]
theorem carry_step (P p q r x y X Y : Nat) (h : p + 4294967296 * q = x + y + r) : P * p + P * 4294967296 * (q + X + Y) = P * (r + (x + 4294967296 * X) + (y + 4294967296 * Y)) := by
  rw [Nat.mul_assoc, ← Nat.mul_add]
  congr 1
  omega
theorem mul_step (P p q r o x y Y Vo Vn T : Nat) (h : p + 4294967296 * q = o + x * y + r) (hs : Vn + P * o = Vo + P * p) (hv : Vo + P * (r + x * (y + 4294967296 * Y)) = T) : Vn + P * 4294967296 * (q + x * Y) = T := by
  have h1 : P * (p + 4294967296 * q) = P * (o + x * y + r) := by rw [h]
  have h2 : P * (r + x * (y + 4294967296 * Y)) = P * r + P * (x * y) + P * (4294967296 * (x * Y)) := by
    rw [← Nat.mul_add, ← Nat.mul_add]
    congr 1
    rw [Nat.mul_add, Nat.mul_left_comm x 4294967296 Y]
    omega
  have h3 : P * 4294967296 * (q + x * Y) = P * (4294967296 * q) + P * (4294967296 * (x * Y)) := by rw [Nat.mul_assoc, ← Nat.mul_add, Nat.mul_add]
  rw [Nat.mul_add, Nat.mul_add, Nat.mul_add] at h1
  rw [h2] at hv
  rw [h3]
  generalize P * (4294967296 * (x * Y)) = a1 at *
  generalize P * (4294967296 * q) = a2 at *
  generalize P * (x * y) = a3 at *
  generalize P * p = a4 at *
  generalize P * o = a5 at *
  generalize P * r = a6 at *
  omega
theorem limb_zero {l : List Int} (h : Lim l) {j : Nat} (hv : valL l < 4294967296 ^ j) : l.getD j 0 = 0 := by
  by_cases hj : j < l.length
  · have h1 := valL_take_drop l j (by omega)
    rw [valL_drop_getD l j] at h1
    have h2 := h.getD j
    have h3 : (l.getD j 0).toNat = 0 := by
      rcases Nat.eq_zero_or_pos (l.getD j 0).toNat with h4 | h4
      · exact h4
      · have h5 := Nat.le_mul_of_pos_right (4294967296 ^ j) (show 0 < (l.getD j 0).toNat + 4294967296 * valL (l.drop (j + 1)) by omega)
        omega
    omega
  · rw [List.getD_eq_getElem?_getD, List.getElem?_eq_none (by omega)]; rfl
theorem mul_bound {x y : Nat} (hx : x < 4294967296) (hy : y < 4294967296) : x * y ≤ 18446744065119617025 := Nat.mul_le_mul (show x ≤ 4294967295 by omega) (show y ≤ 4294967295 by omega)
theorem intsA_set32 (zs : List Int) (j : Nat) (z : Int) : (intsA .u32 zs).setIfInBounds j (.int .u32 z) = intsA .u32 (zs.set j z) := by simp [intsA, List.map_set]
theorem size_u32s : (Tryz.prog.info? 62).map (·.size) = some 1 := by kernel_rfl
def NatS (w : World) (g : Nat) (out : List Int) (w' : World) : Prop := Blk w' g 62 (intsA .u32 out) ∧ w.heap.size ≤ g ∧ Below w.heap.size w w'
theorem NatS.blk {w w' : World} {g : Nat} {out : List Int} (h : NatS w g out w') : Blk w' g 62 (intsA .u32 out) := h.1
theorem NatS.bel {w w' : World} {g : Nat} {out : List Int} (h : NatS w g out w') : Below w.heap.size w w' := h.2.2
theorem NatS.drew {w w' : World} {g : Nat} {out : List Int} (h : NatS w g out w') : NatS w g out w'.drew := ⟨h.1, h.2.1, h.2.2.trans ((Below.refl _ _).drew)⟩
theorem NatS.drewN {w w' : World} {g : Nat} {out : List Int} (h : NatS w g out w') (n : Nat) : NatS w g out (w'.drewN n) := ⟨h.1, h.2.1, below_drewN h.2.2 n⟩
theorem NatS.below {w w' w'' : World} {g : Nat} {out : List Int} (h : NatS w g out w') (hb : Below w'.heap.size w' w'') : NatS w g out w'' := ⟨h.1.below hb h.1.lt, h.2.1, h.2.2.trans (hb.mono h.2.2.size)⟩
theorem NatS.set {w w' w'' : World} {g j : Nat} {out : List Int} {z : Int} (h : NatS w g out w') (hk : Blk w'' g 62 ((intsA .u32 out).setIfInBounds j (.int .u32 z))) (ho : Only g w' w'') : NatS w g (out.set j z) w'' := ⟨by rw [← intsA_set32]; exact hk, h.2.1, h.2.2.trans (ho.below h.2.1 h.2.2.size)⟩
theorem NatS.rd {w w' : World} {g : Nat} {out : List Int} (h : NatS w g out w') : Rd .u32 w' w'.heap.size (some ⟨g, 0, none⟩) out.length out := ⟨rfl, fun _ => ⟨g, 0, rfl, h.1.lt, fun j hj => by rw [h.1.cell, Nat.zero_add, intsA_at _ _ _ hj]⟩⟩
theorem NatS.at_ {w w' : World} {g : Nat} {out : List Int} (h : NatS w g out w') {j : Nat} (hj : j < out.length) : w'.cell? ⟨g, j, none⟩ = some (.int .u32 (out.getD j 0)) := by rw [h.1.cell, intsA_at _ _ _ hj]
theorem nat_lt {out : List Int} {j : Nat} (hj : j < out.length) : j < (intsA .u32 out).size := by rw [intsA_size]; exact hj
end
section
open Go.ChangeShapes Go.WideShapes Go.ChangeAt Go.RowKit
structure NRow where
  A : Option Addr
  n : Nat
  c : Nat
  zs : List Int
def NRow.val (r : NRow) : Value := .slice r.A r.n r.c
def RdNs (w : World) (B : Nat) (A : Option Addr) (n : Nat) (rs : List NRow) : Prop :=
  rs.length = n ∧ (0 < n → ∃ b off, A = some ⟨b, off, none⟩ ∧ b < B ∧ ∀ (j : Nat) (r : NRow), rs[j]? = some r → w.cell? ⟨b, off + j, none⟩ = some r.val) ∧ ∀ r ∈ rs, Rd .u32 w B r.A r.n r.zs ∧ r.n ≤ r.c ∧ r.c ≤ maxLen ∧ Lim r.zs
theorem RdNs.below {w w' : World} {B n : Nat} {A : Option Addr} {rs : List NRow} (h : RdNs w B A n rs) (hb : Below B w w') : RdNs w' B A n rs :=
  ⟨h.1, fun hn => by
    obtain ⟨b, off, e, hlt, hc⟩ := h.2.1 hn
    exact ⟨b, off, e, hlt, fun j r hj => (hb.cell (p := ⟨b, off + j, none⟩) hlt).trans (hc j r hj)⟩, fun r hr => ⟨(h.2.2 r hr).1.below hb, (h.2.2 r hr).2⟩⟩
theorem RdNs.mono {w : World} {B B' n : Nat} {A : Option Addr} {rs : List NRow} (h : RdNs w B A n rs) (hB : B ≤ B') : RdNs w B' A n rs :=
  ⟨h.1, fun hn => by
    obtain ⟨b, off, e, hlt, hc⟩ := h.2.1 hn
    exact ⟨b, off, e, by omega, hc⟩, fun r hr => ⟨(h.2.2 r hr).1.mono hB, (h.2.2 r hr).2⟩⟩
theorem RdNs.to {w w' : World} {n : Nat} {A : Option Addr} {rs : List NRow} (h : RdNs w w.heap.size A n rs) (hb : Below w.heap.size w w') : RdNs w' w'.heap.size A n rs := (h.below hb).mono hb.size
theorem RdNs.row {w : World} {B n : Nat} {A : Option Addr} {rs : List NRow} (h : RdNs w B A n rs) {j : Nat} (hj : j < n) : ∃ r b off, rs[j]? = some r ∧ A = some ⟨b, off, none⟩ ∧ w.cell? ⟨b, off + j, none⟩ = some (.slice r.A r.n r.c) ∧ Rd .u32 w B r.A r.n r.zs ∧ r.n ≤ r.c ∧ r.c ≤ maxLen ∧ Lim r.zs ∧ rs.drop j = r :: rs.drop (j + 1) := by
  have hl : j < rs.length := by rw [h.1]; exact hj
  obtain ⟨b, off, e, _, hc⟩ := h.2.1 (by omega)
  have hr := h.2.2 _ (List.getElem_mem hl)
  exact ⟨rs[j], b, off, List.getElem?_eq_getElem hl, e, hc j _ (List.getElem?_eq_getElem hl), hr.1, hr.2.1, hr.2.2.1, hr.2.2.2, List.drop_eq_getElem_cons hl⟩
def allN (rs : List NRow) : Bool := rs.all fun r => rightN r.zs
def addGo : Nat → List NRow → Int × List Int
  | s, [] => (0, natL s)
  | s, r :: l => if 256 < (natL (s + valL r.zs)).length then (11, []) else addGo (s + valL r.zs) l
def mulGo : Nat → List NRow → Int × List Int
  | s, [] => (0, natL s)
  | s, r :: l => if 256 < (natL (s * valL r.zs)).length then (11, []) else mulGo (s * valL r.zs) l
def addR (rs : List NRow) : Int × List Int := if allN rs = true then addGo 0 rs else (1, [])
def mulR (rs : List NRow) : Int × List Int := if allN rs = true then mulGo 1 rs else (1, [])
theorem allN_zs {rs rs' : List NRow} (h : rs.map (·.zs) = rs'.map (·.zs)) : allN rs = allN rs' := by
  unfold allN
  have e : ∀ l : List NRow, (l.all fun r => rightN r.zs) = (l.map (·.zs)).all rightN := fun l => by rw [List.all_map]; rfl
  rw [e, e, h]
theorem mulGo_zs {rs rs' : List NRow} (h : rs.map (·.zs) = rs'.map (·.zs)) (s : Nat) : mulGo s rs = mulGo s rs' := by
  induction rs generalizing rs' s with
  | nil => cases rs' with
    | nil => rfl
    | cons r l => cases h
  | cons r l ih => cases rs' with
    | nil => cases h
    | cons r' l' =>
      rw [List.map_cons, List.map_cons] at h
      injection h with h1 h2
      rw [mulGo, mulGo, h1, ih h2]
theorem mulR_zs {rs rs' : List NRow} (h : rs.map (·.zs) = rs'.map (·.zs)) : mulR rs = mulR rs' := by unfold mulR; rw [allN_zs h, mulGo_zs h]
theorem rightN_len {l : List Int} (h : rightN l = true) : l.length ≤ 256 := by
  unfold rightN at h
  rw [Bool.and_eq_true] at h
  exact of_decide_eq_true h.1
theorem rightN_natL {n : Nat} (h : (natL n).length ≤ 256) : rightN (natL n) = true := by unfold rightN; rw [decide_eq_true h, natL_ok]; rfl
def RetNE (w : World) (r : Int × List Int) (e : Ending) (w' : World) : Prop := ∃ A c, e = .returned (.tuple #[.slice A r.2.length c, .int .i64 r.1]) ∧ r.2.length ≤ c ∧ c ≤ maxLen ∧ Rd .u32 w' w'.heap.size A r.2.length r.2 ∧ Below w.heap.size w w'
theorem RetNE.nil {w w' : World} (e : Int) (hb : Below w.heap.size w w') : RetNE w (e, []) (.returned (.tuple #[.slice none 0 0, .int .i64 e])) w' := ⟨none, 0, rfl, Nat.le_refl _, by simp [maxLen], Rd.none_, hb⟩
def twoR (k : Int) : Int × List Int := if 0 ≤ k ∧ k ≤ 8191 then (0, natL (2 ^ k.toNat)) else (1, [])
theorem two_limbs (k : Nat) : List.replicate (k / 32) 0 ++ [((2 ^ (k % 32) : Nat) : Int)] = natL (2 ^ k) := by
  have hp : 2 ^ (k % 32) ≤ 2 ^ 31 := Nat.pow_le_pow_right (by omega) (by omega)
  have hp0 : 0 < 2 ^ (k % 32) := Nat.pow_pos (by omega)
  have hl : Lim (List.replicate (k / 32) 0 ++ [((2 ^ (k % 32) : Nat) : Int)]) := (Lim.rep _).app (Lim.cons ⟨by omega, by omega⟩ Lim.nil)
  have hv : valL (List.replicate (k / 32) 0 ++ [((2 ^ (k % 32) : Nat) : Int)]) = 2 ^ k := by
    rw [valL_app, valL_rep, List.length_replicate, Nat.zero_add, show (4294967296 : Nat) = 2 ^ 32 from rfl, ← Nat.pow_mul]
    show 2 ^ (32 * (k / 32)) * (((2 ^ (k % 32) : Nat) : Int).toNat + 4294967296 * 0) = 2 ^ k
    rw [Nat.mul_zero, Nat.add_zero, Int.toNat_natCast, ← Nat.pow_add]
    congr 1
    omega
  have ho : lastOk (List.replicate (k / 32) 0 ++ [((2 ^ (k % 32) : Nat) : Int)]) = true := by
    unfold lastOk
    rw [List.getLast?_append]
    show (((2 ^ (k % 32) : Nat) : Int) != 0) = true
    rw [bne_iff_ne]
    omega
  rw [can_eq hl ho, hv]
def rowOf (zs : List Int) : NRow := ⟨none, 0, 0, zs⟩
def powR (zs : List Int) (k : Int) : Int × List Int := if rightN zs = true ∧ 0 ≤ k ∧ k ≤ 64 then mulR (List.replicate k.toNat (rowOf zs)) else (1, [])
theorem rep_set (q : Nat) (x : Int) : (List.replicate (q + 1) 0).set q x = List.replicate q 0 ++ [x] := by
  rw [List.replicate_succ', List.set_append_right _ _ (by simp)]
  simp
theorem allN_step {rs : List NRow} {r : NRow} {k : Nat} (h : rs.drop k = r :: rs.drop (k + 1)) : allN (rs.drop k) = (rightN r.zs && allN (rs.drop (k + 1))) := by rw [h]; rfl
theorem allN_mem {rs : List NRow} (h : allN rs = true) {r : NRow} (hr : r ∈ rs) : rightN r.zs = true := List.all_eq_true.1 h r hr
theorem addGo_step {rs : List NRow} {r : NRow} {k s : Nat} (h : rs.drop k = r :: rs.drop (k + 1)) : addGo s (rs.drop k) = if 256 < (natL (s + valL r.zs)).length then (11, []) else addGo (s + valL r.zs) (rs.drop (k + 1)) := by rw [h]; rfl
theorem mulGo_step {rs : List NRow} {r : NRow} {k s : Nat} (h : rs.drop k = r :: rs.drop (k + 1)) : mulGo s (rs.drop k) = if 256 < (natL (s * valL r.zs)).length then (11, []) else mulGo (s * valL r.zs) (rs.drop (k + 1)) := by rw [h]; rfl
theorem drop_end {rs : List NRow} {n : Nat} (h : rs.length = n) : rs.drop n = [] := List.drop_eq_nil_of_le (by omega)
theorem natL_one : natL 1 = [1] := by rw [natL_pos (by omega)]; show [((1 % 4294967296 : Nat) : Int)] ++ natL (1 / 4294967296) = [1]; rw [show 1 / 4294967296 = 0 from rfl, natL_zero]; rfl
theorem info_nat : (Tryz.prog.info? 49).map (fun i => (i.zero, i.size, i.bytes)) = some (some (.slice none 0 0), 1, 24) := by kernel_rfl
theorem pow_two_le {i : Nat} (h : i ≤ 31) : 2 ^ i ≤ 2147483648 := Nat.pow_le_pow_right (n := 2) (by omega) h
theorem powR_zs {zs : List Int} {k : Nat} {rs : List NRow} (hr : rightN zs = true) (hk : k ≤ 64) (h : rs.map (·.zs) = List.replicate k zs) : mulR rs = powR zs (k : Int) := by
  unfold powR
  rw [if_pos ⟨hr, by omega, by omega⟩, Int.toNat_natCast]
  exact mulR_zs (by rw [h, List.map_replicate]; rfl)
theorem ext_getDN {l m : List Int} (h : l.length = m.length) (h2 : ∀ j, j < l.length → l.getD j 0 = m.getD j 0) : l = m := by
  apply List.ext_getElem h
  intro j h3 h4
  have h5 := h2 j h3
  simpa [List.getD_eq_getElem?_getD, List.getElem?_eq_getElem h3, List.getElem?_eq_getElem h4] using h5
end
section
open Go.ChangeShapes Go.WideShapes Go.ChangeAt Go.RowKit
def Frs (w : World) (A : Option Addr) : Prop := ∀ b off, A = some ⟨b, off, none⟩ → w.heap.size ≤ b
theorem Frs.none (w : World) : Frs w none := fun b off h => by cases h
theorem Frs.of_own {w w' : World} {e : TypeId} {k : IntKind} {A : Option Addr} {n c : Nat} {zs : List Int} (h : OwnI w' w.heap.size e k (.slice A n c) zs) : Frs w A := fun b off hA => by subst hA; exact h.block_ge b rfl
theorem Frs.apt {w : World} {A : Option Addr} {n g : Nat} (h : Frs w A) (hg : g < w.heap.size) : Apt n A g := fun b off _ hA => by have := h b off hA; omega
theorem Frs.from {w w' : World} {A : Option Addr} (h : Frs w' A) (hs : w.heap.size ≤ w'.heap.size) : Frs w A := fun b off hA => Nat.le_trans hs (h b off hA)
def RetComm (w : World) (s : Src) (A : Option Addr) (r : List Int × Src × Int) (e : Ending) (w' : World) : Prop :=
  ∃ A' c' AM cM, e = .returned (.tuple #[.slice AM r.1.length cM, .agg (srcV r.2.1 A' c'), .int .i64 r.2.2]) ∧ Rd .i64 w' w'.heap.size AM r.1.length r.1 ∧ r.1.length ≤ cM ∧ cM ≤ maxLen ∧ Frs w AM ∧ Rd .u8 w' w'.heap.size A' s.tape.length s.tape ∧ s.tape.length ≤ c' ∧ c' ≤ maxLen ∧ Sep w A A' ∧ Below w.heap.size w w'
def wayOk (M l : List Int) (bits m : Int) : Bool := decide (M.length ≤ 16 ∧ 0 ≤ bits ∧ bits ≤ 256 ∧ 1 ≤ m ∧ m ≤ 8)
def wayR (M : List Int) (bits m : Int) (l : List Int) : Int × List Int := if wayOk M l bits m = true then (if sumL l < 9223372036854775808 then (0, natL (wayN m.toNat M l bits.toNat)) else (11, [])) else (1, [])
end
section
open Go.ChangeShapes Go.WideShapes Go.ChangeAt Go.RowKit
section
variable {ops : Array Oper} {rest : List Oper} {o : Oper} {a : Act} {w : World} {Q : Exit → Act → World → Prop}
theorem run_build_int_2 (x y : Int) (w : World) : (Instr.buildSlice 31 2 #[(0, .int .i64 x), (1, .int .i64 y)]).run Tryz.prog w = .ok (.slice (some ⟨w.heap.size, 0, none⟩) 2 2) (w.alloc (.cells #[.int .i64 x, .int .i64 y] 3)) := by
  go_simp
theorem wpList_build2i (hw : Region.wanted o (yielded ops a.tmps) = true) (p q : Operand) (ho : o.op = .buildSlice 31 2 #[(0, p), (1, q)]) (x y : Int) (hp : a.eval p = .int .i64 x) (hq : a.eval q = .int .i64 y)
    (h : ∀ g w', Rd .i64 w' w'.heap.size (some ⟨g, 0, none⟩) 2 [x, y] → Below w.heap.size w w' → wpList Tryz.prog ops Q rest (a.put o.dst (.slice (some ⟨g, 0, none⟩) 2 2)) w') : wpList Tryz.prog ops Q (o :: rest) a w := by
  refine wpList_run_gd hw (.slice (some ⟨w.heap.size, 0, none⟩) 2 2) (w.alloc (.cells #[.int .i64 x, .int .i64 y] 3)) ?_ (h _ _ (rd_alloc w _ .i64 [x, y]) ((Below.refl _ _).alloc (Nat.le_refl _) _))
  have hr1 := run_build_int_2 x y w
  unfold execOp
  simp only [ho, List.map_toArray, List.map_cons, List.map_nil, hp, hq]
  change ((Instr.buildSlice 31 2 #[(0, .int .i64 x), (1, .int .i64 y)]) >>= fun v => pure (Next.value v)).run Tryz.prog w = _
  simp only [Sem.run_bind, hr1, Result.andThen_ok, Sem.run_pure]
end
theorem Fx.lit2i {l : List Fact} {w : World} (h : Fx l w) (x y : Int) : Fx (.rdb .i64 (w.alloc (.cells #[.int .i64 x, .int .i64 y] 3)).heap.size (some ⟨w.heap.size, 0, none⟩) 2 [x, y] :: l) (w.alloc (.cells #[.int .i64 x, .int .i64 y] 3)) :=
  Fx.addR h ((Below.refl _ _).alloc (Nat.le_refl _) _) (rd_alloc w _ .i64 [x, y])
theorem Fx.lit1n {l : List Fact} {w : World} (h : Fx l w) (x : Int) : Fx (.rdb .u32 (w.alloc (.cells #[.int .u32 x] 62)).heap.size (some ⟨w.heap.size, 0, none⟩) 1 [x] :: l) (w.alloc (.cells #[.int .u32 x] 62)) :=
  Fx.addR h ((Below.refl _ _).alloc (Nat.le_refl _) _) (rd_alloc w _ .u32 [x])
theorem com_uP {w w' : World} {s X : Src} {A : Option Addr} {M : List Int} {e : Int} {n : Nat} {E : Ending} (hn : M.length = n) (h : RetComm w s A (M, X, e) E w') :
    ∃ A' c' AM cM, E = .returned (.tuple #[.slice AM n cM, .agg (srcV X A' c'), .int .i64 e]) ∧ Rd .i64 w' w'.heap.size AM n M ∧ n ≤ cM ∧ cM ≤ maxLen ∧ Frs w AM ∧ Rd .u8 w' w'.heap.size A' s.tape.length s.tape ∧ s.tape.length ≤ c' ∧ c' ≤ maxLen ∧ Sep w A A' ∧ Below w.heap.size w w' := by
  subst hn
  exact h
end
section
open Go.ChangeShapes Go.WideShapes Go.ChangeAt Go.RowKit
theorem info_intd : (Tryz.prog.info? 3).map (fun i => (i.zero, i.size, i.bytes)) = some (some (.int .i64 0), 1, 8) := by kernel_rfl
theorem OwnI.lt {w : World} {b : Nat} {e : TypeId} {k : IntKind} {v : Value} {zs : List Int} (h : OwnI w b e k v zs) : ∀ g, v.ownBlock = some g → g < w.heap.size := by
  intro g hg
  rcases h.2 with ⟨rfl, _⟩ | ⟨g', cap, cur, rfl, _, hh, _⟩
  · cases hg
  · injection hg with hg
    subst hg
    rcases Nat.lt_or_ge g' w.heap.size with h' | h'
    · exact h'
    · rw [Array.getElem?_eq_none h'] at hh; cases hh
theorem OwnI.grownO {w w' : World} {b b' : Nat} {e e' : TypeId} {k k' : IntKind} {v v' : Value} {zs zs' : List Int} (h : OwnI w b e k v zs) (ho : OwnI w b' e' k' v' zs') (hne : e' ≠ e) (hg : w.grownBy w' v'.ownBlock) : OwnI w' b e k v zs := by
  refine ⟨h.1, ?_⟩
  rcases h.2 with h1 | ⟨g, cap, cur, h1, h2, h3, h4⟩
  · exact .inl h1
  · refine .inr ⟨g, cap, cur, h1, h2, ?_, h4⟩
    exact Blk.grown (w := w) (w' := w') (g := g) (t := e) (cs := cur) h3 ho hne hg
structure ComS (w0 : World) (g3 g7 : Nat) (V Z : Array Value) (A : Option Addr) (L : Nat) (zs : List Int) (gr n cr : Nat) (l : List Int) (ov : Value) (os : List Int) (w : World) : Prop where
  src : DrS w0 g3 g7 V A L zs w
  res : Blk w g7 28 Z
  rest : OwnI w w0.heap.size 24 .u64 (.slice (some ⟨gr, 0, none⟩) n cr) l
  out : OwnI w w0.heap.size 3 .i64 ov os
  len : l.length = n
  ler : w0.heap.size ≤ gr
  apr : Apt L A gr
  apo : ∀ g, ov.ownBlock = some g → Apt L A g
structure NxtS (w0 : World) (g3 g7 g14 gr : Nat) (V2 : Array Value) (A2 : Option Addr) (L : Nat) (zs : List Int) (ov : Value) (w : World) : Prop where
  hand : DrH w0 g7 g14 V2 A2 L zs w
  ap3 : Apt L A2 g3
  apr : Apt L A2 gr
  apo : ∀ g, ov.ownBlock = some g → Apt L A2 g
section
variable {w0 w w' w5 w6 w7 w8 : World} {g3 g7 g14 gr n cr L k : Nat} {V V2 Z : Array Value} {A A2 : Option Addr} {zs l os : List Int} {ov ov' : Value} {z : Int} {cur : Array Value}
theorem ComS.below (h : ComS w0 g3 g7 V Z A L zs gr n cr l ov os w) (hb : Below w.heap.size w w') : ComS w0 g3 g7 V Z A L zs gr n cr l ov os w' :=
  ⟨h.src.below hb, h.res.below hb h.res.lt, h.rest.below hb, h.out.below hb, h.len, h.ler, h.apr, h.apo⟩
theorem ComS.drew (h : ComS w0 g3 g7 V Z A L zs gr n cr l ov os w) : ComS w0 g3 g7 V Z A L zs gr n cr l ov os w.drew := h.below (Below.refl _ _).drew
theorem ComS.rd (h : ComS w0 g3 g7 V Z A L zs gr n cr l ov os w) : Rd .u64 w w.heap.size (some ⟨gr, 0, none⟩) n l := OwnI.rd h.rest h.len
theorem ComS.fx (h : ComS w0 g3 g7 V Z A L zs gr n cr l ov os w) : Fx [.blk g7 28 Z] w := ⟨h.res, trivial⟩
theorem ComS.row (h : ComS w0 g3 g7 V Z A L zs gr n cr l ov os w) (hn : 0 < n) : ∃ cur, Hid (Blk w gr 24 cur) ∧ Hid (∀ j, j < n → j < cur.size) := by
  obtain ⟨g, cur, e, -, hk, hs, -⟩ := h.rest.whole (by rw [h.len]; exact hn)
  injection e with e
  injection e with e1 e2
  subst e1
  exact ⟨cur, Lib.hid hk, Lib.hid (fun j hj => by rw [h.len] at hs; omega)⟩
theorem ComS.took (h : ComS w0 g3 g7 V Z A L zs gr n cr l ov os w) (hgr : gr < w.heap.size) (hr : Rd .u8 w5 w5.heap.size A2 L zs) (hsp : Sep w A A2) (hb5 : Below w.heap.size w w5) (hb6 : Below w5.heap.size w5 w6) (hk6 : Blk w6 w5.heap.size 28 Z) (hk7 : Blk w7 w5.heap.size 28 V2) (hs7 : w7.heap.size = w6.heap.size) (hb7 : ∀ B, B ≤ w5.heap.size → Below B w6 w7) (ho7 : ∀ j, j ≠ w5.heap.size → w7.heap[j]? = w6.heap[j]?) :
    ComS w0 g3 g7 V Z A L zs gr n cr l ov os w7 ∧ NxtS w0 g3 g7 w5.heap.size gr V2 A2 L zs ov w7 := by
  obtain ⟨t1, t2, t3, t4, t5, t6⟩ := h.src.took h.fx hr hsp hb5 hb6 hk6 hk7 hs7 hb7 ho7
  have h6 := (h.below hb5).below hb6
  have z5 := hb5.size
  refine ⟨⟨t1, t2.1, OwnI.other h6.rest hk6 (by decide) ho7, OwnI.other h6.out hk6 (by decide) ho7, h.len, h.ler, h.apr, h.apo⟩, ⟨t6, t4, Apt.of_sep hsp h.apr hgr, fun g hg => Apt.of_sep hsp (h.apo g hg) (h.out.lt g hg)⟩⟩
theorem ComS.put (h : ComS w0 g3 g7 V Z A L zs gr n cr l ov os w) (hn : NxtS w0 g3 g7 g14 gr V2 A2 L zs ov w) (hk : Blk w' g3 28 V2) (hs : w'.heap.size = w.heap.size) (hb : ∀ B, B ≤ g3 → Below B w w') (ho : ∀ j, j ≠ g3 → w'.heap[j]? = w.heap[j]?) : ComS w0 g3 g7 V2 Z A2 L zs gr n cr l ov os w' :=
  ⟨h.src.put3 hn.hand.rd hn.ap3 hn.hand.apt hk hs hb ho, Blk.other h.res ho (Nat.ne_of_gt h.src.lt), OwnI.other h.rest h.src.blk (by decide) ho, OwnI.other h.out h.src.blk (by decide) ho, h.len, h.ler, hn.apr, hn.apo⟩
theorem ComS.ne3 (h : ComS w0 g3 g7 V Z A L zs gr n cr l ov os w) (hk : Blk w gr 24 cur) : g3 ≠ gr ∧ g7 ≠ gr := by
  constructor
  · rintro rfl
    have h1 := h.src.blk
    unfold Blk at h1 hk
    rw [h1] at hk
    injection hk with hk
    injection hk with _ h5
    exact absurd h5 (by decide)
  · rintro rfl
    have h1 := h.res
    unfold Blk at h1 hk
    rw [h1] at hk
    injection hk with hk
    injection hk with _ h5
    exact absurd h5 (by decide)
theorem ComS.setr (h : ComS w0 g3 g7 V Z A L zs gr n cr l ov os w) (hk : Blk w gr 24 cur) (hj : k < n) (hk2 : Blk w' gr 24 (cur.setIfInBounds k (.int .u64 z))) (hs : w'.heap.size = w.heap.size) (hb : ∀ B, B ≤ gr → Below B w w') (ho : ∀ j, j ≠ gr → w'.heap[j]? = w.heap[j]?) : ComS w0 g3 g7 V Z A L zs gr n cr (l.set k z) ov os w' :=
  have hne := h.ne3 hk
  ⟨h.src.store hk ⟨hne.1, h.apr, h.ler⟩ hs hb ho, Blk.other h.res ho hne.2, OwnI.put h.rest hk (by rw [h.len]; exact hj) hk2, OwnI.other h.out hk (by decide) ho, by rw [List.length_set]; exact h.len, h.ler, h.apr, h.apo⟩
theorem ComS.reslt (h : ComS w0 g3 g7 V Z A L zs gr n cr l ov os w) : w0.heap.size ≤ w.heap.size := h.src.bel.size
theorem ComS.app (h : ComS w0 g3 g7 V Z A L zs gr n cr l ov os w) (ho : OwnI w' w0.heap.size 3 .i64 ov' (os ++ [z])) (hg : w.grownBy w' ov.ownBlock) (hat : ov'.ownBlock = ov.ownBlock ∨ ov'.ownBlock = some w.heap.size) : ComS w0 g3 g7 V Z A L zs gr n cr l ov' (os ++ [z]) w' := by
  have hbel : Below w0.heap.size w0 w' := h.out.below_ h.src.bel h.reslt hg
  have hapt : Apart L A ov := fun b off hn hA hb => h.apo b hb b off hn hA rfl
  have hrd : RdP A L zs w' := (Rd.grownA h.src.rd.rd hapt (Nat.le_refl _) hg).mono hg.size
  have hs : DrS w0 g3 g7 V A L zs w' := ⟨h.src.blk.grown h.out (by decide) hg, hbel, hrd, h.src.apt3, h.src.apt7, h.src.le3, h.src.lt, by have := h.src.lt7; have := hg.size; omega⟩
  refine ⟨hs, h.res.grown h.out (by decide) hg, h.rest.grownO h.out (by decide) hg, ho, h.len, h.ler, h.apr, fun g he => ?_⟩
  rcases hat with e | e
  · exact h.apo g (by rw [← e]; exact he)
  · rw [he] at e
    injection e with e
    subst e
    exact Apt.of_lt h.src.rd.rd (Nat.le_refl _)
end
structure FinS (w0 : World) (g3 g7 : Nat) (V : Array Value) (A : Option Addr) (L : Nat) (zs : List Int) (ov : Value) (os : List Int) (w : World) : Prop where
  src : DrS w0 g3 g7 V A L zs w
  out : OwnI w w0.heap.size 3 .i64 ov os
section
variable {w0 w w' : World} {g3 g7 L : Nat} {V Z : Array Value} {A : Option Addr} {zs os : List Int} {ov : Value}
theorem FinS.below (h : FinS w0 g3 g7 V A L zs ov os w) (hb : Below w.heap.size w w') : FinS w0 g3 g7 V A L zs ov os w' := ⟨h.src.below hb, h.out.below hb⟩
theorem FinS.drew (h : FinS w0 g3 g7 V A L zs ov os w) : FinS w0 g3 g7 V A L zs ov os w.drew := h.below (Below.refl _ _).drew
theorem FinS.store {g : Nat} {t : TypeId} {cs : Array Value} (h : FinS w0 g3 g7 V A L zs ov os w) (hk : Blk w g t cs) (ha : (g3 ≠ g ∧ Apt L A g ∧ w0.heap.size ≤ g) ∧ 3 ≠ t) (hs : w'.heap.size = w.heap.size) (hb : ∀ B, B ≤ g → Below B w w') (ho : ∀ j, j ≠ g → w'.heap[j]? = w.heap[j]?) : FinS w0 g3 g7 V A L zs ov os w' :=
  ⟨h.src.store hk ha.1 hs hb ho, OwnI.other h.out hk ha.2 ho⟩
theorem FinS.store7 (h : FinS w0 g3 g7 V A L zs ov os w) : (g3 ≠ g7 ∧ Apt L A g7 ∧ w0.heap.size ≤ g7) ∧ 3 ≠ 28 := ⟨h.src.store7, by decide⟩
theorem FinS.blk (h : FinS w0 g3 g7 V A L zs ov os w) : Blk w g3 28 V := h.src.blk
end
def comAcc (os : List Int) (r : List Int × Src × Int) : List Int × Src × Int := if r.2.2 = 0 then (os ++ r.1, r.2.1, 0) else ([], r.2.1, r.2.2)
theorem comAcc_nil (a : Int) (c : Nat) (l : List Int) (s : Src) : comAcc [] (comGo a c l s) = comGo a c l s := by
  unfold comAcc
  by_cases h : (comGo a c l s).2.2 = 0
  · rw [if_pos h, List.nil_append, ← h]
  · rw [if_neg h, ← comGo_err a c l s h]
theorem comAcc_no {a : Int} {c : Nat} {l : List Int} {s : Src} (os : List Int) (h : (ledR l s a).2.2 ≠ 0) : comAcc os (comGo a (c + 1) l s) = ([], (ledR l s a).2.1, (ledR l s a).2.2) := by
  rw [comGo_no h]
  unfold comAcc
  rw [if_neg h]
theorem comAcc_on {a : Int} {c : Nat} {l : List Int} {s : Src} (os : List Int) (h : (ledR l s a).2.2 = 0) : comAcc os (comGo a (c + 1) l s) = comAcc (os ++ [(ledR l s a).1]) (comGo a c (l.set (ledR l s a).1.toNat 0) (ledR l s a).2.1) := by
  by_cases h2 : (comGo a c (l.set (ledR l s a).1.toNat 0) (ledR l s a).2.1).2.2 = 0
  · rw [comGo_on h h2]
    unfold comAcc
    rw [if_pos rfl, if_pos h2, List.append_assoc]
    rfl
  · rw [comGo_off h h2]
    unfold comAcc
    rw [if_neg h2, if_neg h2]
theorem comAcc_end (os l : List Int) (s : Src) (a : Int) : comAcc os (comGo a 0 l s) = (os, s, 0) := by
  rw [comGo_zero]
  unfold comAcc
  rw [if_pos rfl, List.append_nil]
def lenOf : Value → Nat
  | .slice _ n _ => n
  | _ => 0
theorem rdi_one (w : World) (e : TypeId) (x : Int) : Rd .i64 (w.alloc (.cells #[.int .i64 x] e)) (w.alloc (.cells #[.int .i64 x] e)).heap.size (some ⟨w.heap.size, 0, none⟩) 1 [x] := rd_one1 w e .i64 x
end
section
open Go.ChangeShapes Go.WideShapes Go.ChangeAt Go.RowKit
theorem r13great_c (s : Src) (tl : s.tape.length ≤ 9223372036854775807) (AL : Option Addr) (n c : Nat) (hn : n ≤ maxLen) (A : Option Addr) (c0 : Nat) (w : World) : Calls Tryz.prog 9 #[.slice AL n c, .agg (srcV s A c0)] w fun e w' => e = .returned (.bool (decide (200 < n ∨ 500 < s.tape.length))) ∧ Below w.heap.size w w' := by
  have HC := Lib.hid (fun (W : World) (g : Nat) (h : Blk W g 28 (srcV s A c0)) => (h.cell 1).trans (srcV_tape s A c0))
  have hnm : (n : Int) ≤ 9223372036854775807 := by unfold maxLen at hn; omega
  obtain ⟨V, hV⟩ : ∃ V, srcV s A c0 = V := ⟨_, rfl⟩
  obtain ⟨L, hL⟩ : ∃ x, s.tape.length = x := ⟨_, rfl⟩
  rw [hV, hL] at HC
  rw [hV, hL]
  rw [hL] at tl
  have hL2 : (L : Int) ≤ 9223372036854775807 := by omega
  clear hV hL hn tl
  by_cases h1 : 200 < n
  · rw [decide_eq_true (Or.inl h1)]
    have h2 : (200 : Int) < (n : Int) := by omega
    clear h1
    go_enter Tryz.func9, Tryz.ntmps9
    go_wp2_with (with_reducible refine at_any ?_; refine at_dst 3 rfl ?_; refine wpList_box_any rfl 28 (.tmp 1) rfl V rfl ?_; intro w1 hk1 hs1 hb1; have c1 := HC.out _ _ hk1.out; have HB1 := Lib.hid hb1)
    go_ret
    exact ⟨rfl, HB1.out⟩
  · have h2 : (n : Int) ≤ 200 := by omega
    by_cases h3 : 500 < L
    · rw [decide_eq_true (Or.inr h3)]
      have h4 : (500 : Int) < (L : Int) := by omega
      clear h1 h3
      go_enter Tryz.func9, Tryz.ntmps9
      go_wp2_with (with_reducible refine at_any ?_; refine at_dst 3 rfl ?_; refine wpList_box_any rfl 28 (.tmp 1) rfl V rfl ?_; intro w1 hk1 hs1 hb1; have c1 := HC.out _ _ hk1.out; have HB1 := Lib.hid hb1)
      go_ret
      exact ⟨rfl, HB1.out⟩
    · rw [decide_eq_false (fun h => h.elim h1 h3)]
      have h4 : (L : Int) ≤ 500 := by omega
      have d1 : decide (200 < (n : Int)) = false := decide_eq_false (by omega)
      have d2 : decide (500 < (L : Int)) = false := decide_eq_false (by omega)
      clear h1 h3
      go_enter Tryz.func9, Tryz.ntmps9
      go_wp2_with (with_reducible refine at_any ?_; refine at_dst 3 rfl ?_; refine wpList_box_any rfl 28 (.tmp 1) rfl V rfl ?_; intro w1 hk1 hs1 hb1; have c1 := HC.out _ _ hk1.out; have HB1 := Lib.hid hb1)
      go_ret
      exact ⟨rfl, HB1.out⟩
end
section
open Go.ChangeShapes Go.WideShapes Go.ChangeAt Go.RowKit
theorem pow2_lt (n : Nat) (h : n ≤ 63) : (2 : Int) ^ n < 18446744073709551616 := by
  have h1 : (2 : Int) ^ n ≤ 2 ^ 63 := by
    have h2 : 2 ^ n ≤ 2 ^ 63 := Nat.pow_le_pow_right (by omega) h
    exact_mod_cast h2
  omega
theorem pow2_next (n : Nat) : (2 : Int) * 2 ^ n = 2 ^ (n + 1) := by rw [Int.pow_succ]; omega
theorem rpow_c (n : Nat) (hn : n ≤ 63) (w : World) :
    Calls Tryz.prog 111 #[.int .u64 n] w fun e w' => e = .returned (.int .u64 (2 ^ n)) ∧ w' = w := by
  go_enter Tryz.func111, Tryz.ntmps111
  go_wp2
  go_loop [3, 4] (fun p v => ∃ i : Nat, i ≤ n ∧ p = .int .u64 (2 ^ i) ∧ v = .int .u64 i) (fun _ v => n - (intOf v).toNat)
  case atStart => exact ⟨0, by omega, rfl, rfl⟩
  case round =>
    obtain ⟨i, hi, rfl, rfl⟩ := hrel
    by_cases hlt : i < n
    · have p0 := Wd.pow_pos2 i
      have p1 := pow2_lt (i + 1) (by omega)
      have e := pow2_next i
      rw [← e] at p1
      have HE := Lib.hid e
      clear e
      obtain ⟨p, hp⟩ : ∃ p : Int, 2 ^ i = p := ⟨_, rfl⟩
      rw [hp] at p0 p1 HE ⊢
      go_wp2
      go_round
      case rel => exact ⟨i + 1, by omega, by rw [← HE.out], by go_num⟩
      case measure => simp [intOf]; omega
    · obtain rfl : i = n := by omega
      go_wp2
      go_ret
      exact ⟨rfl, rfl⟩
end
section
open Go.ChangeShapes Go.WideShapes Go.ChangeAt Go.RowKit
theorem rput64s_c (x : Int) (h0 : 0 ≤ x) (h1 : x < 18446744073709551616) (w : World) : Calls Tryz.prog 115 #[.int .u64 x] w fun e w' => e = .returned (.agg (intsA .u8 (put8L x))) ∧ Below w.heap.size w w' :=
  (rput64_c x h0 h1 w).mono fun _ _ ⟨h, h2, _⟩ => ⟨h, h2⟩
set_option maxHeartbeats 4000000 in
theorem rblock_c (s : List Int) (d i : Int) (hl : s.length = 32) (hs : ∀ z ∈ s, 0 ≤ z ∧ z < 256) (d0 : 0 ≤ d) (d1 : d < 18446744073709551616) (i0 : 0 ≤ i) (i1 : i < 18446744073709551616) (w : World) :
    Calls Tryz.prog 110 #[.agg (intsA .u8 s), .int .u64 d, .int .u64 i] w fun e w' => e = .returned (.agg (intsA .u8 (blkL s d i))) ∧ Below w.heap.size w w' := by
  obtain ⟨ti, hti, hz0, hz1, hzb⟩ := info_parts info_u8'
  have HPD := Lib.hid (fun W => rput64s_c d d0 d1 W)
  have HPI := Lib.hid (fun W => rput64s_c i i0 i1 W)
  have hin := blkIn_in s d i hs d0 d1 i0 i1
  have hil := blkIn_len s d i hl
  have hxl : (put8L d).length = 8 := rfl
  have hyl : (put8L i).length = 8 := rfl
  have hrl := blkL_len s d i
  have hre : blkL s d i = shaL (blkIn s d i) := rfl
  have hie : blkIn s d i = s ++ put8L d ++ put8L i := rfl
  obtain ⟨X, hX⟩ : ∃ X, put8L d = X := ⟨_, rfl⟩
  obtain ⟨Y, hY⟩ : ∃ Y, put8L i = Y := ⟨_, rfl⟩
  obtain ⟨I, hI⟩ : ∃ I, blkIn s d i = I := ⟨_, rfl⟩
  obtain ⟨R, hR⟩ : ∃ R, blkL s d i = R := ⟨_, rfl⟩
  rw [hX] at HPD hxl hie
  rw [hY] at HPI hyl hie
  rw [hI] at hin hil hre hie
  rw [hR] at hrl hre ⊢
  have HS := Lib.hid (fun A c W h h' => rsum_c A c 48 I W h h' (by omega) hin)
  rw [← hre] at HS
  obtain ⟨Z, hZ⟩ : ∃ Z : List Int, List.replicate 32 0 = Z := ⟨_, rfl⟩
  obtain ⟨V, hV⟩ : ∃ V : List Int, List.replicate 8 0 = V := ⟨_, rfl⟩
  have HZ0 := Lib.hid zero_hash
  have HV0 := Lib.hid zero_b8s
  rw [hZ] at HZ0
  rw [hV] at HV0
  have hZl : Z.length = 32 := by rw [← hZ]; simp
  have hVl : V.length = 8 := by rw [← hV]; simp
  have SR := Lib.hid (show (Tryz.prog.info? 26).map (·.size) = some R.length by rw [hrl]; exact size_hash)
  have ZR := Lib.hid (show Z.length = R.length by rw [hrl, hZl])
  have SX := Lib.hid (show (Tryz.prog.info? 149).map (·.size) = some X.length by rw [hxl]; exact size_b8s)
  have SY := Lib.hid (show (Tryz.prog.info? 149).map (·.size) = some Y.length by rw [hyl]; exact size_b8s)
  have VX := Lib.hid (show V.length = X.length by rw [hxl, hVl])
  have VY := Lib.hid (show V.length = Y.length by rw [hyl, hVl])
  have HSL := Lib.hid hl
  have HXL := Lib.hid hxl
  have HYL := Lib.hid hyl
  have HIL := Lib.hid hil
  have HIE := Lib.hid hie
  have HSN := Lib.hid (fun (l : List Int) (j : Nat) (h : j < l.length) => take_snoc l j h)
  clear hin hil hxl hyl hrl hre hie hX hY hI hR hZ hV hZl hVl hl hs
  go_enter Tryz.func110, Tryz.ntmps110
  go_wp2_with (first
    | (with_reducible refine at_any ?_; refine at_dst 3 rfl ?_; refine wpList_box_ints rfl 26 (.tmp 0) rfl .u8 s rfl ?_; intro w1 hk1 hs1 hb1; have F1 := Lib.hid (Fx.box hk1.out hb1); clear hk1 hs1 hb1)
    | (with_reducible refine at_any ?_; refine at_dst 6 rfl ?_; refine wpList_alloc_ints rfl 26 rfl .u8 Z HZ0.out ?_; intro w2 hk2 hs2 hb2; have U1 := Lib.hid (Fx.under_new F1.out rfl); have F2 := Lib.hid (Fx.new F1.out hk2.out hb2); clear hk2 hs2 F1 hb2))
  have h3lt : w.heap.size < w1.heap.size := U1.out.1
  obtain ⟨g6, hg6⟩ : ∃ g, w1.heap.size = g := ⟨_, rfl⟩
  obtain ⟨g3, hg3⟩ : ∃ g, w.heap.size = g := ⟨_, rfl⟩
  have h0 : w.heap.size ≤ g3 := by omega
  rw [hg6, hg3] at F2 h3lt
  rw [hg6, hg3]
  clear hg6 hg3 U1
  go_loopw [7, 8] (fun v c wr => ∃ j : Nat, j ≤ 32 ∧ c = .int .i64 j ∧ OwnI wr w.heap.size 5 .u8 v (s.take j) ∧ Fx [.blk g6 26 (intsA .u8 Z), .blk g3 26 (intsA .u8 s), .bel w] wr) (fun _ c _ => 32 - (intOf c).toNat)
  case atStart => exact ⟨0, by omega, rfl, own_nil _ _ _, F2.out⟩
  case round =>
    clear F2
    obtain ⟨j, hj, rfl, hown, hF⟩ := hrel
    have hlen : (s.take j).length = j := by rw [List.length_take, HSL.out]; omega
    by_cases hlt : j < 32
    · have hsn := HSN.out s j (by rw [HSL.out]; exact hlt)
      have hc : wr.cell? ⟨g3, j, none⟩ = some (.int .u8 (s.getD j 0)) := (Fx.fst hF.2).cell (by rw [HSL.out]; exact hlt)
      obtain ⟨b, hb⟩ : ∃ b, s.getD j 0 = b := ⟨_, rfl⟩
      rw [hb] at hsn hc
      have HLN := Lib.hid hlen
      have HSNj := Lib.hid hsn
      have HOW := Lib.hid hown
      have HF := Lib.hid hF
      clear hb hsn hown hF hlen
      go_wp2_with (at_builtin; refine wpList_append_ints _ rfl (.tmp 17) (.tmp 21) 23 rfl w.heap.size 5 ti _ 1 .u8 Tryz.underlying23 hti hz0 hz1 hzb rfl _ (s.take j) rfl (HOW.out.alloc _) (wr.heap.size + 1) (some ⟨wr.heap.size, 0, none⟩) 1 1 [b] rfl (rd_one wr 5 .u8 b) (by rw [HLN.out]; simp [maxLen]; omega) (by rw [HLN.out]; omega) (by have := Below.size (Fx.bel3 HF.out); simp; omega) ?_; intro v6 w6 hown6 hg6 hat6; have F6 := Lib.hid (Fx.grown (Fx.alloc HF.out _) (HOW.out.alloc _) (Fx.free3 (by decide) (by decide)) (by have := Below.size (Fx.bel3 HF.out); simp; omega) hg6); rw [HSNj.out] at hown6; have O6 := Lib.hid hown6; clear hg6 hat6 hown6)
      go_roundw
      case rel => exact ⟨j + 1, by omega, by go_num, O6.out, F6.out⟩
      case measure => simp [intOf]; omega
    · obtain rfl : j = 32 := by omega
      rw [List.take_of_length_le (by rw [HSL.out]; exact Nat.le_refl _)] at hown
      have HOW := Lib.hid hown
      have HF := Lib.hid hF
      clear hown hF hlen
      go_wp2_with (first
        | (go_at_call 115; (with_reducible refine (HPD.out _).mono ?_); rintro e w3 ⟨rfl, hb3⟩; have F3 := Lib.hid (HF.out.below hb3); have O3 := Lib.hid (HOW.out.below hb3); clear HF HOW hb3)
        | (go_at_call 115; (with_reducible refine (HPI.out _).mono ?_); rintro e w4 ⟨rfl, hb4⟩; have F4 := Lib.hid (F3.out.below hb4); have O4 := Lib.hid (O3.out.below hb4); clear F3 O3 hb4)
        | (with_reducible refine at_any ?_; refine at_dst 9 rfl ?_; refine wpList_alloc_ints rfl 149 rfl .u8 V HV0.out ?_; intro w5 hk5 hs5 hb5; have U4 := Lib.hid (Fx.under_new F4.out rfl); have F5 := Lib.hid (Fx.new F4.out hk5.out hb5); have B5 := Lib.hid hb5; clear hk5 hs5 F4 hb5)
        | (with_reducible refine at_any ?_; refine at_dst 10 rfl ?_; refine wpList_alloc_ints rfl 149 rfl .u8 V HV0.out ?_; intro w6 hk6 hs6 hb6; have U5 := Lib.hid (Fx.under_new F5.out rfl); have F6 := Lib.hid (Fx.new F5.out hk6.out hb6); have B6 := Lib.hid (B5.out.trans (hb6.mono B5.out.size)); clear hk6 hs6 F5 hb6)
        | (with_reducible refine at_any ?_; refine at_store 9 rfl ?_; refine wpList_store_ints rfl 149 (.tmp 9) (.tmp 24) rfl w4.heap.size rfl 149 .u8 V X (Fx.snd F6.out) rfl VX.out SX.out ?_; intro w7 hk7 hs7 hb7 ho7; have F7 := Lib.hid (Fx.put2 F6.out U5.out U4.out hk7.out hs7.out hb7 ho7); have U7 := Lib.hid (Fx.under_put U5.out (intsA .u8 X)); have B7 := Lib.hid (B6.out.trans (hb7 _ (Nat.le_refl _))); clear hk7 hs7 hb7 ho7 F6 U5)
        | (with_reducible refine at_any ?_; refine at_store 10 rfl ?_; refine wpList_store_ints rfl 149 (.tmp 10) (.tmp 26) rfl w5.heap.size rfl 149 .u8 V Y (Fx.fst F7.out) rfl VY.out SY.out ?_; intro w8 hk8 hs8 hb8 ho8; have F8 := Lib.hid (Fx.put1 F7.out U7.out hk8.out hs8.out hb8 ho8); have O8 := Lib.hid (O4.out.below (B7.out.trans (hb8 _ B5.out.size))); clear hk8 hs8 hb8 ho8 F7))
      have hB : Blk4 w w5.heap.size w4.heap.size g6 g3 Y X Z s w8 := F8.out
      have h7 : w4.heap.size < w5.heap.size := U7.out.1
      have h6 : g6 < w4.heap.size := U4.out.1
      have HO := Lib.hid O8.out
      clear F8 U7 U4 O8 O4 B5 B6 B7
      obtain ⟨g10, hg10⟩ : ∃ g, w5.heap.size = g := ⟨_, rfl⟩
      obtain ⟨g9, hg9⟩ : ∃ g, w4.heap.size = g := ⟨_, rfl⟩
      rw [hg10, hg9] at hB
      rw [hg10, hg9] at h7
      rw [hg9] at h6
      rw [hg10, hg9]
      have HB := Lib.hid hB
      clear hg10 hg9 hB
      go_loopw [7, 11] (fun v c wr => ∃ j : Nat, j ≤ 8 ∧ c = .int .i64 j ∧ OwnI wr w.heap.size 5 .u8 v (s ++ X.take j) ∧ Blk4 w g10 g9 g6 g3 Y X Z s wr) (fun _ c _ => 8 - (intOf c).toNat)
      case atStart => exact ⟨0, by omega, rfl, by rw [List.take_zero, List.append_nil]; exact HO.out, HB.out⟩
      case round =>
        clear HO HB
        obtain ⟨j, hj, rfl, hown, hF⟩ := hrel
        have hlen : (s ++ X.take j).length = 32 + j := by rw [List.length_append, List.length_take, HXL.out]; rw [HSL.out]; omega
        by_cases hlt : j < 8
        · have hsn : s ++ X.take j ++ [X.getD j 0] = s ++ X.take (j + 1) := by rw [List.append_assoc, HSN.out X j (by rw [HXL.out]; exact hlt)]
          have hc : wr.cell? ⟨g9, j, none⟩ = some (.int .u8 (X.getD j 0)) := hF.c7.cell (by rw [HXL.out]; exact hlt)
          obtain ⟨b, hb⟩ : ∃ b, X.getD j 0 = b := ⟨_, rfl⟩
          rw [hb] at hsn hc
          have HLN := Lib.hid hlen
          have HSNj := Lib.hid hsn
          have HOW := Lib.hid hown
          have HF := Lib.hid hF
          clear hb hsn hown hF hlen
          go_wp2_with (at_builtin; refine wpList_append_ints _ rfl (.tmp 31) (.tmp 35) 23 rfl w.heap.size 5 ti _ 1 .u8 Tryz.underlying23 hti hz0 hz1 hzb rfl _ (s ++ X.take j) rfl (HOW.out.alloc _) (wr.heap.size + 1) (some ⟨wr.heap.size, 0, none⟩) 1 1 [b] rfl (rd_one wr 5 .u8 b) (by rw [HLN.out]; simp [maxLen]; omega) (by rw [HLN.out]; omega) (by have := Below.size HF.out.bel; simp; omega) ?_; intro v6 w6 hown6 hg6 hat6; have F6 := Lib.hid (Blk4.grown (HF.out.alloc _) (HOW.out.alloc _) (by have := Below.size HF.out.bel; simp; omega) hg6); rw [HSNj.out] at hown6; have O6 := Lib.hid hown6; clear hg6 hat6 hown6)
          go_roundw
          case rel => exact ⟨j + 1, by omega, by go_num, O6.out, F6.out⟩
          case measure => simp [intOf]; omega
        · obtain rfl : j = 8 := by omega
          rw [List.take_of_length_le (by rw [HXL.out]; exact Nat.le_refl _)] at hown
          have HB := Lib.hid hF
          have HO := Lib.hid hown
          clear hown hF hlen
          rw [show ((8 : Nat) : Int) = 8 from rfl]
          go_wp2
          go_loopw [7, 12] (fun v c wr => ∃ j : Nat, j ≤ 8 ∧ c = .int .i64 j ∧ OwnI wr w.heap.size 5 .u8 v ((s ++ X) ++ Y.take j) ∧ Blk4 w g10 g9 g6 g3 Y X Z s wr) (fun _ c _ => 8 - (intOf c).toNat)
          case atStart => exact ⟨0, by omega, rfl, by rw [List.take_zero, List.append_nil]; exact HO.out, HB.out⟩
          case round =>
            clear HO HB
            obtain ⟨j, hj, rfl, hown, hF⟩ := hrel
            have hlen : ((s ++ X) ++ Y.take j).length = 40 + j := by rw [List.length_append, List.length_take, HYL.out]; rw [List.length_append, HSL.out, HXL.out]; omega
            by_cases hlt : j < 8
            · have hsn : (s ++ X) ++ Y.take j ++ [Y.getD j 0] = (s ++ X) ++ Y.take (j + 1) := by rw [List.append_assoc, HSN.out Y j (by rw [HYL.out]; exact hlt)]
              have hc : wr.cell? ⟨g10, j, none⟩ = some (.int .u8 (Y.getD j 0)) := hF.c8.cell (by rw [HYL.out]; exact hlt)
              obtain ⟨b, hb⟩ : ∃ b, Y.getD j 0 = b := ⟨_, rfl⟩
              rw [hb] at hsn hc
              have HLN := Lib.hid hlen
              have HSNj := Lib.hid hsn
              have HOW := Lib.hid hown
              have HF := Lib.hid hF
              clear hb hsn hown hF hlen
              go_wp2_with (at_builtin; refine wpList_append_ints _ rfl (.tmp 41) (.tmp 45) 23 rfl w.heap.size 5 ti _ 1 .u8 Tryz.underlying23 hti hz0 hz1 hzb rfl _ ((s ++ X) ++ Y.take j) rfl (HOW.out.alloc _) (wr.heap.size + 1) (some ⟨wr.heap.size, 0, none⟩) 1 1 [b] rfl (rd_one wr 5 .u8 b) (by rw [HLN.out]; simp [maxLen]; omega) (by rw [HLN.out]; omega) (by have := Below.size HF.out.bel; simp; omega) ?_; intro v6 w6 hown6 hg6 hat6; have F6 := Lib.hid (Blk4.grown (HF.out.alloc _) (HOW.out.alloc _) (by have := Below.size HF.out.bel; simp; omega) hg6); rw [HSNj.out] at hown6; have O6 := Lib.hid hown6; clear hg6 hat6 hown6)
              go_roundw
              case rel => exact ⟨j + 1, by omega, by go_num, O6.out, F6.out⟩
              case measure => simp [intOf]; omega
            · obtain rfl : j = 8 := by omega
              rw [List.take_of_length_le (by rw [HYL.out]; exact Nat.le_refl _)] at hown
              obtain ⟨A7, c7, rfl, hc7, _⟩ := hown.form
              rw [← HIE.out, HIL.out] at hc7
              rw [← HIE.out] at hown
              rw [← HIE.out, HIL.out]
              have HB := Lib.hid hF
              have hr7 := hown.rd rfl
              rw [HIL.out] at hr7
              have HR7 := Lib.hid hr7
              have HC7 := Lib.hid hc7
              clear hown hF hlen hc7 hr7
              go_wp2_with (first
                | (go_at_call 116; (with_reducible refine (HS.out A7 c7 _ HR7.out HC7.out).mono ?_); rintro e w9 ⟨rfl, hb9⟩; have HB9 := Lib.hid (HB.out.below hb9); clear hb9)
                | (with_reducible refine at_any ?_; refine at_store 6 rfl ?_; refine wpList_store_ints rfl 26 (.tmp 6) (.tmp 48) rfl g6 rfl 26 .u8 Z R HB9.out.c6 rfl ZR.out SR.out ?_; intro w11 hk11 hs11 hb11 ho11; have HB11 := Lib.hid (HB9.out.put6 h6 h7 h3lt h0 hk11.out hs11.out hb11 ho11))
                | (refine bodyPost_cell 6 26 rfl g6 rfl 26 .u8 R HB11.out.c6 _ Tryz.underlying26 rfl SR.out rfl ?_))
              exact HB11.out.bel
set_option maxHeartbeats 2000000 in
theorem rbit_c (s : List Int) (d n : Int) (hl : s.length = 32) (hs : ∀ z ∈ s, 0 ≤ z ∧ z < 256) (d0 : 0 ≤ d) (d1 : d < 18446744073709551616) (n0 : 0 ≤ n) (n1 : n < 18446744073709551616) (w : World) :
    Calls Tryz.prog 107 #[.agg (intsA .u8 s), .int .u64 d, .int .u64 n] w fun e w' => e = .returned (.int .u64 (bitN s d n)) ∧ Below w.heap.size w w' := by
  have HB := Lib.hid (fun W => rblock_c s d (n / 256) hl hs d0 d1 (by omega) (by omega) W)
  have hRl := blkL_len s d (n / 256)
  obtain ⟨R, hR⟩ : ∃ R, blkL s d (n / 256) = R := ⟨_, rfl⟩
  rw [hR] at HB hRl
  have hj : (n % 256 / 8).toNat < 32 := by omega
  have e1 : n % 256 / 8 = (((n % 256 / 8).toNat : Nat) : Int) := by omega
  have hb := bytN_in s d (n / 256) (n % 256 / 8).toNat
  have hbe : R.getD (n % 256 / 8).toNat 0 = bytN s d (n / 256) (n % 256 / 8).toNat := by unfold bytN; rw [hR]
  have e2 : 7 - n % 8 = (((7 - n % 8).toNat : Nat) : Int) := by omega
  have hq : (7 - n % 8).toNat ≤ 7 := by omega
  have hres : bitN s d n = bytN s d (n / 256) (n % 256 / 8).toNat / 2 ^ (7 - n % 8).toNat % 2 := rfl
  obtain ⟨j, hjj⟩ : ∃ j, (n % 256 / 8).toNat = j := ⟨_, rfl⟩
  obtain ⟨q, hqq⟩ : ∃ q, (7 - n % 8).toNat = q := ⟨_, rfl⟩
  rw [hjj] at hj e1 hb hbe hres
  rw [hqq] at e2 hq hres
  obtain ⟨b, hbb⟩ : ∃ b, bytN s d (n / 256) j = b := ⟨_, rfl⟩
  rw [hbb] at hb hbe hres
  have HC := Lib.hid (fun (W : World) g (h : BlkI W g 26 .u8 R) => (show W.cell? ⟨g, j, none⟩ = some (.int .u8 b) by rw [h.cell (by omega), hbe]))
  have p0 := Wd.pow_pos2 q
  have p1 := pow2_lt q (by omega)
  have HP := Lib.hid (fun W => rpow_c q (by omega) W)
  obtain ⟨p, hp⟩ : ∃ p : Int, 2 ^ q = p := ⟨_, rfl⟩
  rw [hp] at p0 p1 HP hres
  have p2 : (p == 0) = false := by rw [beq_eq_false_iff_ne]; omega
  have h2 : 0 ≤ b / p := Int.ediv_nonneg hb.1 (by omega)
  have h3 : b / p < 256 := by have := Int.ediv_le_self p hb.1; omega
  have HRES := Lib.hid hres
  have SS := Lib.hid (show (Tryz.prog.info? 26).map (·.size) = some s.length by rw [hl]; exact size_hash)
  have SR := Lib.hid (show (Tryz.prog.info? 26).map (·.size) = some R.length by rw [hRl]; exact size_hash)
  obtain ⟨Z, hZ⟩ : ∃ Z : List Int, List.replicate 32 0 = Z := ⟨_, rfl⟩
  have HZ0 := Lib.hid zero_hash
  rw [hZ] at HZ0
  have ZR := Lib.hid (show Z.length = R.length by rw [hRl, ← hZ]; simp)
  obtain ⟨hb0, hb1⟩ := hb
  clear hZ hres hbb hbe hRl hR hl hs hp
  go_enter Tryz.func107, Tryz.ntmps107
  go_wp2_with (first
    | (with_reducible refine at_any ?_; refine at_dst 3 rfl ?_; refine wpList_box_ints rfl 26 (.tmp 0) rfl .u8 s rfl ?_; intro w1 hk1 hs1 hb1; have F1 := Lib.hid (Fx.box hk1.out hb1); clear hk1 hs1 hb1)
    | (with_reducible refine at_any ?_; refine at_dst 8 rfl ?_; refine wpList_load_ints rfl 26 (.tmp 3) rfl w.heap.size rfl 26 .u8 s (Fx.fst F1.out) _ Tryz.underlying26 rfl SS.out ?_)
    | (go_at_call 110; (with_reducible refine (HB.out _).mono ?_); rintro e w3 ⟨rfl, hb3⟩; have F3 := Lib.hid (F1.out.below hb3); clear F1 hb3)
    | (with_reducible refine at_any ?_; refine at_dst 7 rfl ?_; refine wpList_alloc_ints rfl 26 rfl .u8 Z HZ0.out ?_; intro w4 hk4 hs4 hb4; have U3 := Lib.hid (Fx.under_new F3.out rfl); have F4 := Lib.hid (Fx.new F3.out hk4.out hb4); clear hk4 hs4 F3 hb4)
    | (with_reducible refine at_any ?_; refine at_store 7 rfl ?_; refine wpList_store_ints rfl 26 (.tmp 7) (.tmp 12) rfl w3.heap.size rfl 26 .u8 Z R (Fx.fst F4.out) rfl ZR.out SR.out ?_; intro w5 hk5 hs5 hb5 ho5; have F5 := Lib.hid (Fx.put1 F4.out U3.out hk5.out hs5.out hb5 ho5); have cj := HC.out _ _ (Fx.fst F5.out); clear hk5 hs5 hb5 ho5 F4))
  have hlt : ((j : Nat) : Int) < 32 := by omega
  have t1 : n.tmod 256 = n % 256 := Int.tmod_eq_emod_of_nonneg n0
  have t2 : n.tmod 8 = n % 8 := Int.tmod_eq_emod_of_nonneg n0
  have t3 : (n % 256).tdiv 8 = n % 256 / 8 := Int.tdiv_eq_ediv_of_nonneg (by omega)
  have t4 : b.tdiv p = b / p := Int.tdiv_eq_ediv_of_nonneg hb0
  have t5 : (b / p).tmod 2 = b / p % 2 := Int.tmod_eq_emod_of_nonneg h2
  have e3 : IntKind.u64.wrap ((n.tmod 256).tdiv 8) = (j : Int) := by rw [t1, t3, e1, IntKind.wrap_u64]; omega
  have e4 : IntKind.u64.wrap (7 - n.tmod 8) = (q : Int) := by rw [t2, e2, IntKind.wrap_u64]; omega
  have e5 : IntKind.u64.wrap (b.tdiv p) = b / p := by rw [t4, IntKind.wrap_u64]; omega
  have e6 : IntKind.u64.wrap b = b := by rw [IntKind.wrap_u64]; omega
  have p3 : p ≠ 0 := by omega
  clear t1 t2 t3 t4
  go_quiet (first | (go_at_call 111; refine Calls.quiet_of_same (HP.out _)))
  go_wp2
  go_ret
  exact ⟨ret_int HRES.out.symm, below_drewN (Fx.bel3 F5.out) _⟩
end
section
open Go.ChangeShapes Go.WideShapes Go.ChangeAt Go.RowKit
set_option maxHeartbeats 1000000 in
theorem rsright_c (s : Src) (ok : s.Ok) (A : Option Addr) (c : Nat) (w : World) : Calls Tryz.prog 34 #[.agg (srcV s A c)] w fun e w' => e = .returned (.bool (rightS s)) ∧ Below w.heap.size w w' := by
  have HC := Lib.hid (fun (W : World) (g : Nat) (h : Blk W g 28 (srcV s A c)) => And.intro ((h.cell 0).trans (srcV_kind s A c)) (And.intro ((h.cell 1).trans (srcV_tape s A c)) (And.intro ((h.cell 2).trans (srcV_bits s A c)) ((h.cell 36).trans (srcV_at s ok.sl A c)))))
  have k0 := ok.k0
  have k1 := ok.k1
  have tl := ok.tl
  have b0 := ok.b0
  have b1 := ok.b1
  have a0 := ok.a0
  have a1 := ok.a1
  have hR : rightS s = if s.kind = 1 then decide (s.bits ≤ 8 * (s.tape.length : Int)) && decide (s.at_ ≤ s.bits) else decide (s.kind = 2) && decide (s.at_ ≤ 4611686018427387904) := rfl
  obtain ⟨V, hV⟩ : ∃ V, srcV s A c = V := ⟨_, rfl⟩
  obtain ⟨kd, hkd⟩ : ∃ x, s.kind = x := ⟨_, rfl⟩
  obtain ⟨L, hL⟩ : ∃ x, s.tape.length = x := ⟨_, rfl⟩
  obtain ⟨bt, hbt⟩ : ∃ x, s.bits = x := ⟨_, rfl⟩
  obtain ⟨at_, hat⟩ : ∃ x, s.at_ = x := ⟨_, rfl⟩
  rw [hV, hkd, hL, hbt, hat] at HC
  rw [hkd, hL, hbt, hat] at hR
  rw [hkd] at k0 k1
  rw [hL] at tl
  rw [hbt] at b0 b1
  rw [hat] at a0 a1
  rw [hV, hR]
  clear hV hkd hL hbt hat hR ok
  have e1 : IntKind.u64.wrap (8 * (L : Int)) = 8 * L := by rw [IntKind.wrap_u64]; omega
  by_cases hk : kd = 1
  · rw [if_pos hk]
    subst hk
    by_cases h1 : bt ≤ 8 * (L : Int)
    all_goals
      first | rw [decide_eq_true h1] | rw [decide_eq_false h1]
      first | rw [Bool.true_and] | rw [Bool.false_and]
      go_enter Tryz.func34, Tryz.ntmps34
      go_wp2_with (with_reducible refine at_any ?_; refine at_dst 1 rfl ?_; refine wpList_box_any rfl 28 (.tmp 0) rfl V rfl ?_; intro w1 hk1 hs1 hb1; have c0 := (HC.out _ _ hk1.out).1; have c1 := (HC.out _ _ hk1.out).2.1; have c2 := (HC.out _ _ hk1.out).2.2.1; have c3 := (HC.out _ _ hk1.out).2.2.2)
      go_ret
      exact ⟨rfl, hb1⟩
  · rw [if_neg hk]
    have t1 : (kd == 1) = false := by rw [beq_eq_false_iff_ne]; exact hk
    by_cases h1 : kd = 2
    all_goals
      first | rw [decide_eq_true h1] | rw [decide_eq_false h1]
      first | rw [Bool.true_and] | rw [Bool.false_and]
      first | subst h1 | (have t2 : (kd == 2) = false := by rw [beq_eq_false_iff_ne]; exact h1)
      go_enter Tryz.func34, Tryz.ntmps34
      go_wp2_with (with_reducible refine at_any ?_; refine at_dst 1 rfl ?_; refine wpList_box_any rfl 28 (.tmp 0) rfl V rfl ?_; intro w1 hk1 hs1 hb1; have c0 := (HC.out _ _ hk1.out).1; have c1 := (HC.out _ _ hk1.out).2.1; have c2 := (HC.out _ _ hk1.out).2.2.1; have c3 := (HC.out _ _ hk1.out).2.2.2)
      go_ret
      exact ⟨rfl, hb1⟩
set_option maxHeartbeats 1000000 in
theorem rsleft_c (s : Src) (ok : s.Ok) (A : Option Addr) (c : Nat) (w : World) : Calls Tryz.prog 100 #[.agg (srcV s A c)] w fun e w' => e = .returned (.int .u64 (leftS s)) ∧ Below w.heap.size w w' := by
  have HC := Lib.hid (fun (W : World) (g : Nat) (h : Blk W g 28 (srcV s A c)) => And.intro ((h.cell 0).trans (srcV_kind s A c)) (And.intro ((h.cell 2).trans (srcV_bits s A c)) ((h.cell 36).trans (srcV_at s ok.sl A c))))
  have HRT := Lib.hid (fun W => rsright_c s ok A c W)
  have SV := Lib.hid (sizedS s ok.sl A c)
  have k0 := ok.k0
  have k1 := ok.k1
  have b0 := ok.b0
  have b1 := ok.b1
  have a0 := ok.a0
  have a1 := ok.a1
  have hl := left_le ok
  have hL : leftS s = if rightS s = true then (if s.kind = 1 then s.bits - s.at_ else 4611686018427387904 - s.at_) else 0 := rfl
  obtain ⟨V, hV⟩ : ∃ V, srcV s A c = V := ⟨_, rfl⟩
  obtain ⟨kd, hkd⟩ : ∃ x, s.kind = x := ⟨_, rfl⟩
  obtain ⟨bt, hbt⟩ : ∃ x, s.bits = x := ⟨_, rfl⟩
  obtain ⟨at_, hat⟩ : ∃ x, s.at_ = x := ⟨_, rfl⟩
  obtain ⟨r, hr⟩ : ∃ x, rightS s = x := ⟨_, rfl⟩
  rw [hV, hkd, hbt, hat] at HC
  rw [hV, hr] at HRT
  rw [hV] at SV
  rw [hkd, hbt, hat, hr] at hL
  rw [hkd] at k0 k1
  rw [hbt] at b0 b1
  rw [hat] at a0 a1
  rw [hV]
  rw [hL] at hl
  rw [hL]
  clear hV hkd hbt hat hr hL ok
  cases r
  · rw [if_neg (by decide)]
    go_enter Tryz.func100, Tryz.ntmps100
    go_wp2_with (first
      | (with_reducible refine at_any ?_; refine at_dst 1 rfl ?_; refine wpList_box_any rfl 28 (.tmp 0) rfl V rfl ?_; intro w1 hk1 hs1 hb1)
      | (with_reducible refine at_any ?_; refine at_dst 3 rfl ?_; refine wpList_load_blk rfl 28 (.tmp 1) rfl w.heap.size rfl 28 V hk1.out _ Tryz.underlying28 rfl SV.out ?_)
      | (go_at_call 34; (with_reducible refine (HRT.out _).mono ?_); rintro e w2 ⟨rfl, hb2⟩))
    go_ret
    exact ⟨rfl, hb1.trans (hb2.mono hb1.size)⟩
  · rw [if_pos rfl] at hl ⊢
    by_cases hk : kd = 1
    all_goals
      first | rw [if_pos hk] at hl ⊢ | rw [if_neg hk] at hl ⊢
      first | subst hk | (have t1 : (kd == 1) = false := by rw [beq_eq_false_iff_ne]; exact hk)
      first | (have e1 : IntKind.u64.wrap (bt - at_) = bt - at_ := by rw [IntKind.wrap_u64]; omega) | (have e2 : IntKind.u64.wrap (4611686018427387904 - at_) = 4611686018427387904 - at_ := by rw [IntKind.wrap_u64]; omega)
      go_enter Tryz.func100, Tryz.ntmps100
      go_wp2_with (first
        | (with_reducible refine at_any ?_; refine at_dst 1 rfl ?_; refine wpList_box_any rfl 28 (.tmp 0) rfl V rfl ?_; intro w1 hk1 hs1 hb1)
        | (with_reducible refine at_any ?_; refine at_dst 3 rfl ?_; refine wpList_load_blk rfl 28 (.tmp 1) rfl w.heap.size rfl 28 V hk1.out _ Tryz.underlying28 rfl SV.out ?_)
        | (go_at_call 34; (with_reducible refine (HRT.out _).mono ?_); rintro e w2 ⟨rfl, hb2⟩; have k2 := hk1.out.below hb2 hk1.out.lt; have c0 := (HC.out _ _ k2).1; have c2 := (HC.out _ _ k2).2.1; have c3 := (HC.out _ _ k2).2.2))
      go_ret
      exact ⟨rfl, hb1.trans (hb2.mono hb1.size)⟩
set_option maxHeartbeats 1000000 in
theorem rsbit_c (s : Src) (ok : s.Ok) (n : Int) (n0 : 0 ≤ n) (n1 : n < 18446744073709551616) (hn : s.kind = 2 ∨ n < 8 * (s.tape.length : Int)) (A : Option Addr) (c : Nat) (w : World) (hrd : Rd .u8 w w.heap.size A s.tape.length s.tape) : Calls Tryz.prog 101 #[.agg (srcV s A c), .int .u64 n] w fun e w' => e = .returned (.int .u64 (bitS s n)) ∧ Below w.heap.size w w' := by
  have HC := Lib.hid (fun (W : World) (g : Nat) (h : Blk W g 28 (srcV s A c)) => And.intro ((h.cell 0).trans (srcV_kind s A c)) (And.intro ((h.cell 1).trans (srcV_tape s A c)) (And.intro ((h.cell 35).trans (srcV_dom s ok.sl A c)) (srcV_seed h))))
  have k0 := ok.k0
  have k1 := ok.k1
  have tl := ok.tl
  have SSD := Lib.hid (show (Tryz.prog.info? 26).map (·.size) = some s.seed.length by rw [ok.sl]; exact size_hash)
  have HBT := Lib.hid (fun W => rbit_c s.seed s.dom n ok.sl ok.si ok.d0 ok.d1 n0 n1 W)
  by_cases hk : s.kind = 2
  · have hb : bitS s n = bitN s.seed s.dom n := by unfold bitS; rw [if_pos hk]
    rw [hb]
    obtain ⟨V, hV⟩ : ∃ V, srcV s A c = V := ⟨_, rfl⟩
    rw [hV, hk] at HC
    rw [hV]
    clear hV hk hb hn
    go_enter Tryz.func101, Tryz.ntmps101
    go_wp2_with (first
      | (with_reducible refine at_any ?_; refine at_dst 2 rfl ?_; refine wpList_box_any rfl 28 (.tmp 0) rfl V rfl ?_; intro w1 hk1 hs1 hb1; have c0 := (HC.out _ _ hk1.out).1; have c2 := (HC.out _ _ hk1.out).2.2.1)
      | (with_reducible refine at_any ?_; refine at_dst 9 rfl ?_; refine wpList_load_at rfl 26 (.tmp 8) rfl w.heap.size 3 rfl .u8 s.seed (HC.out _ _ hk1.out).2.2.2 _ Tryz.underlying26 rfl SSD.out ?_)
      | (go_at_call 107; (with_reducible refine (HBT.out _).mono ?_); rintro e w2 ⟨rfl, hb2⟩))
    go_ret
    exact ⟨rfl, hb1.trans (hb2.mono hb1.size)⟩
  · have hlt : n < 8 * (s.tape.length : Int) := by rcases hn with h | h; exact absurd h hk; exact h
    have t1 : (s.kind == 2) = false := by rw [beq_eq_false_iff_ne]; exact hk
    obtain ⟨j, hj⟩ : ∃ j : Nat, (n / 8).toNat = j := ⟨_, rfl⟩
    obtain ⟨q, hq⟩ : ∃ q : Nat, (7 - n % 8).toNat = q := ⟨_, rfl⟩
    have e1 : n / 8 = (j : Int) := by omega
    obtain ⟨r, hr⟩ : ∃ r : Nat, (n % 8).toNat = r := ⟨_, rfl⟩
    have e2 : n % 8 = (r : Int) := by omega
    have e3 : (7 : Int) - (r : Int) = (q : Int) := by omega
    have hq7 : q ≤ 7 := by omega
    have hjl : j < s.tape.length := by omega
    have hb : bitS s n = s.tape.getD j 0 / 2 ^ q % 2 := by unfold bitS; rw [if_neg hk, hj, hq]
    rw [hb]
    have hx : 0 ≤ s.tape.getD j 0 ∧ s.tape.getD j 0 < 256 := by
      rw [List.getD_eq_getElem?_getD, List.getElem?_eq_getElem hjl, Option.getD_some]
      exact ok.ti _ (List.getElem_mem hjl)
    obtain ⟨b0, off, hA, hb0, hcell⟩ := hrd.2 (by omega)
    have cj := hcell j hjl
    obtain ⟨x, hxe⟩ : ∃ x, s.tape.getD j 0 = x := ⟨_, rfl⟩
    rw [hxe] at hx cj
    rw [hxe]
    have hrt := fun W => (rright_c x (q : Int) (by omega) (by omega) (by omega) (by omega) W).mono fun e w' (h : _ ∧ _) => And.intro h.1 h.2.symm
    rw [right_div x q hq7] at hrt
    have p0 := Wd.pow_pos2 q
    have y0 : 0 ≤ x / 2 ^ q := Int.ediv_nonneg hx.1 (by omega)
    have y1 : x / 2 ^ q < 256 := by have := Int.ediv_le_self (2 ^ q) hx.1; omega
    obtain ⟨y, hy⟩ : ∃ y, x / 2 ^ q = y := ⟨_, rfl⟩
    rw [hy] at hrt y0 y1
    rw [hy]
    have HRT := Lib.hid hrt
    have CJ := Lib.hid cj
    obtain ⟨x0, x1⟩ := hx
    obtain ⟨L, hL⟩ : ∃ L, s.tape.length = L := ⟨_, rfl⟩
    rw [hL] at HC tl hjl
    have q0 : (0 : Int) ≤ (j : Int) ∧ (j : Int) < (L : Int) := by omega
    obtain ⟨V, hV⟩ : ∃ V, srcV s A c = V := ⟨_, rfl⟩
    rw [hV] at HC
    rw [hV]
    subst hA
    clear hV hb hn hcell hrt cj p0 hy hxe hrd hL hlt hj hq hr HBT ok
    go_enter Tryz.func101, Tryz.ntmps101
    go_wp2_with (first
      | (with_reducible refine at_any ?_; refine at_dst 2 rfl ?_; refine wpList_box_any rfl 28 (.tmp 0) rfl V rfl ?_; intro w1 hk1 hs1 hb1; have c0 := (HC.out _ _ hk1.out).1; have c2 := (HC.out _ _ hk1.out).2.1; have c3 := (hb1.cell hb0).trans CJ.out)
      | (go_at_call 48; (with_reducible refine (HRT.out _).mono ?_); rintro e _ ⟨rfl, rfl⟩))
    go_ret
    exact ⟨rfl, hb1⟩
set_option maxHeartbeats 4000000 in
theorem rstake_c (s : Src) (ok : s.Ok) (k : Int) (k0 : -9223372036854775808 ≤ k) (k1 : k < 9223372036854775808) (A : Option Addr) (c : Nat) (hc : s.tape.length ≤ c) (hcm : c ≤ maxLen) (w : World) (hrd : Rd .u8 w w.heap.size A s.tape.length s.tape) : Calls Tryz.prog 84 #[.agg (srcV s A c), .int .i64 k] w (RetTake w s k A) := by
  have HRT := Lib.hid (fun W => rsright_c s ok A c W)
  have HLT := Lib.hid (fun W => rsleft_c s ok A c W)
  have hll := left_le ok
  have SV := Lib.hid (sizedS s ok.sl A c)
  have OV := Lib.hid (srcV_ones s A c)
  have ZV := Lib.hid (srcV_same Src.zero s rfl ok.sl none A 0 c)
  have HZ0 := Lib.hid zero_src
  obtain ⟨Z, hZ⟩ : ∃ Z, srcV Src.zero none 0 = Z := ⟨_, rfl⟩
  rw [hZ] at ZV HZ0
  have hRd := Lib.hid hrd
  by_cases hbad : ¬ (rightS s = true ∧ 0 ≤ k ∧ k ≤ 64)
  · have hE : takeE s k = 1 := by unfold takeE; rw [if_neg hbad]
    have HEND : Hid (∀ w', Below w.heap.size w w' → RetTake w s k A (.returned (.tuple #[.int .u64 0, .agg (srcV s A c), .int .i64 1])) w') := Lib.hid (fun w' hb => ⟨A, c, by unfold takeV takeS; rw [hE]; rfl, (hRd.out.below hb).mono hb.size, hc, hcm, .inl rfl, hb⟩)
    obtain ⟨V, hV⟩ : ∃ V, srcV s A c = V := ⟨_, rfl⟩
    rw [hV] at HRT HLT SV OV ZV HEND
    rw [hV]
    have hcase : (rightS s = false) ∨ (rightS s = true ∧ k < 0) ∨ (rightS s = true ∧ ¬ k < 0 ∧ 64 < k) := by
      cases h : rightS s
      · exact .inl rfl
      · refine .inr ?_
        by_cases h0 : k < 0
        · exact .inl ⟨rfl, h0⟩
        · exact .inr ⟨rfl, h0, Decidable.byContradiction fun h7 => hbad ⟨h, by omega, by omega⟩⟩
    clear hZ hV hE hbad hll hrd
    rcases hcase with hr | ⟨hr, h0⟩ | ⟨hr, h0, h6⟩
    all_goals
      rw [hr] at HRT
      go_enter Tryz.func84, Tryz.ntmps84
      go_wp2_with (first
        | (with_reducible refine at_any ?_; refine at_dst 2 rfl ?_; refine wpList_box_any rfl 28 (.tmp 0) rfl V rfl ?_; intro w1 hk1 hs1 hb1)
        | (with_reducible refine at_any ?_; refine at_dst 5 rfl ?_; refine wpList_alloc_any rfl 28 rfl Z HZ0.out ?_; intro w2 hk2 hs2 hb2; have k2 := Lib.hid (hk1.out.below hb2 hk1.out.lt); have bl2 := Lib.hid (hb1.trans (hb2.mono hb1.size)))
        | (with_reducible refine at_any ?_; refine at_dst 9 rfl ?_; refine wpList_load_blk rfl 28 (.tmp 2) rfl w.heap.size rfl 28 V k2.out _ Tryz.underlying28 rfl SV.out ?_)
        | (go_at_call 34; (with_reducible refine (HRT.out _).mono ?_); rintro e wz ⟨rfl, hbz⟩))
      have HB2 : Src2 w w.heap.size w1.heap.size V Z wz := ⟨hk2.out.below hbz hk2.out.lt, k2.out.below hbz k2.out.lt, bl2.out.trans (hbz.mono bl2.out.size), trivial⟩
      have h25 : w.heap.size < w1.heap.size := by rw [hs1.out]; omega
      obtain ⟨g2, hg2⟩ : ∃ g, w.heap.size = g := ⟨_, rfl⟩
      obtain ⟨g5, hg5⟩ : ∃ g, w1.heap.size = g := ⟨_, rfl⟩
      have h02 : w.heap.size ≤ g2 := by omega
      rw [hg2, hg5] at HB2 h25
      rw [hg2, hg5]
      clear hg2 hg5 hk1 hs1 hb1 hk2 hs2 hb2 k2 bl2 hbz
      have hS := HB2.keep.drew
      have HZ5 := HB2.old.drew
      refine wp_region_held_drew (S := (Fx [.blk g2 28 V, .bel w])) (by kernel_rfl) hS (fun hH => ?_)
      refine wpAnyH_letter #[false, false, false, false] (by kernel_rfl) (fun _ _ d _ _ h => by cases d <;> exact h) (fun QL HQ1 HQ2 => ?_)
      refine held_row 0 (some 20) rfl (by kernel_rfl) (by kernel_rfl) (by kernel_rfl) (by kernel_rfl) (fun c a v w h => HQ2.out c a _ v w h) (by kernel_rfl) 28 (.tmp 2) rfl g2 (by kernel_rfl) 28 V (fun _ h => h.1) _ Tryz.underlying28 rfl SV.out hH ?_
      try simp only [Act.put, List.setIfInBounds_toArray, List.set_cons_zero, List.set_cons_succ]
      refine held_v 1 (some 4) rfl (by kernel_rfl) (by kernel_rfl) (by kernel_rfl) (by kernel_rfl) (fun c a v w h => HQ2.out c a _ v w h) (by kernel_rfl) (.int .u64 0) (fun W h => by kernel_rfl) hH ?_
      try simp only [Act.put, List.setIfInBounds_toArray, List.set_cons_zero, List.set_cons_succ]
      refine wpAnyH_ready (rs := [2]) (by kernel_rfl) (by decide) ?_
      refine AllReadyH.cons rfl (fun K hK => ?_) AllReadyH.nil
      refine step_store none (by kernel_rfl) (by kernel_rfl) 28 (.tmp 5) (.tmp 20) rfl g5 (by kernel_rfl) 28 Z V HZ5.1 (by kernel_rfl) ZV.out SV.out OV.out ?_
      intro w41 hkw41 hsw41 hbw41 how41
      have ex42 : Fx [.blk g5 28 V] w41 := ⟨hkw41.out, trivial⟩
      refine hK.out _ _ (hH.store HZ5.1 ⟨Nat.ne_of_lt h25, Nat.le_trans h02 (Nat.le_of_lt h25), trivial⟩ hsw41.out hbw41 how41) (fun hw41 => ?_)
      clear hK K
      try simp only [Act.put, List.setIfInBounds_toArray, List.set_cons_zero, List.set_cons_succ]
      refine held_v 3 (some 6) rfl (by kernel_rfl) (by kernel_rfl) (by kernel_rfl) (by kernel_rfl) (fun c a v w h => HQ2.out c a _ v w h) (by kernel_rfl) (.int .i64 1) (fun W h => by kernel_rfl) hw41 ?_
      try simp only [Act.put, List.setIfInBounds_toArray, List.set_cons_zero, List.set_cons_succ]
      refine wpAnyH_done (by kernel_rfl) ?_ _
      refine HQ1.out _ _ ?_
      clear HQ1 HQ2
      go_wp2_with (refine bodyPost_mid 4 5 6 28 rfl g5 rfl (.int .u64 0) (.int .i64 1) rfl rfl 28 V ex42.1 _ Tryz.underlying28 rfl SV.out rfl ?_)
      exact HEND.out _ hw41.2.1
  · have hgood : rightS s = true ∧ 0 ≤ k ∧ k ≤ 64 := Decidable.of_not_not hbad
    obtain ⟨hr, kk0, kk1⟩ := hgood
    have ng0 : ¬ k < 0 := by omega
    have ng1 : ¬ 64 < k := by omega
    rw [hr] at HRT
    obtain ⟨K, rfl⟩ := Int.eq_ofNat_of_zero_le kk0
    have e3 : IntKind.u64.wrap (K : Int) = K := by rw [IntKind.wrap_u64]; omega
    clear k0 k1
    obtain ⟨lf, hlf⟩ : ∃ x, leftS s = x := ⟨_, rfl⟩
    rw [hlf] at HLT hll
    by_cases hmore : lf < (K : Int)
    · have hE : takeE s (K : Int) = 8 := by unfold takeE; rw [if_pos ⟨hr, kk0, kk1⟩, hlf, if_neg (by omega)]
      have HEND : Hid (∀ w', Below w.heap.size w w' → RetTake w s (K : Int) A (.returned (.tuple #[.int .u64 0, .agg (srcV s A c), .int .i64 8])) w') := Lib.hid (fun w' hb => ⟨A, c, by unfold takeV takeS; rw [hE]; rfl, (hRd.out.below hb).mono hb.size, hc, hcm, .inl rfl, hb⟩)
      obtain ⟨V, hV⟩ : ∃ V, srcV s A c = V := ⟨_, rfl⟩
      rw [hV] at HRT HLT SV OV ZV HEND
      rw [hV]
      clear hZ hV hE hbad hrd hlf
      go_enter Tryz.func84, Tryz.ntmps84
      go_wp2_with (first
        | (with_reducible refine at_any ?_; refine at_dst 2 rfl ?_; refine wpList_box_any rfl 28 (.tmp 0) rfl V rfl ?_; intro w1 hk1 hs1 hb1)
        | (with_reducible refine at_any ?_; refine at_dst 5 rfl ?_; refine wpList_alloc_any rfl 28 rfl Z HZ0.out ?_; intro w2 hk2 hs2 hb2; have k2 := Lib.hid (hk1.out.below hb2 hk1.out.lt); have bl2 := Lib.hid (hb1.trans (hb2.mono hb1.size)))
        | (with_reducible refine at_any ?_; refine at_dst 9 rfl ?_; refine wpList_load_blk rfl 28 (.tmp 2) rfl w.heap.size rfl 28 V k2.out _ Tryz.underlying28 rfl SV.out ?_)
        | (go_at_call 34; (with_reducible refine (HRT.out _).mono ?_); rintro e wy ⟨rfl, hby⟩; have k2y := Lib.hid (k2.out.below hby k2.out.lt); have bly := Lib.hid (bl2.out.trans (hby.mono bl2.out.size)))
        | (with_reducible refine at_any ?_; refine at_dst 23 rfl ?_; refine wpList_load_blk rfl 28 (.tmp 2) rfl w.heap.size rfl 28 V k2y.out _ Tryz.underlying28 rfl SV.out ?_)
        | (go_at_call 100; (with_reducible refine (HLT.out _).mono ?_); rintro e wz ⟨rfl, hbz⟩))
      have HB2 : Src2 w w.heap.size w1.heap.size V Z wz := ⟨(hk2.out.below hby hk2.out.lt).below hbz (hk2.out.below hby hk2.out.lt).lt, k2y.out.below hbz k2y.out.lt, bly.out.trans (hbz.mono bly.out.size), trivial⟩
      have h25 : w.heap.size < w1.heap.size := by rw [hs1.out]; omega
      obtain ⟨g2, hg2⟩ : ∃ g, w.heap.size = g := ⟨_, rfl⟩
      obtain ⟨g5, hg5⟩ : ∃ g, w1.heap.size = g := ⟨_, rfl⟩
      have h02 : w.heap.size ≤ g2 := by omega
      rw [hg2, hg5] at HB2 h25
      rw [hg2, hg5]
      clear hg2 hg5 hk1 hs1 hb1 hk2 hs2 hb2 k2 bl2 hbz hby k2y bly
      have hS := HB2.keep.drew
      have HZ5 := HB2.old.drew
      refine wp_region_held_drew (S := (Fx [.blk g2 28 V, .bel w])) (by kernel_rfl) hS (fun hH => ?_)
      refine wpAnyH_letter #[false, false, false, false] (by kernel_rfl) (fun _ _ d _ _ h => by cases d <;> exact h) (fun QL HQ1 HQ2 => ?_)
      refine held_row 0 (some 26) rfl (by kernel_rfl) (by kernel_rfl) (by kernel_rfl) (by kernel_rfl) (fun c a v w h => HQ2.out c a _ v w h) (by kernel_rfl) 28 (.tmp 2) rfl g2 (by kernel_rfl) 28 V (fun _ h => h.1) _ Tryz.underlying28 rfl SV.out hH ?_
      try simp only [Act.put, List.setIfInBounds_toArray, List.set_cons_zero, List.set_cons_succ]
      refine held_v 1 (some 4) rfl (by kernel_rfl) (by kernel_rfl) (by kernel_rfl) (by kernel_rfl) (fun c a v w h => HQ2.out c a _ v w h) (by kernel_rfl) (.int .u64 0) (fun W h => by kernel_rfl) hH ?_
      try simp only [Act.put, List.setIfInBounds_toArray, List.set_cons_zero, List.set_cons_succ]
      refine wpAnyH_ready (rs := [2]) (by kernel_rfl) (by decide) ?_
      refine AllReadyH.cons rfl (fun K hK => ?_) AllReadyH.nil
      refine step_store none (by kernel_rfl) (by kernel_rfl) 28 (.tmp 5) (.tmp 26) rfl g5 (by kernel_rfl) 28 Z V HZ5.1 (by kernel_rfl) ZV.out SV.out OV.out ?_
      intro w41 hkw41 hsw41 hbw41 how41
      have ex42 : Fx [.blk g5 28 V] w41 := ⟨hkw41.out, trivial⟩
      refine hK.out _ _ (hH.store HZ5.1 ⟨Nat.ne_of_lt h25, Nat.le_trans h02 (Nat.le_of_lt h25), trivial⟩ hsw41.out hbw41 how41) (fun hw41 => ?_)
      clear hK K
      try simp only [Act.put, List.setIfInBounds_toArray, List.set_cons_zero, List.set_cons_succ]
      refine held_v 3 (some 6) rfl (by kernel_rfl) (by kernel_rfl) (by kernel_rfl) (by kernel_rfl) (fun c a v w h => HQ2.out c a _ v w h) (by kernel_rfl) (.int .i64 8) (fun W h => by kernel_rfl) hw41 ?_
      try simp only [Act.put, List.setIfInBounds_toArray, List.set_cons_zero, List.set_cons_succ]
      refine wpAnyH_done (by kernel_rfl) ?_ _
      refine HQ1.out _ _ ?_
      clear HQ1 HQ2
      go_wp2_with (refine bodyPost_mid 4 5 6 28 rfl g5 rfl (.int .u64 0) (.int .i64 8) rfl rfl 28 V ex42.1 _ Tryz.underlying28 rfl SV.out rfl ?_)
      exact HEND.out _ hw41.2.1
    · have hle : (K : Int) ≤ lf := by omega
      have hE : takeE s (K : Int) = 0 := by unfold takeE; rw [if_pos ⟨hr, kk0, kk1⟩, hlf, if_pos hle]
      have hat : s.at_ + lf < 18446744073709551616 := by
        rcases rightS_end hr with h | h
        · rw [hlf] at h; exact h.1
        · exact absurd ok h
      have a0 := ok.a0
      have hnum : takeV s (K : Int) = numS s s.at_ K := by unfold takeV; rw [if_pos hE, Int.toNat_natCast]
      have hsrc : takeS s (K : Int) = s.to (s.at_ + K) := by unfold takeS; rw [if_pos hE]
      have HIN := Lib.hid (fun i => numS_in s s.at_ i)
      have HNX := Lib.hid (fun i => numS_succ s s.at_ i)
      have HPW := Lib.hid (fun (i : Nat) (h : i ≤ 63) => pow2_le i h)
      have hkd : s.kind = 2 ∨ s.at_ + (K : Int) ≤ 8 * (s.tape.length : Int) := by
        unfold leftS at hlf
        rw [if_pos hr] at hlf
        unfold rightS at hr
        split at hr
        · rename_i h1
          rw [if_pos h1] at hlf
          simp at hr
          exact .inr (by omega)
        · simp at hr
          exact .inl hr.1
      have hbi : ∀ (i : Nat), i < K → ∀ W : World, Rd .u8 W W.heap.size A s.tape.length s.tape → Calls Tryz.prog 101 #[.agg (srcV (s.to (s.at_ + i)) A c), .int .u64 (s.at_ + i)] W fun e w' => e = .returned (.int .u64 (bitS s (s.at_ + i))) ∧ Below W.heap.size W w' := fun i h W h2 => rsbit_c (s.to (s.at_ + i)) (ok.to_ _ (by omega) (by omega)) (s.at_ + i) (by omega) (by omega) (by rcases hkd with h3 | h3; exact .inl h3; exact .inr (show s.at_ + (i : Int) < 8 * (s.tape.length : Int) by omega)) A c W h2
      have HBI := Lib.hid hbi
      have HST := Lib.hid (fun (i : Nat) (h : i < K) => srcV_set (s.to (s.at_ + i)) ok.sl A c (s.at_ + i + 1))
      have HC6 := Lib.hid (fun (W : World) (g i : Nat) (h : Blk W g 28 (srcV (s.to (s.at_ + i)) A c)) => (h.cell 36).trans (srcV_at (s.to (s.at_ + i)) ok.sl A c))
      have HSZ := Lib.hid (fun (i : Nat) => sizedS (s.to (s.at_ + i)) ok.sl A c)
      have HSZ2 := Lib.hid (fun (i : Nat) => srcV_size (s.to (s.at_ + i)) ok.sl A c)
      have HS0 := Lib.hid (show srcV (s.to (s.at_ + ((0 : Nat) : Int))) A c = srcV s A c by rw [Int.natCast_zero, Int.add_zero]; rfl)
      have SVK := Lib.hid (sizedS (s.to (s.at_ + K)) ok.sl A c)
      have OVK := Lib.hid (srcV_ones (s.to (s.at_ + K)) A c)
      have ZVK := Lib.hid (srcV_same Src.zero (s.to (s.at_ + K)) rfl ok.sl none A 0 c)
      have HEND : Hid (∀ w', Below w.heap.size w w' → RetTake w s (K : Int) A (.returned (.tuple #[.int .u64 (numS s s.at_ K), .agg (srcV (s.to (s.at_ + K)) A c), .int .i64 0])) w') := Lib.hid (fun w' hb => ⟨A, c, by rw [hnum, hsrc, hE], (hRd.out.below hb).mono hb.size, hc, hcm, .inl rfl, hb⟩)
      rw [hZ] at ZVK
      obtain ⟨V, hV⟩ : ∃ V, srcV s A c = V := ⟨_, rfl⟩
      rw [hV] at HRT HLT SV OV ZV HS0
      rw [hV]
      have HRS := Lib.hid (show Rd .u8 w w.heap.size A s.tape.length s.tape from hrd)
      obtain ⟨n0, hn0⟩ : ∃ x, s.at_ = x := ⟨_, rfl⟩
      clear hZ hV hE hbad hrd hlf hnum hsrc hkd hr hbi
      go_enter Tryz.func84, Tryz.ntmps84
      go_wp2_with (first
        | (with_reducible refine at_any ?_; refine at_dst 2 rfl ?_; refine wpList_box_any rfl 28 (.tmp 0) rfl V rfl ?_; intro w1 hk1 hs1 hb1)
        | (with_reducible refine at_any ?_; refine at_dst 5 rfl ?_; refine wpList_alloc_any rfl 28 rfl Z HZ0.out ?_; intro w2 hk2 hs2 hb2; have k2 := Lib.hid (hk1.out.below hb2 hk1.out.lt); have bl2 := Lib.hid (hb1.trans (hb2.mono hb1.size)))
        | (with_reducible refine at_any ?_; refine at_dst 9 rfl ?_; refine wpList_load_blk rfl 28 (.tmp 2) rfl w.heap.size rfl 28 V k2.out _ Tryz.underlying28 rfl SV.out ?_)
        | (go_at_call 34; (with_reducible refine (HRT.out _).mono ?_); rintro e wy ⟨rfl, hby⟩; have k2y := Lib.hid (k2.out.below hby k2.out.lt); have bly := Lib.hid (bl2.out.trans (hby.mono bl2.out.size)))
        | (with_reducible refine at_any ?_; refine at_dst 23 rfl ?_; refine wpList_load_blk rfl 28 (.tmp 2) rfl w.heap.size rfl 28 V k2y.out _ Tryz.underlying28 rfl SV.out ?_)
        | (go_at_call 100; (with_reducible refine (HLT.out _).mono ?_); rintro e wz ⟨rfl, hbz⟩))
      have HB2 : Src2 w w.heap.size w1.heap.size V Z wz := ⟨(hk2.out.below hby hk2.out.lt).below hbz (hk2.out.below hby hk2.out.lt).lt, k2y.out.below hbz k2y.out.lt, bly.out.trans (hbz.mono bly.out.size), trivial⟩
      have h25 : w.heap.size < w1.heap.size := by rw [hs1.out]; omega
      obtain ⟨g2, hg2⟩ : ∃ g, w.heap.size = g := ⟨_, rfl⟩
      obtain ⟨g5, hg5⟩ : ∃ g, w1.heap.size = g := ⟨_, rfl⟩
      have h02 : w.heap.size ≤ g2 := by omega
      rw [hg2, hg5] at HB2 h25
      rw [hg2, hg5]
      clear hg2 hg5 hk1 hs1 hb1 hk2 hs2 hb2 k2 bl2 hbz hby k2y bly
      go_loopw [7, 8] (fun v cc wr => ∃ i : Nat, i ≤ K ∧ v = .int .u64 (numS s s.at_ i) ∧ cc = .int .i64 i ∧ Src2 w g2 g5 (srcV (s.to (s.at_ + i)) A c) Z wr) (fun _ cc _ => K - (intOf cc).toNat)
      case atStart => exact ⟨0, by omega, rfl, rfl, by rw [HS0.out]; exact HB2⟩
      case round =>
        clear HB2
        obtain ⟨i, hi, rfl, rfl, hF⟩ := hrel
        by_cases hlt : i < K
        · obtain ⟨x0, x1⟩ := HIN.out i
          have hnx := HNX.out i
          have hpw := HPW.out i (by omega)
          obtain ⟨b0, b1⟩ := bitS_in s (s.at_ + i)
          have c6 := HC6.out _ _ i hF.fst
          change _ = some (Value.int .u64 (s.at_ + i)) at c6
          have HBI1 := Lib.hid (fun W h2 => HBI.out i hlt W h2)
          have HS1 := Lib.hid (HSZ.out i)
          have HS2 := Lib.hid (HSZ2.out i)
          have HS3 := Lib.hid (HST.out i hlt)
          have HCI := Lib.hid (fun W g h => HC6.out W g i h)
          have nb : s.at_ + (i : Int) + 1 < 18446744073709551616 := by omega
          have n00 : 0 ≤ s.at_ + (i : Int) := by omega
          have HN1 := Lib.hid (show s.at_ + (i : Int) + 1 = s.at_ + ((i + 1 : Nat) : Int) by omega)
          obtain ⟨Vi, hVi⟩ : ∃ V, srcV (s.to (s.at_ + i)) A c = V := ⟨_, rfl⟩
          rw [hVi] at hF HBI1 HS1 HS2 HS3 HCI
          change Hid (∀ (W : World) (g : Nat), Blk W g 28 Vi → W.cell? ⟨g, 36, none⟩ = some (.int .u64 (s.at_ + i))) at HCI
          obtain ⟨X, hX⟩ : ∃ x, numS s s.at_ i = x := ⟨_, rfl⟩
          obtain ⟨b, hb⟩ : ∃ x, bitS s (s.at_ + i) = x := ⟨_, rfl⟩
          obtain ⟨N, hN⟩ : ∃ x, s.at_ + (i : Int) = x := ⟨_, rfl⟩
          rw [hX, hb] at hnx
          rw [hX] at x0 x1
          rw [hb] at b0 b1 HBI1
          rw [hN] at c6 HBI1 HS3 HCI nb n00 HN1
          rw [hX]
          have HNXi := Lib.hid hnx
          have HF := Lib.hid hF
          have e4 : IntKind.u64.wrap (2 * X) = 2 * X := by rw [IntKind.wrap_u64]; omega
          have e5 : IntKind.u64.wrap (2 * X + b) = 2 * X + b := by rw [IntKind.wrap_u64]; omega
          have e6 : IntKind.u64.wrap (N + 1) = N + 1 := by rw [IntKind.wrap_u64]; omega
          clear hnx hVi hX hb hN hF hpw
          go_wp2_with (first
            | (with_reducible refine at_any ?_; refine at_dst 34 rfl ?_; refine wpList_load_blk rfl 28 (.tmp 2) rfl g2 rfl 28 Vi HF.out.fst _ Tryz.underlying28 rfl HS1.out ?_)
            | (go_at_call 101; (with_reducible refine (HBI1.out _ ((HRS.out.below HF.out.bel).mono HF.out.bel.size)).mono ?_); rintro e w5 ⟨rfl, hb5⟩; have F5 := Lib.hid (HF.out.below hb5); have c7 := HCI.out _ _ F5.out.fst; clear hb5)
            | (with_reducible refine at_any ?_; refine at_store 42 rfl ?_; refine wpList_store_cell rfl 24 (.tmp 42) (.tmp 41) rfl g2 36 rfl 28 Vi F5.out.fst (.int .u64 (N + 1)) rfl (by rw [HS2.out]; omega) size_u64s rfl rfl ?_; intro w9 hk9 ho9; have K9 := Lib.hid hk9.out; rw [HS3.out] at K9; have F9 := Lib.hid (F5.out.only h02 h25 K9.out ho9); clear hk9 ho9 K9))
          go_roundw
          case rel => exact ⟨i + 1, by omega, by rw [HNXi.out], by go_num, by have h := F9.out; rw [HN1.out] at h; exact h⟩
          case measure => simp [intOf]; omega
        · obtain rfl : i = K := by omega
          have HB2 : Src2 w g2 g5 (srcV (s.to (s.at_ + i)) A c) Z wr := hF
          have SV := Lib.hid SVK.out
          have OV := Lib.hid OVK.out
          have ZV := Lib.hid ZVK.out
          have HE2 := Lib.hid HEND.out
          obtain ⟨X, hX⟩ : ∃ x, numS s s.at_ i = x := ⟨_, rfl⟩
          obtain ⟨V, hV⟩ : ∃ V, srcV (s.to (s.at_ + i)) A c = V := ⟨_, rfl⟩
          rw [hV] at HB2 SV OV ZV HE2
          rw [hX] at HE2
          rw [hX]
          have HEND := Lib.hid HE2.out
          clear hF hX hV HIN HNX HPW HBI HST HC6 HSZ HSZ2 SVK OVK ZVK
          go_wp2_with fail
          have hS := HB2.keep.drew
          have HZ5 := HB2.old.drew
          refine wp_region_held_drew (S := (Fx [.blk g2 28 V, .bel w])) (by kernel_rfl) hS (fun hH => ?_)
          refine wpAnyH_letter #[false, false, false, false, false] (by kernel_rfl) (fun _ _ d _ _ h => by cases d <;> exact h) (fun QL HQ1 HQ2 => ?_)
          refine held_v 0 (some 43) rfl (by kernel_rfl) (by kernel_rfl) (by kernel_rfl) (by kernel_rfl) (fun c a v w h => HQ2.out c a _ v w h) (by kernel_rfl) (.int .u64 X) (fun W h => by kernel_rfl) hH ?_
          try simp only [Act.put, List.setIfInBounds_toArray, List.set_cons_zero, List.set_cons_succ]
          refine held_row 1 (some 44) rfl (by kernel_rfl) (by kernel_rfl) (by kernel_rfl) (by kernel_rfl) (fun c a v w h => HQ2.out c a _ v w h) (by kernel_rfl) 28 (.tmp 2) rfl g2 (by kernel_rfl) 28 V (fun _ h => h.1) _ Tryz.underlying28 rfl SV.out hH ?_
          try simp only [Act.put, List.setIfInBounds_toArray, List.set_cons_zero, List.set_cons_succ]
          refine held_v 2 (some 4) rfl (by kernel_rfl) (by kernel_rfl) (by kernel_rfl) (by kernel_rfl) (fun c a v w h => HQ2.out c a _ v w h) (by kernel_rfl) (.int .u64 X) (fun W h => by kernel_rfl) hH ?_
          try simp only [Act.put, List.setIfInBounds_toArray, List.set_cons_zero, List.set_cons_succ]
          refine wpAnyH_ready (rs := [3]) (by kernel_rfl) (by decide) ?_
          refine AllReadyH.cons rfl (fun K hK => ?_) AllReadyH.nil
          refine step_store none (by kernel_rfl) (by kernel_rfl) 28 (.tmp 5) (.tmp 44) rfl g5 (by kernel_rfl) 28 Z V HZ5.1 (by kernel_rfl) ZV.out SV.out OV.out ?_
          intro w41 hkw41 hsw41 hbw41 how41
          have ex42 : Fx [.blk g5 28 V] w41 := ⟨hkw41.out, trivial⟩
          refine hK.out _ _ (hH.store HZ5.1 ⟨Nat.ne_of_lt h25, Nat.le_trans h02 (Nat.le_of_lt h25), trivial⟩ hsw41.out hbw41 how41) (fun hw41 => ?_)
          clear hK K
          try simp only [Act.put, List.setIfInBounds_toArray, List.set_cons_zero, List.set_cons_succ]
          refine held_v 4 (some 6) rfl (by kernel_rfl) (by kernel_rfl) (by kernel_rfl) (by kernel_rfl) (fun c a v w h => HQ2.out c a _ v w h) (by kernel_rfl) (.int .i64 0) (fun W h => by kernel_rfl) hw41 ?_
          try simp only [Act.put, List.setIfInBounds_toArray, List.set_cons_zero, List.set_cons_succ]
          refine wpAnyH_done (by kernel_rfl) ?_ _
          refine HQ1.out _ _ ?_
          clear HQ1 HQ2
          go_wp2_with (refine bodyPost_mid 4 5 6 28 rfl g5 rfl (.int .u64 X) (.int .i64 0) rfl rfl 28 V ex42.1 _ Tryz.underlying28 rfl SV.out rfl ?_)
          exact HEND.out _ hw41.2.1
set_option maxHeartbeats 1000000 in
theorem rstape_c (zs : List Int) (hzl : zs.length ≤ 1000000) (b : Int) (b0 : 0 ≤ b) (b1 : b < 18446744073709551616) (A : Option Addr) (n c : Nat) (w : World) (hrd : Rd .u8 w w.heap.size A n zs) (hnc : n ≤ c) : Calls Tryz.prog 23 #[.slice A n c, .int .u64 b] w (RetTape w zs b) := by
  obtain ⟨i0, hi, hz0, hz1, hzb⟩ := info_parts info_u8'
  have hl := hrd.len
  have e1 : IntKind.u64.wrap (8 * (n : Int)) = 8 * n := by rw [IntKind.wrap_u64]; omega
  have HZ0 := Lib.hid zero_src
  have SZ := Lib.hid (sizedS Src.zero rfl none 0)
  have OZ := Lib.hid (srcV_ones Src.zero none 0)
  have HB0 := Lib.hid (fun (a : Act) (o : Oper) W h => build_src0 (a := a) (o := o) W h)
  have hR : RetTape w zs b = if b ≤ 8 * (zs.length : Int) then (fun e w' => ∃ A' c', e = .returned (.tuple #[.agg (srcV (Src.tapeOf zs b) A' c'), .int .i64 0]) ∧ Rd .u8 w' w'.heap.size A' zs.length zs ∧ zs.length ≤ c' ∧ c' ≤ maxLen ∧ Below w.heap.size w w') else (fun e w' => e = .returned (.tuple #[.agg (srcV Src.zero none 0), .int .i64 1]) ∧ Below w.heap.size w w') := by
    funext e w'
    unfold RetTape
    split <;> rfl
  rw [hR]
  obtain ⟨Z, hZ⟩ : ∃ Z, srcV Src.zero none 0 = Z := ⟨_, rfl⟩
  rw [hZ] at HZ0 SZ OZ HB0
  rw [hZ]
  by_cases hbig : b ≤ 8 * (zs.length : Int)
  · rw [if_pos hbig]
    have hT := Lib.hid (fun (A' : Option Addr) (c' : Nat) => sizedS (Src.tapeOf zs b) (by rfl) A' c')
    have OT := Lib.hid (fun (A' : Option Addr) (c' : Nat) => srcV_ones (Src.tapeOf zs b) A' c')
    have ZT := Lib.hid (fun (A' : Option Addr) (c' : Nat) => srcV_same Src.zero (Src.tapeOf zs b) rfl (by rfl) none A' 0 c')
    have BT := Lib.hid (fun (a : Act) (o : Oper) (x y z : Operand) (W : World) (A' : Option Addr) (c' : Nat) h1 h2 (h3 : a.eval y = .slice A' n c') h4 => build_src1 (a := a) (o := o) (x := x) (y := y) (z := z) W A' c' zs b h1 h2 (by rw [hl]; exact h3) h4)
    rw [hZ] at ZT
    rw [hl] at hbig ⊢
    have HRD := Lib.hid hrd
    have HLZ := Lib.hid hl
    have hn : n ≤ 1000000 := by omega
    clear hZ hR hrd hl hzl
    go_enter Tryz.func23, Tryz.ntmps23
    go_wp2_with (first
      | (with_reducible refine at_any ?_; refine at_dst 4 rfl ?_; refine wpList_alloc_any rfl 28 rfl Z HZ0.out ?_; intro w1 hk1 hs1 hb1)
      | (at_builtin; refine wpList_append_ints _ rfl (.tmp 13) (.tmp 14) 23 rfl w.heap.size 5 i0 _ 1 .u8 Tryz.underlying23 hi hz0 hz1 hzb rfl _ [] rfl (own_empty w1 5 .u8 hb1.size) w.heap.size A n c zs rfl ((HRD.out.below hb1).alloc hb1.size _) (by simp [maxLen]; omega) (by simp; omega) (by have := hb1.size; simp; omega) ?_; intro v2 w2 hown2 hg2 hat2; have hb2 : Below w.heap.size w w2 := (own_empty w1 5 .u8 hb1.size).below_ (hb1.alloc hb1.size _) (by have := hb1.size; simp; omega) hg2; have hk2 : Blk w2 w.heap.size 28 Z := Blk.grown (hk1.out.alloc _) (own_empty w1 5 .u8 hb1.size) (by decide) hg2; simp only [List.nil_append] at hown2; obtain ⟨A2, c2, rfl, hc2, hm2⟩ := hown2.form; rw [HLZ.out] at hown2 hc2 ⊢; clear hg2 hat2)
      | (with_reducible refine at_any ?_; refine at_dst 17 rfl ?_; refine wpList_val rfl (.agg (srcV (Src.tapeOf zs b) A2 c2)) (BT.out _ _ _ _ _ _ A2 c2 rfl rfl rfl rfl) ?_)
      | (with_reducible refine at_any ?_; refine at_store 4 rfl ?_; refine wpList_store_any rfl 28 (.tmp 4) (.tmp 17) rfl w.heap.size rfl 28 Z (srcV (Src.tapeOf zs b) A2 c2) hk2 rfl (ZT.out _ _) (hT.out _ _) (OT.out _ _) ?_; intro w3 hk3 hs3 hb3 ho3)
      | (refine bodyPost_any2 4 5 28 rfl w.heap.size rfl (.int .i64 0) rfl 28 (srcV (Src.tapeOf zs b) A2 c2) hk3.out _ Tryz.underlying28 rfl (hT.out _ _) rfl ?_))
    exact ⟨A2, c2, rfl, ((hown2.rd HLZ.out).other ho3 (hown2.apart hk2 (by decide))).fit, hc2, hm2, hb2.trans (hb3 _ (Nat.le_refl _))⟩
  · rw [if_neg hbig]
    rw [hl] at hbig
    clear hZ hR hrd hl
    go_enter Tryz.func23, Tryz.ntmps23
    go_wp2_with (first
      | (with_reducible refine at_any ?_; refine at_dst 4 rfl ?_; refine wpList_alloc_any rfl 28 rfl Z HZ0.out ?_; intro w1 hk1 hs1 hb1)
      | (with_reducible refine at_any ?_; refine at_dst 12 rfl ?_; refine wpList_val rfl (.agg Z) (HB0.out _ _ _ rfl) ?_)
      | (with_reducible refine at_any ?_; refine at_store 4 rfl ?_; refine wpList_store_any rfl 28 (.tmp 4) (.tmp 12) rfl w.heap.size rfl 28 Z Z hk1.out rfl rfl SZ.out OZ.out ?_; intro w3 hk3 hs3 hb3 ho3)
      | (refine bodyPost_any2 4 5 28 rfl w.heap.size rfl (.int .i64 1) rfl 28 Z hk3.out _ Tryz.underlying28 rfl SZ.out rfl ?_))
    exact hb1.trans (hb3 _ (Nat.le_refl _))
set_option maxHeartbeats 4000000 in
theorem rssame_c (a b : Src) (oka : a.Ok) (okb : b.Ok) (A B : Option Addr) (c d : Nat) (w : World) (hra : Rd .u8 w w.heap.size A a.tape.length a.tape) (hrb : Rd .u8 w w.heap.size B b.tape.length b.tape) : Calls Tryz.prog 13 #[.agg (srcV a A c), .agg (srcV b B d)] w fun e w' => e = .returned (.bool (sameS a b)) ∧ Below w.heap.size w w' := by
  have HA := Lib.hid (fun (W : World) (g : Nat) (h : Blk W g 28 (srcV a A c)) => And.intro ((h.cell 0).trans (srcV_kind a A c)) (And.intro ((h.cell 1).trans (srcV_tape a A c)) (And.intro ((h.cell 2).trans (srcV_bits a A c)) (And.intro ((h.cell 35).trans (srcV_dom a oka.sl A c)) (And.intro ((h.cell 36).trans (srcV_at a oka.sl A c)) (srcV_seed h))))))
  have HB := Lib.hid (fun (W : World) (g : Nat) (h : Blk W g 28 (srcV b B d)) => And.intro ((h.cell 0).trans (srcV_kind b B d)) (And.intro ((h.cell 1).trans (srcV_tape b B d)) (And.intro ((h.cell 2).trans (srcV_bits b B d)) (And.intro ((h.cell 35).trans (srcV_dom b okb.sl B d)) (And.intro ((h.cell 36).trans (srcV_at b okb.sl B d)) (srcV_seed h))))))
  have SA := Lib.hid (show (Tryz.prog.info? 26).map (·.size) = some a.seed.length by rw [oka.sl]; exact size_hash)
  have SB := Lib.hid (show (Tryz.prog.info? 26).map (·.size) = some b.seed.length by rw [okb.sl]; exact size_hash)
  have HRA := Lib.hid hra
  have HRB := Lib.hid hrb
  by_cases h0 : a.kind = b.kind
  · by_cases h1 : a.tape = b.tape
    · by_cases h2 : a.bits = b.bits
      · by_cases h3 : a.seed = b.seed
        · by_cases h4 : a.dom = b.dom
          · by_cases h5 : a.at_ = b.at_
            · have HR : Hid (sameS a b = true) := Lib.hid (by unfold sameS; rw [decide_eq_true h0, decide_eq_true h1, decide_eq_true h2, decide_eq_true h3, decide_eq_true h4, decide_eq_true h5]; simp)
              have t0 : (a.kind == b.kind) = true := by rw [beq_iff_eq]; exact h0
              have t1 : ((strB a.tape).toList == (strB b.tape).toList) = true := by rw [beq_iff_eq, h1]
              have t2 : (a.bits == b.bits) = true := by rw [beq_iff_eq]; exact h2
              have HSE := Lib.hid (fun W => (show (Op.equalIn 10000 26 (.agg (intsA .u8 a.seed)) (.agg (intsA .u8 b.seed))).run Tryz.prog W = .ok true W by rw [eq_hash a.seed b.seed oka.sl okb.sl, decide_eq_true h3]))
              have t4 : (a.dom == b.dom) = true := by rw [beq_iff_eq]; exact h4
              have t5 : (a.at_ == b.at_) = true := by rw [beq_iff_eq]; exact h5
              have t3 := HSE.out
              clear HSE
              obtain ⟨Va, hVa⟩ : ∃ V, srcV a A c = V := ⟨_, rfl⟩
              obtain ⟨Vb, hVb⟩ : ∃ V, srcV b B d = V := ⟨_, rfl⟩
              rw [hVa] at HA
              rw [hVb] at HB
              rw [hVa, hVb]
              clear hVa hVb hra hrb h0 h1 h2 h3 h4 h5
              obtain ⟨a_kind, ha_kind⟩ : ∃ x, a.kind = x := ⟨_, rfl⟩
              obtain ⟨b_kind, hb_kind⟩ : ∃ x, b.kind = x := ⟨_, rfl⟩
              obtain ⟨a_bits, ha_bits⟩ : ∃ x, a.bits = x := ⟨_, rfl⟩
              obtain ⟨b_bits, hb_bits⟩ : ∃ x, b.bits = x := ⟨_, rfl⟩
              obtain ⟨a_dom, ha_dom⟩ : ∃ x, a.dom = x := ⟨_, rfl⟩
              obtain ⟨b_dom, hb_dom⟩ : ∃ x, b.dom = x := ⟨_, rfl⟩
              obtain ⟨a_at_, ha_at_⟩ : ∃ x, a.at_ = x := ⟨_, rfl⟩
              obtain ⟨b_at_, hb_at_⟩ : ∃ x, b.at_ = x := ⟨_, rfl⟩
              rw [ha_kind, ha_bits, ha_dom, ha_at_] at HA
              rw [hb_kind, hb_bits, hb_dom, hb_at_] at HB
              rw [ha_kind, hb_kind] at t0
              rw [ha_bits, hb_bits] at t2
              rw [ha_dom, hb_dom] at t4
              rw [ha_at_, hb_at_] at t5
              clear ha_kind ha_bits ha_dom ha_at_ hb_kind hb_bits hb_dom hb_at_
              go_enter Tryz.func13, Tryz.ntmps13
              go_wp2_with (first
                | (with_reducible refine at_any ?_; refine at_dst 2 rfl ?_; refine wpList_box_any rfl 28 (.tmp 0) rfl Va rfl ?_; intro w1 hk1 hs1 hb1)
                | (with_reducible refine at_any ?_; refine at_dst 3 rfl ?_; refine wpList_box_any rfl 28 (.tmp 1) rfl Vb rfl ?_; intro w2 hk2 hs2 hb2; have ka := Lib.hid (hk1.out.below hb2 hk1.out.lt); have bl := Lib.hid (hb1.trans (hb2.mono hb1.size)); have ca0 := (HA.out _ _ ka.out).1; have ca1 := (HA.out _ _ ka.out).2.1; have ca2 := (HA.out _ _ ka.out).2.2.1; have ca4 := (HA.out _ _ ka.out).2.2.2.1; have ca5 := (HA.out _ _ ka.out).2.2.2.2.1; have cb0 := (HB.out _ _ hk2.out).1; have cb1 := (HB.out _ _ hk2.out).2.1; have cb2 := (HB.out _ _ hk2.out).2.2.1; have cb4 := (HB.out _ _ hk2.out).2.2.2.1; have cb5 := (HB.out _ _ hk2.out).2.2.2.2.1; have xa := str_rd5 (c := c) (HRA.out.below bl.out); have xb := str_rd5 (c := d) (HRB.out.below bl.out))
                | (with_reducible refine at_any ?_; refine at_dst 28 rfl ?_; refine wpList_load_gdo (by kernel_rfl) 26 (.tmp 27) rfl w.heap.size 3 rfl .u8 a.seed (HA.out _ _ ka.out).2.2.2.2.2 _ Tryz.underlying26 rfl SA.out ?_)
                | (with_reducible refine at_any ?_; refine at_dst 30 rfl ?_; refine wpList_load_gdo (by kernel_rfl) 26 (.tmp 29) rfl w1.heap.size 3 rfl .u8 b.seed (HB.out _ _ hk2.out).2.2.2.2.2 _ Tryz.underlying26 rfl SB.out ?_))
              go_ret
              exact ⟨by rw [HR.out]; rfl, bl.out⟩
            · have HR : Hid (sameS a b = false) := Lib.hid (by unfold sameS; rw [decide_eq_true h0, decide_eq_true h1, decide_eq_true h2, decide_eq_true h3, decide_eq_true h4, decide_eq_false h5]; simp)
              have t0 : (a.kind == b.kind) = true := by rw [beq_iff_eq]; exact h0
              have t1 : ((strB a.tape).toList == (strB b.tape).toList) = true := by rw [beq_iff_eq, h1]
              have t2 : (a.bits == b.bits) = true := by rw [beq_iff_eq]; exact h2
              have HSE := Lib.hid (fun W => (show (Op.equalIn 10000 26 (.agg (intsA .u8 a.seed)) (.agg (intsA .u8 b.seed))).run Tryz.prog W = .ok true W by rw [eq_hash a.seed b.seed oka.sl okb.sl, decide_eq_true h3]))
              have t4 : (a.dom == b.dom) = true := by rw [beq_iff_eq]; exact h4
              have t5 : (a.at_ == b.at_) = false := by rw [beq_eq_false_iff_ne]; exact h5
              have t3 := HSE.out
              clear HSE
              obtain ⟨Va, hVa⟩ : ∃ V, srcV a A c = V := ⟨_, rfl⟩
              obtain ⟨Vb, hVb⟩ : ∃ V, srcV b B d = V := ⟨_, rfl⟩
              rw [hVa] at HA
              rw [hVb] at HB
              rw [hVa, hVb]
              clear hVa hVb hra hrb h0 h1 h2 h3 h4 h5
              obtain ⟨a_kind, ha_kind⟩ : ∃ x, a.kind = x := ⟨_, rfl⟩
              obtain ⟨b_kind, hb_kind⟩ : ∃ x, b.kind = x := ⟨_, rfl⟩
              obtain ⟨a_bits, ha_bits⟩ : ∃ x, a.bits = x := ⟨_, rfl⟩
              obtain ⟨b_bits, hb_bits⟩ : ∃ x, b.bits = x := ⟨_, rfl⟩
              obtain ⟨a_dom, ha_dom⟩ : ∃ x, a.dom = x := ⟨_, rfl⟩
              obtain ⟨b_dom, hb_dom⟩ : ∃ x, b.dom = x := ⟨_, rfl⟩
              obtain ⟨a_at_, ha_at_⟩ : ∃ x, a.at_ = x := ⟨_, rfl⟩
              obtain ⟨b_at_, hb_at_⟩ : ∃ x, b.at_ = x := ⟨_, rfl⟩
              rw [ha_kind, ha_bits, ha_dom, ha_at_] at HA
              rw [hb_kind, hb_bits, hb_dom, hb_at_] at HB
              rw [ha_kind, hb_kind] at t0
              rw [ha_bits, hb_bits] at t2
              rw [ha_dom, hb_dom] at t4
              rw [ha_at_, hb_at_] at t5
              clear ha_kind ha_bits ha_dom ha_at_ hb_kind hb_bits hb_dom hb_at_
              go_enter Tryz.func13, Tryz.ntmps13
              go_wp2_with (first
                | (with_reducible refine at_any ?_; refine at_dst 2 rfl ?_; refine wpList_box_any rfl 28 (.tmp 0) rfl Va rfl ?_; intro w1 hk1 hs1 hb1)
                | (with_reducible refine at_any ?_; refine at_dst 3 rfl ?_; refine wpList_box_any rfl 28 (.tmp 1) rfl Vb rfl ?_; intro w2 hk2 hs2 hb2; have ka := Lib.hid (hk1.out.below hb2 hk1.out.lt); have bl := Lib.hid (hb1.trans (hb2.mono hb1.size)); have ca0 := (HA.out _ _ ka.out).1; have ca1 := (HA.out _ _ ka.out).2.1; have ca2 := (HA.out _ _ ka.out).2.2.1; have ca4 := (HA.out _ _ ka.out).2.2.2.1; have ca5 := (HA.out _ _ ka.out).2.2.2.2.1; have cb0 := (HB.out _ _ hk2.out).1; have cb1 := (HB.out _ _ hk2.out).2.1; have cb2 := (HB.out _ _ hk2.out).2.2.1; have cb4 := (HB.out _ _ hk2.out).2.2.2.1; have cb5 := (HB.out _ _ hk2.out).2.2.2.2.1; have xa := str_rd5 (c := c) (HRA.out.below bl.out); have xb := str_rd5 (c := d) (HRB.out.below bl.out))
                | (with_reducible refine at_any ?_; refine at_dst 28 rfl ?_; refine wpList_load_gdo (by kernel_rfl) 26 (.tmp 27) rfl w.heap.size 3 rfl .u8 a.seed (HA.out _ _ ka.out).2.2.2.2.2 _ Tryz.underlying26 rfl SA.out ?_)
                | (with_reducible refine at_any ?_; refine at_dst 30 rfl ?_; refine wpList_load_gdo (by kernel_rfl) 26 (.tmp 29) rfl w1.heap.size 3 rfl .u8 b.seed (HB.out _ _ hk2.out).2.2.2.2.2 _ Tryz.underlying26 rfl SB.out ?_))
              go_ret
              exact ⟨by rw [HR.out]; rfl, bl.out⟩
          · have HR : Hid (sameS a b = false) := Lib.hid (by unfold sameS; rw [decide_eq_true h0, decide_eq_true h1, decide_eq_true h2, decide_eq_true h3, decide_eq_false h4]; simp)
            have t0 : (a.kind == b.kind) = true := by rw [beq_iff_eq]; exact h0
            have t1 : ((strB a.tape).toList == (strB b.tape).toList) = true := by rw [beq_iff_eq, h1]
            have t2 : (a.bits == b.bits) = true := by rw [beq_iff_eq]; exact h2
            have HSE := Lib.hid (fun W => (show (Op.equalIn 10000 26 (.agg (intsA .u8 a.seed)) (.agg (intsA .u8 b.seed))).run Tryz.prog W = .ok true W by rw [eq_hash a.seed b.seed oka.sl okb.sl, decide_eq_true h3]))
            have t4 : (a.dom == b.dom) = false := by rw [beq_eq_false_iff_ne]; exact h4
            have t3 := HSE.out
            clear HSE
            obtain ⟨Va, hVa⟩ : ∃ V, srcV a A c = V := ⟨_, rfl⟩
            obtain ⟨Vb, hVb⟩ : ∃ V, srcV b B d = V := ⟨_, rfl⟩
            rw [hVa] at HA
            rw [hVb] at HB
            rw [hVa, hVb]
            clear hVa hVb hra hrb h0 h1 h2 h3 h4
            obtain ⟨a_kind, ha_kind⟩ : ∃ x, a.kind = x := ⟨_, rfl⟩
            obtain ⟨b_kind, hb_kind⟩ : ∃ x, b.kind = x := ⟨_, rfl⟩
            obtain ⟨a_bits, ha_bits⟩ : ∃ x, a.bits = x := ⟨_, rfl⟩
            obtain ⟨b_bits, hb_bits⟩ : ∃ x, b.bits = x := ⟨_, rfl⟩
            obtain ⟨a_dom, ha_dom⟩ : ∃ x, a.dom = x := ⟨_, rfl⟩
            obtain ⟨b_dom, hb_dom⟩ : ∃ x, b.dom = x := ⟨_, rfl⟩
            obtain ⟨a_at_, ha_at_⟩ : ∃ x, a.at_ = x := ⟨_, rfl⟩
            obtain ⟨b_at_, hb_at_⟩ : ∃ x, b.at_ = x := ⟨_, rfl⟩
            rw [ha_kind, ha_bits, ha_dom, ha_at_] at HA
            rw [hb_kind, hb_bits, hb_dom, hb_at_] at HB
            rw [ha_kind, hb_kind] at t0
            rw [ha_bits, hb_bits] at t2
            rw [ha_dom, hb_dom] at t4
            clear ha_kind ha_bits ha_dom ha_at_ hb_kind hb_bits hb_dom hb_at_
            go_enter Tryz.func13, Tryz.ntmps13
            go_wp2_with (first
              | (with_reducible refine at_any ?_; refine at_dst 2 rfl ?_; refine wpList_box_any rfl 28 (.tmp 0) rfl Va rfl ?_; intro w1 hk1 hs1 hb1)
              | (with_reducible refine at_any ?_; refine at_dst 3 rfl ?_; refine wpList_box_any rfl 28 (.tmp 1) rfl Vb rfl ?_; intro w2 hk2 hs2 hb2; have ka := Lib.hid (hk1.out.below hb2 hk1.out.lt); have bl := Lib.hid (hb1.trans (hb2.mono hb1.size)); have ca0 := (HA.out _ _ ka.out).1; have ca1 := (HA.out _ _ ka.out).2.1; have ca2 := (HA.out _ _ ka.out).2.2.1; have ca4 := (HA.out _ _ ka.out).2.2.2.1; have ca5 := (HA.out _ _ ka.out).2.2.2.2.1; have cb0 := (HB.out _ _ hk2.out).1; have cb1 := (HB.out _ _ hk2.out).2.1; have cb2 := (HB.out _ _ hk2.out).2.2.1; have cb4 := (HB.out _ _ hk2.out).2.2.2.1; have cb5 := (HB.out _ _ hk2.out).2.2.2.2.1; have xa := str_rd5 (c := c) (HRA.out.below bl.out); have xb := str_rd5 (c := d) (HRB.out.below bl.out))
              | (with_reducible refine at_any ?_; refine at_dst 28 rfl ?_; refine wpList_load_gdo (by kernel_rfl) 26 (.tmp 27) rfl w.heap.size 3 rfl .u8 a.seed (HA.out _ _ ka.out).2.2.2.2.2 _ Tryz.underlying26 rfl SA.out ?_)
              | (with_reducible refine at_any ?_; refine at_dst 30 rfl ?_; refine wpList_load_gdo (by kernel_rfl) 26 (.tmp 29) rfl w1.heap.size 3 rfl .u8 b.seed (HB.out _ _ hk2.out).2.2.2.2.2 _ Tryz.underlying26 rfl SB.out ?_))
            go_ret
            exact ⟨by rw [HR.out]; rfl, bl.out⟩
        · have HR : Hid (sameS a b = false) := Lib.hid (by unfold sameS; rw [decide_eq_true h0, decide_eq_true h1, decide_eq_true h2, decide_eq_false h3]; simp)
          have t0 : (a.kind == b.kind) = true := by rw [beq_iff_eq]; exact h0
          have t1 : ((strB a.tape).toList == (strB b.tape).toList) = true := by rw [beq_iff_eq, h1]
          have t2 : (a.bits == b.bits) = true := by rw [beq_iff_eq]; exact h2
          have HSE := Lib.hid (fun W => (show (Op.equalIn 10000 26 (.agg (intsA .u8 a.seed)) (.agg (intsA .u8 b.seed))).run Tryz.prog W = .ok false W by rw [eq_hash a.seed b.seed oka.sl okb.sl, decide_eq_false h3]))
          have t3 := HSE.out
          clear HSE
          obtain ⟨Va, hVa⟩ : ∃ V, srcV a A c = V := ⟨_, rfl⟩
          obtain ⟨Vb, hVb⟩ : ∃ V, srcV b B d = V := ⟨_, rfl⟩
          rw [hVa] at HA
          rw [hVb] at HB
          rw [hVa, hVb]
          clear hVa hVb hra hrb h0 h1 h2 h3
          obtain ⟨a_kind, ha_kind⟩ : ∃ x, a.kind = x := ⟨_, rfl⟩
          obtain ⟨b_kind, hb_kind⟩ : ∃ x, b.kind = x := ⟨_, rfl⟩
          obtain ⟨a_bits, ha_bits⟩ : ∃ x, a.bits = x := ⟨_, rfl⟩
          obtain ⟨b_bits, hb_bits⟩ : ∃ x, b.bits = x := ⟨_, rfl⟩
          obtain ⟨a_dom, ha_dom⟩ : ∃ x, a.dom = x := ⟨_, rfl⟩
          obtain ⟨b_dom, hb_dom⟩ : ∃ x, b.dom = x := ⟨_, rfl⟩
          obtain ⟨a_at_, ha_at_⟩ : ∃ x, a.at_ = x := ⟨_, rfl⟩
          obtain ⟨b_at_, hb_at_⟩ : ∃ x, b.at_ = x := ⟨_, rfl⟩
          rw [ha_kind, ha_bits, ha_dom, ha_at_] at HA
          rw [hb_kind, hb_bits, hb_dom, hb_at_] at HB
          rw [ha_kind, hb_kind] at t0
          rw [ha_bits, hb_bits] at t2
          clear ha_kind ha_bits ha_dom ha_at_ hb_kind hb_bits hb_dom hb_at_
          go_enter Tryz.func13, Tryz.ntmps13
          go_wp2_with (first
            | (with_reducible refine at_any ?_; refine at_dst 2 rfl ?_; refine wpList_box_any rfl 28 (.tmp 0) rfl Va rfl ?_; intro w1 hk1 hs1 hb1)
            | (with_reducible refine at_any ?_; refine at_dst 3 rfl ?_; refine wpList_box_any rfl 28 (.tmp 1) rfl Vb rfl ?_; intro w2 hk2 hs2 hb2; have ka := Lib.hid (hk1.out.below hb2 hk1.out.lt); have bl := Lib.hid (hb1.trans (hb2.mono hb1.size)); have ca0 := (HA.out _ _ ka.out).1; have ca1 := (HA.out _ _ ka.out).2.1; have ca2 := (HA.out _ _ ka.out).2.2.1; have ca4 := (HA.out _ _ ka.out).2.2.2.1; have ca5 := (HA.out _ _ ka.out).2.2.2.2.1; have cb0 := (HB.out _ _ hk2.out).1; have cb1 := (HB.out _ _ hk2.out).2.1; have cb2 := (HB.out _ _ hk2.out).2.2.1; have cb4 := (HB.out _ _ hk2.out).2.2.2.1; have cb5 := (HB.out _ _ hk2.out).2.2.2.2.1; have xa := str_rd5 (c := c) (HRA.out.below bl.out); have xb := str_rd5 (c := d) (HRB.out.below bl.out))
            | (with_reducible refine at_any ?_; refine at_dst 28 rfl ?_; refine wpList_load_gdo (by kernel_rfl) 26 (.tmp 27) rfl w.heap.size 3 rfl .u8 a.seed (HA.out _ _ ka.out).2.2.2.2.2 _ Tryz.underlying26 rfl SA.out ?_)
            | (with_reducible refine at_any ?_; refine at_dst 30 rfl ?_; refine wpList_load_gdo (by kernel_rfl) 26 (.tmp 29) rfl w1.heap.size 3 rfl .u8 b.seed (HB.out _ _ hk2.out).2.2.2.2.2 _ Tryz.underlying26 rfl SB.out ?_))
          go_ret
          exact ⟨by rw [HR.out]; rfl, bl.out⟩
      · have HR : Hid (sameS a b = false) := Lib.hid (by unfold sameS; rw [decide_eq_true h0, decide_eq_true h1, decide_eq_false h2]; simp)
        have t0 : (a.kind == b.kind) = true := by rw [beq_iff_eq]; exact h0
        have t1 : ((strB a.tape).toList == (strB b.tape).toList) = true := by rw [beq_iff_eq, h1]
        have t2 : (a.bits == b.bits) = false := by rw [beq_eq_false_iff_ne]; exact h2
        skip
        obtain ⟨Va, hVa⟩ : ∃ V, srcV a A c = V := ⟨_, rfl⟩
        obtain ⟨Vb, hVb⟩ : ∃ V, srcV b B d = V := ⟨_, rfl⟩
        rw [hVa] at HA
        rw [hVb] at HB
        rw [hVa, hVb]
        clear hVa hVb hra hrb h0 h1 h2
        obtain ⟨a_kind, ha_kind⟩ : ∃ x, a.kind = x := ⟨_, rfl⟩
        obtain ⟨b_kind, hb_kind⟩ : ∃ x, b.kind = x := ⟨_, rfl⟩
        obtain ⟨a_bits, ha_bits⟩ : ∃ x, a.bits = x := ⟨_, rfl⟩
        obtain ⟨b_bits, hb_bits⟩ : ∃ x, b.bits = x := ⟨_, rfl⟩
        obtain ⟨a_dom, ha_dom⟩ : ∃ x, a.dom = x := ⟨_, rfl⟩
        obtain ⟨b_dom, hb_dom⟩ : ∃ x, b.dom = x := ⟨_, rfl⟩
        obtain ⟨a_at_, ha_at_⟩ : ∃ x, a.at_ = x := ⟨_, rfl⟩
        obtain ⟨b_at_, hb_at_⟩ : ∃ x, b.at_ = x := ⟨_, rfl⟩
        rw [ha_kind, ha_bits, ha_dom, ha_at_] at HA
        rw [hb_kind, hb_bits, hb_dom, hb_at_] at HB
        rw [ha_kind, hb_kind] at t0
        rw [ha_bits, hb_bits] at t2
        clear ha_kind ha_bits ha_dom ha_at_ hb_kind hb_bits hb_dom hb_at_
        go_enter Tryz.func13, Tryz.ntmps13
        go_wp2_with (first
          | (with_reducible refine at_any ?_; refine at_dst 2 rfl ?_; refine wpList_box_any rfl 28 (.tmp 0) rfl Va rfl ?_; intro w1 hk1 hs1 hb1)
          | (with_reducible refine at_any ?_; refine at_dst 3 rfl ?_; refine wpList_box_any rfl 28 (.tmp 1) rfl Vb rfl ?_; intro w2 hk2 hs2 hb2; have ka := Lib.hid (hk1.out.below hb2 hk1.out.lt); have bl := Lib.hid (hb1.trans (hb2.mono hb1.size)); have ca0 := (HA.out _ _ ka.out).1; have ca1 := (HA.out _ _ ka.out).2.1; have ca2 := (HA.out _ _ ka.out).2.2.1; have ca4 := (HA.out _ _ ka.out).2.2.2.1; have ca5 := (HA.out _ _ ka.out).2.2.2.2.1; have cb0 := (HB.out _ _ hk2.out).1; have cb1 := (HB.out _ _ hk2.out).2.1; have cb2 := (HB.out _ _ hk2.out).2.2.1; have cb4 := (HB.out _ _ hk2.out).2.2.2.1; have cb5 := (HB.out _ _ hk2.out).2.2.2.2.1; have xa := str_rd5 (c := c) (HRA.out.below bl.out); have xb := str_rd5 (c := d) (HRB.out.below bl.out))
          | (with_reducible refine at_any ?_; refine at_dst 28 rfl ?_; refine wpList_load_gdo (by kernel_rfl) 26 (.tmp 27) rfl w.heap.size 3 rfl .u8 a.seed (HA.out _ _ ka.out).2.2.2.2.2 _ Tryz.underlying26 rfl SA.out ?_)
          | (with_reducible refine at_any ?_; refine at_dst 30 rfl ?_; refine wpList_load_gdo (by kernel_rfl) 26 (.tmp 29) rfl w1.heap.size 3 rfl .u8 b.seed (HB.out _ _ hk2.out).2.2.2.2.2 _ Tryz.underlying26 rfl SB.out ?_))
        go_ret
        exact ⟨by rw [HR.out]; rfl, bl.out⟩
    · have HR : Hid (sameS a b = false) := Lib.hid (by unfold sameS; rw [decide_eq_true h0, decide_eq_false h1]; simp)
      have t0 : (a.kind == b.kind) = true := by rw [beq_iff_eq]; exact h0
      have t1 : ((strB a.tape).toList == (strB b.tape).toList) = false := by rw [beq_eq_false_iff_ne]; exact fun h => h1 (strB_inj oka.ti okb.ti (toL_eq5.1 h))
      skip
      obtain ⟨Va, hVa⟩ : ∃ V, srcV a A c = V := ⟨_, rfl⟩
      obtain ⟨Vb, hVb⟩ : ∃ V, srcV b B d = V := ⟨_, rfl⟩
      rw [hVa] at HA
      rw [hVb] at HB
      rw [hVa, hVb]
      clear hVa hVb hra hrb h0 h1
      obtain ⟨a_kind, ha_kind⟩ : ∃ x, a.kind = x := ⟨_, rfl⟩
      obtain ⟨b_kind, hb_kind⟩ : ∃ x, b.kind = x := ⟨_, rfl⟩
      obtain ⟨a_bits, ha_bits⟩ : ∃ x, a.bits = x := ⟨_, rfl⟩
      obtain ⟨b_bits, hb_bits⟩ : ∃ x, b.bits = x := ⟨_, rfl⟩
      obtain ⟨a_dom, ha_dom⟩ : ∃ x, a.dom = x := ⟨_, rfl⟩
      obtain ⟨b_dom, hb_dom⟩ : ∃ x, b.dom = x := ⟨_, rfl⟩
      obtain ⟨a_at_, ha_at_⟩ : ∃ x, a.at_ = x := ⟨_, rfl⟩
      obtain ⟨b_at_, hb_at_⟩ : ∃ x, b.at_ = x := ⟨_, rfl⟩
      rw [ha_kind, ha_bits, ha_dom, ha_at_] at HA
      rw [hb_kind, hb_bits, hb_dom, hb_at_] at HB
      rw [ha_kind, hb_kind] at t0
      clear ha_kind ha_bits ha_dom ha_at_ hb_kind hb_bits hb_dom hb_at_
      go_enter Tryz.func13, Tryz.ntmps13
      go_wp2_with (first
        | (with_reducible refine at_any ?_; refine at_dst 2 rfl ?_; refine wpList_box_any rfl 28 (.tmp 0) rfl Va rfl ?_; intro w1 hk1 hs1 hb1)
        | (with_reducible refine at_any ?_; refine at_dst 3 rfl ?_; refine wpList_box_any rfl 28 (.tmp 1) rfl Vb rfl ?_; intro w2 hk2 hs2 hb2; have ka := Lib.hid (hk1.out.below hb2 hk1.out.lt); have bl := Lib.hid (hb1.trans (hb2.mono hb1.size)); have ca0 := (HA.out _ _ ka.out).1; have ca1 := (HA.out _ _ ka.out).2.1; have ca2 := (HA.out _ _ ka.out).2.2.1; have ca4 := (HA.out _ _ ka.out).2.2.2.1; have ca5 := (HA.out _ _ ka.out).2.2.2.2.1; have cb0 := (HB.out _ _ hk2.out).1; have cb1 := (HB.out _ _ hk2.out).2.1; have cb2 := (HB.out _ _ hk2.out).2.2.1; have cb4 := (HB.out _ _ hk2.out).2.2.2.1; have cb5 := (HB.out _ _ hk2.out).2.2.2.2.1; have xa := str_rd5 (c := c) (HRA.out.below bl.out); have xb := str_rd5 (c := d) (HRB.out.below bl.out))
        | (with_reducible refine at_any ?_; refine at_dst 28 rfl ?_; refine wpList_load_gdo (by kernel_rfl) 26 (.tmp 27) rfl w.heap.size 3 rfl .u8 a.seed (HA.out _ _ ka.out).2.2.2.2.2 _ Tryz.underlying26 rfl SA.out ?_)
        | (with_reducible refine at_any ?_; refine at_dst 30 rfl ?_; refine wpList_load_gdo (by kernel_rfl) 26 (.tmp 29) rfl w1.heap.size 3 rfl .u8 b.seed (HB.out _ _ hk2.out).2.2.2.2.2 _ Tryz.underlying26 rfl SB.out ?_))
      go_ret
      exact ⟨by rw [HR.out]; rfl, bl.out⟩
  · have HR : Hid (sameS a b = false) := Lib.hid (by unfold sameS; rw [decide_eq_false h0]; simp)
    have t0 : (a.kind == b.kind) = false := by rw [beq_eq_false_iff_ne]; exact h0
    skip
    obtain ⟨Va, hVa⟩ : ∃ V, srcV a A c = V := ⟨_, rfl⟩
    obtain ⟨Vb, hVb⟩ : ∃ V, srcV b B d = V := ⟨_, rfl⟩
    rw [hVa] at HA
    rw [hVb] at HB
    rw [hVa, hVb]
    clear hVa hVb hra hrb h0
    obtain ⟨a_kind, ha_kind⟩ : ∃ x, a.kind = x := ⟨_, rfl⟩
    obtain ⟨b_kind, hb_kind⟩ : ∃ x, b.kind = x := ⟨_, rfl⟩
    obtain ⟨a_bits, ha_bits⟩ : ∃ x, a.bits = x := ⟨_, rfl⟩
    obtain ⟨b_bits, hb_bits⟩ : ∃ x, b.bits = x := ⟨_, rfl⟩
    obtain ⟨a_dom, ha_dom⟩ : ∃ x, a.dom = x := ⟨_, rfl⟩
    obtain ⟨b_dom, hb_dom⟩ : ∃ x, b.dom = x := ⟨_, rfl⟩
    obtain ⟨a_at_, ha_at_⟩ : ∃ x, a.at_ = x := ⟨_, rfl⟩
    obtain ⟨b_at_, hb_at_⟩ : ∃ x, b.at_ = x := ⟨_, rfl⟩
    rw [ha_kind, ha_bits, ha_dom, ha_at_] at HA
    rw [hb_kind, hb_bits, hb_dom, hb_at_] at HB
    rw [ha_kind, hb_kind] at t0
    clear ha_kind ha_bits ha_dom ha_at_ hb_kind hb_bits hb_dom hb_at_
    go_enter Tryz.func13, Tryz.ntmps13
    go_wp2_with (first
      | (with_reducible refine at_any ?_; refine at_dst 2 rfl ?_; refine wpList_box_any rfl 28 (.tmp 0) rfl Va rfl ?_; intro w1 hk1 hs1 hb1)
      | (with_reducible refine at_any ?_; refine at_dst 3 rfl ?_; refine wpList_box_any rfl 28 (.tmp 1) rfl Vb rfl ?_; intro w2 hk2 hs2 hb2; have ka := Lib.hid (hk1.out.below hb2 hk1.out.lt); have bl := Lib.hid (hb1.trans (hb2.mono hb1.size)); have ca0 := (HA.out _ _ ka.out).1; have ca1 := (HA.out _ _ ka.out).2.1; have ca2 := (HA.out _ _ ka.out).2.2.1; have ca4 := (HA.out _ _ ka.out).2.2.2.1; have ca5 := (HA.out _ _ ka.out).2.2.2.2.1; have cb0 := (HB.out _ _ hk2.out).1; have cb1 := (HB.out _ _ hk2.out).2.1; have cb2 := (HB.out _ _ hk2.out).2.2.1; have cb4 := (HB.out _ _ hk2.out).2.2.2.1; have cb5 := (HB.out _ _ hk2.out).2.2.2.2.1; have xa := str_rd5 (c := c) (HRA.out.below bl.out); have xb := str_rd5 (c := d) (HRB.out.below bl.out))
      | (with_reducible refine at_any ?_; refine at_dst 28 rfl ?_; refine wpList_load_gdo (by kernel_rfl) 26 (.tmp 27) rfl w.heap.size 3 rfl .u8 a.seed (HA.out _ _ ka.out).2.2.2.2.2 _ Tryz.underlying26 rfl SA.out ?_)
      | (with_reducible refine at_any ?_; refine at_dst 30 rfl ?_; refine wpList_load_gdo (by kernel_rfl) 26 (.tmp 29) rfl w1.heap.size 3 rfl .u8 b.seed (HB.out _ _ hk2.out).2.2.2.2.2 _ Tryz.underlying26 rfl SB.out ?_))
    go_ret
    exact ⟨by rw [HR.out]; rfl, bl.out⟩
end
section
open Go.ChangeShapes Go.WideShapes Go.ChangeAt Go.RowKit
theorem r8need_c (n : Int) (n0 : 0 ≤ n) (n1 : n < 18446744073709551616) (w : World) : Calls Tryz.prog 43 #[.int .u64 n] w fun e w' => e = .returned (.int .i64 (needN n : Nat)) ∧ w = w' := by
  by_cases h : n = 0
  · subst h
    go_enter Tryz.func43, Tryz.ntmps43
    go_wp2
    go_ret
    exact ⟨rfl, rfl⟩
  · have HB := Lib.hid (fun W => rbits_i (n - 1) (by omega) (by omega) W)
    have hR : needN n = Wd.bitsL (n - 1).toNat := by unfold needN; rw [if_neg h]
    rw [hR]
    obtain ⟨B, hB⟩ : ∃ B, Wd.bitsL (n - 1).toNat = B := ⟨_, rfl⟩
    rw [hB] at HB ⊢
    have t1 : (n == 0) = false := by rw [beq_eq_false_iff_ne]; exact h
    have e1 : IntKind.u64.wrap (n - 1) = n - 1 := by rw [IntKind.wrap_u64]; omega
    clear h hR hB
    go_enter Tryz.func43, Tryz.ntmps43
    go_wp2_with (go_at_call 70; (with_reducible refine (HB.out _).mono ?_); rintro e _ ⟨rfl, rfl⟩)
    go_ret
    exact ⟨rfl, rfl⟩
end
end Go.Proofs.YtgnclifmfefbcaaGreatDoor

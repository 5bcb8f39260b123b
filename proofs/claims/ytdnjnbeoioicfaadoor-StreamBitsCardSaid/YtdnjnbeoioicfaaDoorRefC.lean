/-
  What the document's answers for layer 3 return, and that they leave memory as it was.
  Conditions: the arguments lie in their types' ranges.
-/
import Derived.Test.YtdnjnbeoioicfaaDoorRows
import Derived.Test.YtdnjnbeoioicfaaDoorPlainA
import Derived.Test.YtdnjnbeoioicfaaDoorWordA
import Derived.Test.YtdnjnbeoioicfaaDoorRefA
import Derived.Test.YtdnjnbeoioicfaaDoorArrM
import Derived.Test.YtdnjnbeoioicfaaDoorArrA
import Derived.Test.YtdnjnbeoioicfaaDoorPlanP
import Derived.Deep.RegionHeld3
import Derived.KernelRfl
namespace Go.Proofs.YtdnjnbeoioicfaaDoor
open Go.ChangeShapes Go.WideShapes Go.ChangeAt Go.RowKit
set_option linter.unusedVariables false

theorem info_u32c : (Tryd.prog.info? 32).map (fun i => (i.zero, i.size, i.bytes)) = some (some (.int .u32 0), 1, 4) := by kernel_rfl
theorem info_u8c : (Tryd.prog.info? 5).map (fun i => (i.zero, i.size, i.bytes)) = some (some (.int .u8 0), 1, 1) := by kernel_rfl
theorem rfirst_c (x : Int) (h0 : 0 ≤ x) (h1 : x < 4294967296) (w : World) :
    Calls Tryd.prog 49 #[.int .u32 x] w fun e w' => e = .returned (.int .u32 (mix1 x)) ∧ w = w' := by
  unfold mix1
  go_enter Tryd.func49, Tryd.ntmps49
  go_wp2_with (first
    | (go_at_call 56; (with_reducible refine (rrotate_c _ _ (by omega) (by omega) (by omega) (by omega) _).mono ?_); rintro e _ ⟨rfl, rfl⟩)
    | (go_at_call 17; (with_reducible refine (rright_c _ _ (by omega) (by omega) (by omega) (by omega) _).mono ?_); rintro e _ ⟨rfl, rfl⟩))
  go_ret
  exact ⟨rfl, rfl⟩
theorem rsecond_c (x : Int) (h0 : 0 ≤ x) (h1 : x < 4294967296) (w : World) :
    Calls Tryd.prog 48 #[.int .u32 x] w fun e w' => e = .returned (.int .u32 (mix2 x)) ∧ w = w' := by
  unfold mix2
  go_enter Tryd.func48, Tryd.ntmps48
  go_wp2_with (first
    | (go_at_call 56; (with_reducible refine (rrotate_c _ _ (by omega) (by omega) (by omega) (by omega) _).mono ?_); rintro e _ ⟨rfl, rfl⟩)
    | (go_at_call 17; (with_reducible refine (rright_c _ _ (by omega) (by omega) (by omega) (by omega) _).mono ?_); rintro e _ ⟨rfl, rfl⟩))
  go_ret
  exact ⟨rfl, rfl⟩
theorem zero_plan : ∀ W, (zeroValue 75).run Tryd.prog W = .ok (.agg (intsA .u32 (List.replicate 64 0))) W := (zero_of_info (n := 64) (by kernel_rfl)).1
theorem size_plan : (Tryd.prog.info? 75).map (·.size) = some 64 := by kernel_rfl

set_option maxHeartbeats 1000000 in
theorem rof_c (b : List Int) (hl : b.length = 64) (hb : ∀ z ∈ b, 0 ≤ z ∧ z < 256) (w : World) :
    Calls Tryd.prog 41 #[.agg (intsA .u8 b)] w fun e w' => e = .returned (.agg (intsA .u32 (planL b))) ∧ Below w.heap.size w w' := by
  go_enter Tryd.func41, Tryd.ntmps41
  go_wp2_with (first
    | (with_reducible refine at_any ?_; refine at_dst 1 rfl ?_; refine wpList_box_ints rfl 64 (.tmp 0) rfl .u8 b rfl ?_; intro w1 hk1 hs1 hb1)
    | (with_reducible refine at_any ?_; refine at_dst 2 rfl ?_; refine wpList_alloc_ints rfl 75 rfl .u32 (List.replicate 64 0) zero_plan ?_; intro w2 hk2 hs2 hb2)
    | (with_reducible refine at_any ?_; refine at_dst 3 rfl ?_; refine wpList_alloc_ints rfl 75 rfl .u32 (List.replicate 64 0) zero_plan ?_; intro w3 hk3 hs3 hb3))
  have HI : In3 w w.heap.size w1.heap.size w2.heap.size 64 75 75 .u8 .u32 .u32 b (List.replicate 64 0) (planF b 0) w3 := by
    rw [planF_zero]
    have q1 := hs1.out
    have q2 := hs2.out
    have q3 := hs3.out
    exact ⟨(hk1.out.below hb2 (by omega)).below hb3 (by omega), hk2.out.below hb3 (by omega), hk3.out, hb1.trans ((hb2.mono (by omega)).trans (hb3.mono (by omega))), by omega, by omega, by omega⟩
  obtain ⟨g1, hg1⟩ : ∃ g, w.heap.size = g := ⟨_, rfl⟩
  obtain ⟨g2, hg2⟩ : ∃ g, w1.heap.size = g := ⟨_, rfl⟩
  obtain ⟨g3, hg3⟩ : ∃ g, w2.heap.size = g := ⟨_, rfl⟩
  have HG2 := Lib.hid (show w.heap.size ≤ g2 by have := hb1.size; omega)
  rw [hg1, hg2, hg3] at HI
  rw [hg1, hg2, hg3]
  clear hk1 hs1 hb1 hk2 hs2 hb2 hk3 hs3 hb3
  go_loopw [4] (fun v wr => ∃ i : Nat, i ≤ 16 ∧ v = .int .i64 i ∧ In3 w g1 g2 g3 64 75 75 .u8 .u32 .u32 b (List.replicate 64 0) (planF b i) wr) (fun v _ => 16 - (intOf v).toNat)
  case atStart => exact ⟨0, by omega, rfl, HI⟩
  case round =>
    clear HI
    obtain ⟨i, hi, rfl, HI⟩ := hrel
    by_cases hlt : i < 16
    · have hpl := planF_len b i (by omega)
      have HW := HI.open_ (i := i) (by omega)
      have hset := fun v hv => planF_set b i (by omega) v hv
      obtain ⟨m, hm⟩ : ∃ m, 4 * i = m := ⟨_, rfl⟩
      obtain ⟨m1, hm1⟩ : ∃ m1, 4 * i + 1 = m1 := ⟨_, rfl⟩
      obtain ⟨m2, hm2⟩ : ∃ m2, 4 * i + 2 = m2 := ⟨_, rfl⟩
      obtain ⟨m3, hm3⟩ : ∃ m3, 4 * i + 3 = m3 := ⟨_, rfl⟩
      have c0 := HW.cell1 (j := m) (by omega)
      have c1 := HW.cell1 (j := m1) (by omega)
      have c2 := HW.cell1 (j := m2) (by omega)
      have c3 := HW.cell1 (j := m3) (by omega)
      have hg : ∀ j, j < 64 → 0 ≤ b.getD j 0 ∧ b.getD j 0 < 256 := by
        intro j hj
        have h : j < b.length := by omega
        simp [h]; exact hb _ (List.getElem_mem h)
      have r0 := hg m (by omega)
      have r1 := hg m1 (by omega)
      have r2 := hg m2 (by omega)
      have r3 := hg m3 (by omega)
      have hv : word4 b i = Wd.get4 (b.getD m 0) (b.getD m1 0) (b.getD m2 0) (b.getD m3 0) := by unfold word4; rw [hm1, hm2, hm3, hm]
      have hsv := hset (word4 b i) (by rw [if_pos hlt])
      have HK : ∀ w', In3W w g1 g2 g3 64 75 75 .u8 .u32 .u32 b (List.replicate 64 0) (planF b i) i w' → w'.cell? ⟨g1, m, none⟩ = some (.int .u8 (b.getD m 0)) ∧ w'.cell? ⟨g1, m1, none⟩ = some (.int .u8 (b.getD m1 0)) ∧ w'.cell? ⟨g1, m2, none⟩ = some (.int .u8 (b.getD m2 0)) ∧ w'.cell? ⟨g1, m3, none⟩ = some (.int .u8 (b.getD m3 0)) ∧ In3W w g1 g2 g3 64 75 75 .u8 .u32 .u32 b (List.replicate 64 0) (planF b i) i w' :=
        fun w' h => ⟨h.cell1 (by omega), h.cell1 (by omega), h.cell1 (by omega), h.cell1 (by omega), h⟩
      have HA : ∀ w', In3W w g1 g2 g3 64 75 75 .u8 .u32 .u32 b (List.replicate 64 0) (planF b i) i w' → (∃ u, w'.cell? ⟨g3, i, none⟩ = some (.int .u32 u)) ∧ w'.frozen? ⟨g3, i, none⟩ = false := fun w' h => h.at_ (by omega)
      obtain ⟨a0, ha0⟩ : ∃ a, b.getD m 0 = a := ⟨_, rfl⟩
      obtain ⟨a1, ha1⟩ : ∃ a, b.getD m1 0 = a := ⟨_, rfl⟩
      obtain ⟨a2, ha2⟩ : ∃ a, b.getD m2 0 = a := ⟨_, rfl⟩
      obtain ⟨a3, ha3⟩ : ∃ a, b.getD m3 0 = a := ⟨_, rfl⟩
      rw [ha0, ha1, ha2, ha3] at HK hv
      rw [ha0] at c0 r0
      rw [ha1] at c1 r1
      rw [ha2] at c2 r2
      rw [ha3] at c3 r3
      rw [hv] at hsv
      have HK' := Lib.hid HK
      have HA' := Lib.hid HA
      have HSV := Lib.hid hsv
      have e0 : IntKind.i64.wrap (4 * (i : Int)) = (m : Int) := by rw [IntWalk.i64_in _ (by omega)]; omega
      have e1 : IntKind.i64.wrap ((m : Int) + 1) = (m1 : Int) := by rw [IntWalk.i64_in _ (by omega)]; omega
      have e2 : IntKind.i64.wrap ((m : Int) + 2) = (m2 : Int) := by rw [IntWalk.i64_in _ (by omega)]; omega
      have e3 : IntKind.i64.wrap ((m : Int) + 3) = (m3 : Int) := by rw [IntWalk.i64_in _ (by omega)]; omega
      have q0 : (0 : Int) ≤ (m : Int) ∧ (m : Int) < 64 := by omega
      have q1 : (0 : Int) ≤ (m1 : Int) ∧ (m1 : Int) < 64 := by omega
      have q2 : (0 : Int) ≤ (m2 : Int) ∧ (m2 : Int) < 64 := by omega
      have q3 : (0 : Int) ≤ (m3 : Int) ∧ (m3 : Int) < 64 := by omega
      have q4 : (0 : Int) ≤ (i : Int) ∧ (i : Int) < 64 := by omega
      obtain ⟨⟨u0, hu0⟩, hf0⟩ := HA _ HW
      clear hset HK HA hg ha0 ha1 ha2 ha3 hm hm1 hm2 hm3 hv hsv hpl HI
      have HWd : In3W w g1 g2 g3 64 75 75 .u8 .u32 .u32 b (List.replicate 64 0) (planF b i) i wr.drew := by obtain ⟨u, hu⟩ := HW; exact ⟨u, hu.drew⟩
      go_wp2
      go_region_held3 (fun w' => w'.cell? ⟨g1, m, none⟩ = some (.int .u8 a0) ∧ w'.cell? ⟨g1, m1, none⟩ = some (.int .u8 a1) ∧ w'.cell? ⟨g1, m2, none⟩ = some (.int .u8 a2) ∧ w'.cell? ⟨g1, m3, none⟩ = some (.int .u8 a3) ∧ In3W w g1 g2 g3 64 75 75 .u8 .u32 .u32 b (List.replicate 64 0) (planF b i) i w')
        (first | assumption | exact HK'.out _ HWd | (go_split_ands; exact HK'.out _ HW5) | (go_split_ands; exact HK'.out _ (HW5.again _)))
        (first
          | (go_at_call 47; (with_reducible refine (rget32_c a0 a1 a2 a3 r0.1 r0.2 r1.1 r1.2 r2.1 r2.2 r3.1 r3.2 _).mono ?_); rintro e w5 ⟨rfl, hb5, _⟩; have HW5 := HWd.below hb5; obtain ⟨⟨u5, hu5⟩, hf5⟩ := HA'.out _ HW5))
      all_goals
        go_wp2
        go_roundw
        case rel => exact ⟨i + 1, by omega, by go_num, by rw [← HSV.out]; exact HW5.set_ _⟩
        case measure => simp [intOf]; omega
    · rw [show ((i : Nat) : Int) = 16 by omega]
      obtain rfl : i = 16 := by omega
      clear hi hlt
      go_wp2
      go_loopw [5] (fun v wr => ∃ i : Nat, 16 ≤ i ∧ i ≤ 64 ∧ v = .int .i64 i ∧ In3 w g1 g2 g3 64 75 75 .u8 .u32 .u32 b (List.replicate 64 0) (planF b i) wr) (fun v _ => 64 - (intOf v).toNat)
      case atStart => exact ⟨16, by omega, by omega, rfl, HI⟩
      case round =>
        clear HI
        obtain ⟨i, hi16, hi, rfl, HI⟩ := hrel
        by_cases hlt : i < 64
        · have hpl := planF_len b i (by omega)
          have HW := HI.open_ (i := i) (by omega)
          have hin := planTo_in b hb i
          have hg : ∀ j, j < i → (planF b i).getD j 0 = (planTo b i).getD j 0 ∧ 0 ≤ (planTo b i).getD j 0 ∧ (planTo b i).getD j 0 < 4294967296 := by
            intro j hj
            have h : j < (planTo b i).length := by rw [planTo_len]; exact hj
            refine ⟨planF_at b i j hj, ?_⟩
            simp [h]; exact hin _ (List.getElem_mem h)
          obtain ⟨m2, hm2⟩ : ∃ m, i - 2 = m := ⟨_, rfl⟩
          obtain ⟨m7, hm7⟩ : ∃ m, i - 7 = m := ⟨_, rfl⟩
          obtain ⟨m15, hm15⟩ : ∃ m, i - 15 = m := ⟨_, rfl⟩
          obtain ⟨m16, hm16⟩ : ∃ m, i - 16 = m := ⟨_, rfl⟩
          have hsv := planF_set b i hlt (nextW (planTo b i) i) (by rw [if_neg (by omega)])
          have hv : nextW (planTo b i) i = (mix2 ((planTo b i).getD m2 0) + (planTo b i).getD m7 0 + mix1 ((planTo b i).getD m15 0) + (planTo b i).getD m16 0) % 4294967296 := by unfold nextW; rw [hm2, hm7, hm15, hm16]
          have HK : ∀ w', In3W w g1 g2 g3 64 75 75 .u8 .u32 .u32 b (List.replicate 64 0) (planF b i) i w' → w'.cell? ⟨g3, m2, none⟩ = some (.int .u32 ((planF b i).getD m2 0)) ∧ w'.cell? ⟨g3, m7, none⟩ = some (.int .u32 ((planF b i).getD m7 0)) ∧ w'.cell? ⟨g3, m15, none⟩ = some (.int .u32 ((planF b i).getD m15 0)) ∧ w'.cell? ⟨g3, m16, none⟩ = some (.int .u32 ((planF b i).getD m16 0)) ∧ In3W w g1 g2 g3 64 75 75 .u8 .u32 .u32 b (List.replicate 64 0) (planF b i) i w' :=
            fun w' h => ⟨h.cell3 (by omega) (by omega), h.cell3 (by omega) (by omega), h.cell3 (by omega) (by omega), h.cell3 (by omega) (by omega), h⟩
          obtain ⟨⟨u0, hu0⟩, hf0⟩ := HW.at_ (by omega)
          rw [(hg m2 (by omega)).1, (hg m7 (by omega)).1, (hg m15 (by omega)).1, (hg m16 (by omega)).1] at HK
          have r2 := (hg m2 (by omega)).2
          have r7 := (hg m7 (by omega)).2
          have r15 := (hg m15 (by omega)).2
          have r16 := (hg m16 (by omega)).2
          obtain ⟨x2, hx2⟩ : ∃ a, (planTo b i).getD m2 0 = a := ⟨_, rfl⟩
          obtain ⟨x7, hx7⟩ : ∃ a, (planTo b i).getD m7 0 = a := ⟨_, rfl⟩
          obtain ⟨x15, hx15⟩ : ∃ a, (planTo b i).getD m15 0 = a := ⟨_, rfl⟩
          obtain ⟨x16, hx16⟩ : ∃ a, (planTo b i).getD m16 0 = a := ⟨_, rfl⟩
          rw [hx2, hx7, hx15, hx16] at HK hv
          rw [hx2] at r2
          rw [hx7] at r7
          rw [hx15] at r15
          rw [hx16] at r16
          obtain ⟨c0, c1, c2, c3, _⟩ := HK _ HW
          obtain ⟨y2, hy2⟩ : ∃ a, mix2 x2 = a := ⟨_, rfl⟩
          obtain ⟨y15, hy15⟩ : ∃ a, mix1 x15 = a := ⟨_, rfl⟩
          have k2 := mix2_in x2
          have k15 := mix1_in x15
          rw [hy2, hy15] at hv
          rw [hy2] at k2
          rw [hy15] at k15
          obtain ⟨t1, ht1⟩ : ∃ t, (y2 + x7) % 4294967296 = t := ⟨_, rfl⟩
          obtain ⟨t2, ht2⟩ : ∃ t, (t1 + y15) % 4294967296 = t := ⟨_, rfl⟩
          obtain ⟨t3, ht3⟩ : ∃ t, (t2 + x16) % 4294967296 = t := ⟨_, rfl⟩
          have hv3 : nextW (planTo b i) i = t3 := by rw [hv]; omega
          rw [hv3] at hsv
          have f1 : IntKind.u32.wrap (y2 + x7) = t1 := by rw [IntKind.wrap_u32]; exact ht1
          have f2 : IntKind.u32.wrap (t1 + y15) = t2 := by rw [IntKind.wrap_u32]; exact ht2
          have f3 : IntKind.u32.wrap (t2 + x16) = t3 := by rw [IntKind.wrap_u32]; exact ht3
          have HK' := Lib.hid HK
          have HSV := Lib.hid hsv
          have e2 : IntKind.i64.wrap ((i : Int) - 2) = (m2 : Int) := by rw [IntWalk.i64_in _ (by omega)]; omega
          have e7 : IntKind.i64.wrap ((i : Int) - 7) = (m7 : Int) := by rw [IntWalk.i64_in _ (by omega)]; omega
          have e15 : IntKind.i64.wrap ((i : Int) - 15) = (m15 : Int) := by rw [IntWalk.i64_in _ (by omega)]; omega
          have e16 : IntKind.i64.wrap ((i : Int) - 16) = (m16 : Int) := by rw [IntWalk.i64_in _ (by omega)]; omega
          have q0 : (0 : Int) ≤ (m2 : Int) ∧ (m2 : Int) < 64 := by omega
          have q1 : (0 : Int) ≤ (m7 : Int) ∧ (m7 : Int) < 64 := by omega
          have q2 : (0 : Int) ≤ (m15 : Int) ∧ (m15 : Int) < 64 := by omega
          have q3 : (0 : Int) ≤ (m16 : Int) ∧ (m16 : Int) < 64 := by omega
          have q4 : (0 : Int) ≤ (i : Int) ∧ (i : Int) < 64 := by omega
          have H2 := Lib.hid hy2
          have H15 := Lib.hid hy15
          clear HK hg hin hx2 hx7 hx15 hx16 hm2 hm7 hm15 hm16 hv hv3 hsv hpl HI ht1 ht2 ht3 hy2 hy15
          have HWd : In3W w g1 g2 g3 64 75 75 .u8 .u32 .u32 b (List.replicate 64 0) (planF b i) i wr.drew := by obtain ⟨u, hu⟩ := HW; exact ⟨u, hu.drew⟩
          go_wp2
          go_region_held3 (fun w' => w'.cell? ⟨g3, m2, none⟩ = some (.int .u32 x2) ∧ w'.cell? ⟨g3, m7, none⟩ = some (.int .u32 x7) ∧ w'.cell? ⟨g3, m15, none⟩ = some (.int .u32 x15) ∧ w'.cell? ⟨g3, m16, none⟩ = some (.int .u32 x16) ∧ In3W w g1 g2 g3 64 75 75 .u8 .u32 .u32 b (List.replicate 64 0) (planF b i) i w')
            (first | assumption | exact HK'.out _ HWd | (go_split_ands; exact HK'.out _ (HWd.again _)))
            (first
              | (go_at_call 48; (with_reducible refine (rsecond_c x2 r2.1 r2.2 _).mono ?_); rw [H2.out]; rintro e w5 ⟨rfl, rfl⟩)
              | (go_at_call 49; (with_reducible refine (rfirst_c x15 r15.1 r15.2 _).mono ?_); rw [H15.out]; rintro e w5 ⟨rfl, rfl⟩))
          all_goals
            go_wp2
            go_roundw
            case rel => exact ⟨i + 1, by omega, by omega, by go_num, by rw [← HSV.out]; exact (HW.set_ _).drew⟩
            case measure => simp [intOf]; omega
        · rw [show ((i : Nat) : Int) = 64 by omega]
          obtain rfl : i = 64 := by omega
          rw [planF_full] at HI
          obtain ⟨h1, h2, h3, h4, h5, h6, h7⟩ := HI
          have hpl : (planL b).length = 64 := planTo_len b 64
          have HPL := Lib.hid hpl
          have H3 := Lib.hid h3
          have H2 := Lib.hid h2
          have hg2 : w.heap.size ≤ g2 := HG2.out
          clear hpl h1 h2 h3
          go_wp2_with (first
            | (with_reducible refine at_any ?_; refine at_dst 60 rfl ?_; refine wpList_load_ints rfl 75 (.tmp 3) rfl g3 rfl 75 .u32 (planL b) H3.out _ Tryd.underlying75 rfl (by rw [HPL.out]; exact size_plan) ?_)
            | (with_reducible refine at_any ?_; refine at_store 2 rfl ?_; refine wpList_store_ints rfl 75 (.tmp 2) (.tmp 60) rfl g2 rfl 75 .u32 (List.replicate 64 0) (planL b) H2.out rfl (by rw [HPL.out]; simp) (by rw [HPL.out]; exact size_plan) ?_; intro w9 hk9 hs9 hb9 ho9)
            | (refine bodyPost_cell 2 75 rfl g2 rfl 75 .u32 (planL b) hk9.out _ Tryd.underlying75 rfl (by rw [HPL.out]; exact size_plan) rfl ?_))
          rw [← hg1]
          exact h4.trans (hb9 _ hg2)
end Go.Proofs.YtdnjnbeoioicfaaDoor

/-
  What the program's sha.joined returns, and that it leaves memory as it was.
  Conditions: the arguments lie in their types' ranges.
-/
import Derived.Test.YtdnjnbeoioicfaaDoorRefJ
import Derived.Test.YtdnjnbeoioicfaaDoorPlanA
set_option linter.unusedSimpArgs false
namespace Go.Proofs.YtdnjnbeoioicfaaDoor
open Go.ChangeShapes Go.WideShapes Go.ChangeAt Go.RowKit
set_option linter.unusedVariables false
theorem size_u8h : (Tryd.prog.info? 5).map (·.size) = some 1 := by kernel_rfl
theorem hashF_splice (l : List Int) (i : Nat) (h : i < 8) : splice (hashF l i 0) (4 * i) (put4L (l.getD i 0)) = hashF l (i + 1) 0 := by
  rw [← hashF_next]
  have e1 := backTo_len l i
  unfold splice hashF
  rw [List.take_append_of_le_length (by omega), List.take_of_length_le (by omega), List.drop_append, List.drop_eq_nil_of_le (by omega), List.nil_append, e1]
  simp [put4L]
  omega
theorem index_st8 (zs : List Int) (hl : zs.length = 8) (j : Nat) (hj : j < 8) (w : World) : (Instr.index 53 (.agg (intsA .u32 zs)) (.int .i64 j)).run Tryd.prog w = .ok (.int .u32 (zs.getD j 0)) w := by
  obtain ⟨i0, hi, _, hs, _⟩ := info_parts info_u32c
  refine run_index_arr Tryd.underlying53 Tryd.underlying32 hi hs _ _ _ _ (by omega) (by omega) ?_ w
  rw [Int.toNat_natCast]
  exact intsA_at _ _ _ (by omega)

set_option maxHeartbeats 1000000 in
theorem qjoined_c (l : List Int) (hl : l.length = 8) (hb : ∀ z ∈ l, 0 ≤ z ∧ z < 4294967296) (w : World) :
    Calls Tryd.prog 40 #[.agg (intsA .u32 l)] w fun e w' => e = .returned (.agg (intsA .u8 (hashL l))) ∧ Below w.heap.size w w' := by
  have HSW := Lib.hid (show (Tryd.prog.info? 53).map (·.size) = some l.length by rw [hl]; exact size_state)
  go_enter Tryd.func40, Tryd.ntmps40
  go_wp2_with (first
    | (with_reducible refine at_any ?_; refine at_dst 1 rfl ?_; refine wpList_box_ints rfl 53 (.tmp 0) rfl .u32 l rfl ?_; intro w1 hk1 hs1 hb1)
    | (with_reducible refine at_any ?_; refine at_dst 2 rfl ?_; refine wpList_alloc_ints rfl 23 rfl .u8 (List.replicate 32 0) zero_hash ?_; intro w2 hk2 hs2 hb2)
    | (with_reducible refine at_any ?_; refine at_dst 3 rfl ?_; refine wpList_alloc_ints rfl 23 rfl .u8 (List.replicate 32 0) zero_hash ?_; intro w3 hk3 hs3 hb3)
    | (with_reducible refine at_any ?_; refine at_dst 7 rfl ?_; refine wpList_load_ints rfl 53 (.tmp 1) rfl w.heap.size rfl 53 .u32 l ((hk1.out.below hb2 (by have := hs1.out; omega)).below hb3 (by have := hs1.out; have := hs2.out; omega)) _ Tryd.underlying53 rfl HSW.out ?_))
  have HI : In3 w w.heap.size w1.heap.size w2.heap.size 53 23 23 .u32 .u8 .u8 l (List.replicate 32 0) (hashF l 0 0) w3 := by
    rw [hashF_zero]
    have q1 := hs1.out
    have q2 := hs2.out
    have q3 := hs3.out
    exact ⟨(hk1.out.below hb2 (by omega)).below hb3 (by omega), hk2.out.below hb3 (by omega), hk3.out, hb1.trans ((hb2.mono (by omega)).trans (hb3.mono (by omega))), by omega, by omega, by omega⟩
  have HG : w.heap.size < w2.heap.size ∧ w1.heap.size < w2.heap.size := by have q1 := hs1.out; have q2 := hs2.out; omega
  obtain ⟨g1, hg1⟩ : ∃ g, w.heap.size = g := ⟨_, rfl⟩
  obtain ⟨g2, hg2⟩ : ∃ g, w1.heap.size = g := ⟨_, rfl⟩
  obtain ⟨g3, hg3⟩ : ∃ g, w2.heap.size = g := ⟨_, rfl⟩
  have HG2 := Lib.hid (show w.heap.size ≤ g2 by have := hb1.size; omega)
  rw [hg1, hg2, hg3] at HI HG
  rw [hg1, hg2, hg3]
  have HGH := Lib.hid HG
  clear hk1 hs1 hb1 hk2 hs2 hb2 hk3 hs3 hb3 HG
  go_loopw [8] (fun v wr => ∃ i : Nat, i ≤ 8 ∧ v = .int .i64 i ∧ In3 w g1 g2 g3 53 23 23 .u32 .u8 .u8 l (List.replicate 32 0) (hashF l i 0) wr) (fun v _ => 8 - (intOf v).toNat)
  case atStart => exact ⟨0, by omega, rfl, HI⟩
  case round =>
    clear HI
    obtain ⟨i, hi, rfl, HI⟩ := hrel
    by_cases hlt : i < 8
    · have hix := fun W => index_st8 l hl i hlt W
      have rx : 0 ≤ l.getD i 0 ∧ l.getD i 0 < 4294967296 := by
        have h : i < l.length := by omega
        simp [h]; exact hb _ (List.getElem_mem h)
      have hsp := hashF_splice l i hlt
      have hfl := hashF_len l i 0 (by omega) (by omega)
      obtain ⟨x, hx⟩ : ∃ x, l.getD i 0 = x := ⟨_, rfl⟩
      rw [hx] at hix rx hsp
      obtain ⟨p0, p1, p2, p3, hps⟩ : ∃ p0 p1 p2 p3, put4L x = [p0, p1, p2, p3] := ⟨_, _, _, _, rfl⟩
      have hput := fun W => put32_c x rx.1 rx.2 W
      have hp4 : put4 x = ((put4L x).map (Value.int .u8)).toArray := rfl
      rw [hp4, hps] at hput
      rw [hps] at hsp
      have HP := Lib.hid hput
      have HSP := Lib.hid hsp
      have HFL := Lib.hid hfl
      have HI' := Lib.hid HI
      obtain ⟨m, hm⟩ : ∃ m, 4 * i = m := ⟨_, rfl⟩
      have e0 : IntKind.i64.wrap (4 * (i : Int)) = (m : Int) := by rw [IntWalk.i64_in _ (by omega)]; omega
      have q0 : (0 : Int) ≤ (m : Int) := by omega
      have q1 : (m : Int) ≤ 32 := by omega
      have q2 : ¬ 32 = m := by omega
      have q3 : m + 4 ≤ 32 := by omega
      have i0 : (0 : Int) ≤ (i : Int) := by omega
      have i1 : (i : Int) < 8 := by omega
      rw [hm] at HSP
      clear hput hp4 hps hsp hfl hx HI hm
      go_wp2_with (go_at_call 46; (with_reducible refine (HP.out _).mono ?_); rintro e w4 ⟨rfl, hb4, _⟩)
      have HB5 := Lib.hid (BlkI.new w4 67 .u8 [p0, p1, p2, p3])
      have HI5 := Lib.hid ((HI'.out.below hb4).below ((Below.refl _ _).alloc (Nat.le_refl _) (Obj.cells (intsA .u8 [p0, p1, p2, p3]) 67)))
      obtain ⟨W5, hW5⟩ : ∃ W5, w4.alloc (Obj.cells #[.int .u8 p0, .int .u8 p1, .int .u8 p2, .int .u8 p3] 67) = W5 := ⟨_, rfl⟩
      have hW5' : w4.alloc (Obj.cells (intsA .u8 [p0, p1, p2, p3]) 67) = W5 := hW5
      rw [hW5'] at HB5 HI5
      rw [hW5]
      obtain ⟨g5, hg5⟩ : ∃ g, w4.heap.size = g := ⟨_, rfl⟩
      rw [hg5] at HB5 ⊢
      clear hW5 hW5' hg5 hb4 HI' rx HP hix
      go_region_law (refine step_dst 18 rfl ?_; refine step_copy_ints rfl (.tmp 16) (.tmp 17) 29 29 rfl 5 Tryd.underlying29 size_u8h (some ⟨g3, m, none⟩) (some ⟨g5, 0, none⟩) (32 - m) (32 - m) 4 4 (by kernel_rfl) (by kernel_rfl) g3 m .u8 _ 23 HI5.out.trd.drew 4 (by omega) _ [p0, p1, p2, p3] HB5.out.rd.drew (fun _ => rfl) (by rw [HFL.out]; omega) g3 W5.drew (Below.refl _ _) (Nat.le_refl _) ?_; intro w6 HK6 hb6)
      all_goals
        go_wp2
        go_roundw
        case rel =>
          have hk := HK6.out
          rw [HSP.out] at hk
          obtain ⟨h1, h2, h3, h4, h5, h6, h7⟩ := HI5.out
          exact ⟨i + 1, by omega, by go_num, h1.drew.below hb6 HGH.out.1, h2.drew.below hb6 HGH.out.2, hk, h4.trans (below_of_drew (hb6.mono h5)), h5, h6, h7⟩
        case measure => simp [intOf]; omega
    · rw [show ((i : Nat) : Int) = 8 by omega]
      obtain rfl : i = 8 := by omega
      rw [hashF_full] at HI
      obtain ⟨h1, h2, h3, h4, h5, h6, h7⟩ := HI
      have hpl : (hashL l).length = 32 := backTo_len l 8
      have HPL := Lib.hid hpl
      have H3 := Lib.hid h3
      have H2 := Lib.hid h2
      have hg2 : w.heap.size ≤ g2 := HG2.out
      clear hpl h1 h2 h3
      go_wp2_with (first
        | (with_reducible refine at_any ?_; refine at_dst 20 rfl ?_; refine wpList_load_ints rfl 23 (.tmp 3) rfl g3 rfl 23 .u8 (hashL l) H3.out _ Tryd.underlying23 rfl (by rw [HPL.out]; exact size_hash) ?_)
        | (with_reducible refine at_any ?_; refine at_store 2 rfl ?_; refine wpList_store_ints rfl 23 (.tmp 2) (.tmp 20) rfl g2 rfl 23 .u8 (List.replicate 32 0) (hashL l) H2.out rfl (by rw [HPL.out]; simp) (by rw [HPL.out]; exact size_hash) ?_; intro w9 hk9 hs9 hb9 ho9)
        | (refine bodyPost_cell 2 23 rfl g2 rfl 23 .u8 (hashL l) hk9.out _ Tryd.underlying23 rfl (by rw [HPL.out]; exact size_hash) rfl ?_))
      rw [← hg1]
      exact h4.trans (hb9 _ hg2)
end Go.Proofs.YtdnjnbeoioicfaaDoor

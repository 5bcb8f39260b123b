/-
  What the program's sha.New, Right, Same, and bytes.Equal return, and that they leave memory as it was.
  Conditions: the arguments lie in their types' ranges.
-/
import Derived.Test.YtjdceadglfnnbaaDoorRefJ
import Derived.Test.YtjdceadglfnnbaaDoorCompA
set_option linter.unusedSimpArgs false
namespace Go.Proofs.YtjdceadglfnnbaaDoor
open Go.ChangeShapes Go.WideShapes Go.ChangeAt Go.RowKit
set_option linter.unusedVariables false
set_option maxHeartbeats 1000000 in
theorem qnew_c (w : World) : Calls Tryd.prog 20 #[] w fun e w' => e = .returned (.agg (wrV startL none 0 0 0)) ∧ Below w.heap.size w w' := by
  have ZS := Lib.hid (show (wrV Z8 none 0 0 0).size = (wrV startL none 0 0 0).size by rw [wrV_size _ rfl, wrV_size _ rfl])
  have SS := Lib.hid (sizedW startL rfl none 0 0 0)
  have OS := Lib.hid (wrV_ones startL none 0 0 0)
  have CS := Lib.hid (fun W => cstart_c W)
  have hsl : startL.length = 8 := rfl
  obtain ⟨S, hS⟩ : ∃ S, startL = S := ⟨_, rfl⟩
  rw [hS] at ZS SS OS CS hsl ⊢
  have HSL := Lib.hid hsl
  clear hS hsl
  go_enter Tryd.func20, Tryd.ntmps20
  go_wp2_with (first
    | (with_reducible refine at_any ?_; refine at_dst 0 rfl ?_; refine wpList_alloc_any rfl 36 rfl (wrV Z8 none 0 0 0) zero_wr ?_; intro w1 hk1 hs1 hb1)
    | (go_at_call 37; (with_reducible refine (CS.out _).mono ?_); rintro e w4 ⟨rfl, hb4⟩; have hk4 := Lib.hid (hk1.out.below hb4 hk1.out.lt); have bl4 := Lib.hid (hb1.trans (hb4.mono hb1.size)))
    | (with_reducible refine at_any ?_; refine at_dst 2 rfl ?_; refine wpList_val rfl (.agg (wrV S none 0 0 0)) (build_new _ S HSL.out rfl rfl) ?_)
    | (with_reducible refine at_any ?_; refine at_store 0 rfl ?_; refine wpList_store_any rfl 36 (.tmp 0) (.tmp 2) rfl w.heap.size rfl 36 (wrV Z8 none 0 0 0) (wrV S none 0 0 0) hk4.out rfl ZS.out SS.out OS.out ?_; intro w9 hk9 hs9 hb9 ho9)
    | (refine bodyPost_any 0 36 rfl w.heap.size rfl 36 (wrV S none 0 0 0) hk9.out _ Tryd.underlying36 rfl SS.out rfl ?_))
  exact bl4.out.trans (hb9 _ (Nat.le_refl _))
set_option maxHeartbeats 1000000 in
theorem qrightw_c (s : List Int) (hl : s.length = 8) (A : Option Addr) (r c : Nat) (n : Int) (hr : r ≤ 1000000) (n0 : 0 ≤ n) (n1 : n < 18446744073709551616) (w : World) :
    Calls Tryd.prog 17 #[.agg (wrV s A r c n)] w fun e w' => e = .returned (.bool (rightB r n)) ∧ Below w.heap.size w w' := by
  have HC8 := Lib.hid (wrV_rest s hl A r c n)
  have HC9 := Lib.hid (wrV_bytes s hl A r c n)
  by_cases h1 : n < 2305843009213693952
  · by_cases h2 : (r : Int) = n % 64
    all_goals
      have hR : rightB r n = decide ((r : Int) = n % 64) := by simp [rightB, h1]
      first | rw [decide_eq_true h2] at hR | rw [decide_eq_false h2] at hR
      have t1 := Lib.hid h2
      first | (have t2 : ((r : Int) == n % 64) = true := by rw [beq_iff_eq]; exact h2) | (have t2 : ((r : Int) == n % 64) = false := by rw [beq_eq_false_iff_ne]; exact h2)
      have HR := Lib.hid hR
      clear h2 hR
      go_enter Tryd.func17, Tryd.ntmps17
      go_wp2_with (with_reducible refine at_any ?_; refine at_dst 1 rfl ?_; refine wpList_box_any rfl 36 (.tmp 0) rfl (wrV s A r c n) rfl ?_; intro w1 hk1 hs1 hb1; have c8 := hk1.out.cell 8; have c9 := hk1.out.cell 9; rw [HC8.out] at c8; rw [HC9.out] at c9)
      go_ret
      exact ⟨by rw [HR.out]; rfl, hb1⟩
  · have hR : rightB r n = false := by simp [rightB, h1]
    have HR := Lib.hid hR
    clear hR
    go_enter Tryd.func17, Tryd.ntmps17
    go_wp2_with (with_reducible refine at_any ?_; refine at_dst 1 rfl ?_; refine wpList_box_any rfl 36 (.tmp 0) rfl (wrV s A r c n) rfl ?_; intro w1 hk1 hs1 hb1; have c8 := hk1.out.cell 8; have c9 := hk1.out.cell 9; rw [HC8.out] at c8; rw [HC9.out] at c9)
    go_ret
    exact ⟨by rw [HR.out]; rfl, hb1⟩
theorem bequal_c (z1 z2 : List Int) (A1 A2 : Option Addr) (r1 r2 c1 c2 : Nat) (w : World) (hr1 : Rd .u8 w w.heap.size A1 r1 z1) (hr2 : Rd .u8 w w.heap.size A2 r2 z2) (hz1 : ∀ z ∈ z1, 0 ≤ z ∧ z < 256) (hz2 : ∀ z ∈ z2, 0 ≤ z ∧ z < 256) :
    Calls Tryd.prog 36 #[.slice A1 r1 c1, .slice A2 r2 c2] w fun e w' => e = .returned (.bool (decide (z1 = z2))) ∧ w' = w := by
  have HEQ := strB_eq hz1 hz2
  have x1 := str_rd5 (c := c1) hr1
  have x2 := str_rd5 (c := c2) hr2
  clear hr1 hr2
  by_cases e2 : z1 = z2
  · have t2 : ((strB z1).toList == (strB z2).toList) = true := by rw [beq_iff_eq, HEQ.2 e2]
    rw [decide_eq_true e2]
    clear HEQ e2
    go_enter Tryd.func36, Tryd.ntmps36
    go_wp2
    go_ret
    exact ⟨rfl, rfl⟩
  · have t2 : ((strB z1).toList == (strB z2).toList) = false := by rw [beq_eq_false_iff_ne]; exact fun h => e2 (HEQ.1 (toL_eq5.1 h))
    rw [decide_eq_false e2]
    clear HEQ e2
    go_enter Tryd.func36, Tryd.ntmps36
    go_wp2
    go_ret
    exact ⟨rfl, rfl⟩
set_option maxHeartbeats 1000000 in
theorem qsamew_c (s1 s2 z1 z2 : List Int) (h1 : s1.length = 8) (h2 : s2.length = 8) (A1 A2 : Option Addr) (r1 r2 c1 c2 : Nat) (hc1 : r1 ≤ c1) (hc2 : r2 ≤ c2) (n1 n2 : Int) (w : World)
    (hr1 : Rd .u8 w w.heap.size A1 r1 z1) (hr2 : Rd .u8 w w.heap.size A2 r2 z2) (hz1 : ∀ z ∈ z1, 0 ≤ z ∧ z < 256) (hz2 : ∀ z ∈ z2, 0 ≤ z ∧ z < 256) :
    Calls Tryd.prog 19 #[.agg (wrV s1 A1 r1 c1 n1), .agg (wrV s2 A2 r2 c2 n2)] w fun e w' => e = .returned (.bool (sameB s1 s2 z1 z2 n1 n2)) ∧ Below w.heap.size w w' := by
  have HC8 := Lib.hid (wrV_rest s1 h1 A1 r1 c1 n1)
  have HC9 := Lib.hid (wrV_bytes s1 h1 A1 r1 c1 n1)
  have HD8 := Lib.hid (wrV_rest s2 h2 A2 r2 c2 n2)
  have HD9 := Lib.hid (wrV_bytes s2 h2 A2 r2 c2 n2)
  have HST1 := Lib.hid (fun W g (h : Blk W g 36 (wrV s1 A1 r1 c1 n1)) => wrV_state h)
  have HST2 := Lib.hid (fun W g (h : Blk W g 36 (wrV s2 A2 r2 c2 n2)) => wrV_state h)
  have SS1 := Lib.hid (sized s1 h1)
  have SS2 := Lib.hid (sized s2 h2)
  have E1 := fun W => eq_state5 s1 s2 h1 h2 W
  have HBE := Lib.hid (fun W k1 k2 => bequal_c z1 z2 A1 A2 r1 r2 c1 c2 W k1 k2 hz1 hz2)
  have H1 := Lib.hid hr1
  have H2 := Lib.hid hr2
  obtain ⟨V1, hV1⟩ : ∃ V, wrV s1 A1 r1 c1 n1 = V := ⟨_, rfl⟩
  obtain ⟨V2, hV2⟩ : ∃ V, wrV s2 A2 r2 c2 n2 = V := ⟨_, rfl⟩
  rw [hV1] at HC8 HC9 HST1 ⊢
  rw [hV2] at HD8 HD9 HST2 ⊢
  clear hV1 hV2 hr1 hr2
  by_cases e1 : s1 = s2
  · rw [decide_eq_true e1] at E1
    by_cases e2 : n1 = n2
    · have hB : sameB s1 s2 z1 z2 n1 n2 = decide (z1 = z2) := by
        unfold sameB
        rw [Bool.eq_iff_iff]
        simp [e1, e2]
      have t2 : (n1 == n2) = true := by rw [beq_iff_eq, e2]
      have HB := Lib.hid hB
      clear hB e1 e2
      go_enter Tryd.func19, Tryd.ntmps19
      go_wp2_with (first
        | (with_reducible refine at_any ?_; refine at_dst 2 rfl ?_; refine wpList_box_any rfl 36 (.tmp 0) rfl V1 rfl ?_; intro w1 hk1 hs1 hb1)
        | (with_reducible refine at_any ?_; refine at_dst 3 rfl ?_; refine wpList_box_any rfl 36 (.tmp 1) rfl V2 rfl ?_; intro w2 hk2 hs2 hb2; have hk1b := Lib.hid (hk1.out.below hb2 hk1.out.lt); have bl2 := Lib.hid (hb1.trans (hb2.mono hb1.size)); have c8 := hk1b.out.cell 8; have c9 := hk1b.out.cell 9; have d8 := hk2.out.cell 8; have d9 := hk2.out.cell 9; rw [HC8.out] at c8; rw [HC9.out] at c9; rw [HD8.out] at d8; rw [HD9.out] at d9)
        | (with_reducible refine at_any ?_; refine at_dst 6 rfl ?_; refine wpList_load_at rfl 33 (.tmp 5) rfl w.heap.size 0 rfl .u32 s1 (HST1.out _ _ hk1b.out) _ Tryd.underlying33 rfl SS1.out ?_)
        | (with_reducible refine at_any ?_; refine at_dst 8 rfl ?_; refine wpList_load_at rfl 33 (.tmp 7) rfl w1.heap.size 0 rfl .u32 s2 (HST2.out _ _ hk2.out) _ Tryd.underlying33 rfl SS2.out ?_)
        | (go_at_call 36; (with_reducible refine (HBE.out _ ((H1.out.below bl2.out).fit) ((H2.out.below bl2.out).fit)).mono ?_); rintro e _ ⟨rfl, rfl⟩))
      go_ret
      exact ⟨by rw [HB.out]; rfl, bl2.out⟩
    · have hB : sameB s1 s2 z1 z2 n1 n2 = false := by simp [sameB, e2]
      have t2 : (n1 == n2) = false := by rw [beq_eq_false_iff_ne]; exact e2
      have HB := Lib.hid hB
      clear hB e1 e2
      go_enter Tryd.func19, Tryd.ntmps19
      go_wp2_with (first
        | (with_reducible refine at_any ?_; refine at_dst 2 rfl ?_; refine wpList_box_any rfl 36 (.tmp 0) rfl V1 rfl ?_; intro w1 hk1 hs1 hb1)
        | (with_reducible refine at_any ?_; refine at_dst 3 rfl ?_; refine wpList_box_any rfl 36 (.tmp 1) rfl V2 rfl ?_; intro w2 hk2 hs2 hb2; have hk1b := Lib.hid (hk1.out.below hb2 hk1.out.lt); have bl2 := Lib.hid (hb1.trans (hb2.mono hb1.size)); have c8 := hk1b.out.cell 8; have c9 := hk1b.out.cell 9; have d8 := hk2.out.cell 8; have d9 := hk2.out.cell 9; rw [HC8.out] at c8; rw [HC9.out] at c9; rw [HD8.out] at d8; rw [HD9.out] at d9)
        | (with_reducible refine at_any ?_; refine at_dst 6 rfl ?_; refine wpList_load_at rfl 33 (.tmp 5) rfl w.heap.size 0 rfl .u32 s1 (HST1.out _ _ hk1b.out) _ Tryd.underlying33 rfl SS1.out ?_)
        | (with_reducible refine at_any ?_; refine at_dst 8 rfl ?_; refine wpList_load_at rfl 33 (.tmp 7) rfl w1.heap.size 0 rfl .u32 s2 (HST2.out _ _ hk2.out) _ Tryd.underlying33 rfl SS2.out ?_)
        | (go_at_call 36; (with_reducible refine (HBE.out _ ((H1.out.below bl2.out).fit) ((H2.out.below bl2.out).fit)).mono ?_); rintro e _ ⟨rfl, rfl⟩))
      go_ret
      exact ⟨by rw [HB.out]; rfl, bl2.out⟩
  · rw [decide_eq_false e1] at E1
    have hB : sameB s1 s2 z1 z2 n1 n2 = false := by simp [sameB, e1]
    have HB := Lib.hid hB
    clear hB e1
    go_enter Tryd.func19, Tryd.ntmps19
    go_wp2_with (first
      | (with_reducible refine at_any ?_; refine at_dst 2 rfl ?_; refine wpList_box_any rfl 36 (.tmp 0) rfl V1 rfl ?_; intro w1 hk1 hs1 hb1)
      | (with_reducible refine at_any ?_; refine at_dst 3 rfl ?_; refine wpList_box_any rfl 36 (.tmp 1) rfl V2 rfl ?_; intro w2 hk2 hs2 hb2; have hk1b := Lib.hid (hk1.out.below hb2 hk1.out.lt); have bl2 := Lib.hid (hb1.trans (hb2.mono hb1.size)); have c8 := hk1b.out.cell 8; have c9 := hk1b.out.cell 9; have d8 := hk2.out.cell 8; have d9 := hk2.out.cell 9; rw [HC8.out] at c8; rw [HC9.out] at c9; rw [HD8.out] at d8; rw [HD9.out] at d9)
      | (with_reducible refine at_any ?_; refine at_dst 6 rfl ?_; refine wpList_load_at rfl 33 (.tmp 5) rfl w.heap.size 0 rfl .u32 s1 (HST1.out _ _ hk1b.out) _ Tryd.underlying33 rfl SS1.out ?_)
      | (with_reducible refine at_any ?_; refine at_dst 8 rfl ?_; refine wpList_load_at rfl 33 (.tmp 7) rfl w1.heap.size 0 rfl .u32 s2 (HST2.out _ _ hk2.out) _ Tryd.underlying33 rfl SS2.out ?_)
      | (go_at_call 36; (with_reducible refine (HBE.out _ ((H1.out.below bl2.out).fit) ((H2.out.below bl2.out).fit)).mono ?_); rintro e _ ⟨rfl, rfl⟩))
    go_ret
    exact ⟨by rw [HB.out]; rfl, bl2.out⟩
end Go.Proofs.YtjdceadglfnnbaaDoor

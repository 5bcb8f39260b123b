/-
  What the document's answers for layer 5 return (Same, Great), and that they leave memory as it was.
  Conditions: the arguments lie in their types' ranges.
-/
import Derived.Test.YtjdceadglfnnbaaDoorRefI
set_option linter.unusedSimpArgs false
namespace Go.Proofs.YtjdceadglfnnbaaDoor
open Go.ChangeShapes Go.WideShapes Go.ChangeAt Go.RowKit
set_option linter.unusedVariables false
theorem str_rd5 {w : World} {B : Nat} {A : Option Addr} {n c : Nat} {zs : List Int} (h : Rd .u8 w B A n zs) : (convert 29 9 (.slice A n c)).run Tryd.prog w = .ok (.string (strB zs)) w :=
  run_str Tryd.underlying29 Tryd.underlying5 Tryd.underlying9 h (fun hA => by
    rcases Nat.eq_zero_or_pos n with h0 | h0
    · exact h0
    · obtain ⟨b, off, e, _⟩ := h.2 h0; rw [hA] at e; cases e)
theorem eq_state5 (zs ys : List Int) (hz : zs.length = 8) (hy : ys.length = 8) (w : World) : (Op.equalIn 10000 33 (.agg (intsA .u32 zs)) (.agg (intsA .u32 ys))).run Tryd.prog w = .ok (decide (zs = ys)) w := by
  obtain ⟨i0, hi, _, hs, _⟩ := info_parts info_u32c
  exact run_equal_ints Tryd.underlying33 Tryd.underlying31 hi hs (by kernel_rfl) zs ys hz hy w
theorem toL_eq5 {a b : ByteArray} : a.toList = b.toList ↔ a = b := by
  rw [ByteArray.toList_eq, ByteArray.toList_eq]
  constructor
  · intro h
    obtain ⟨⟨x⟩⟩ := a
    obtain ⟨⟨y⟩⟩ := b
    simp at h
    rw [h]
  · intro h; rw [h]
def sameB (s1 s2 z1 z2 : List Int) (n1 n2 : Int) : Bool := decide (s1 = s2 ∧ z1 = z2 ∧ n1 = n2)
set_option maxHeartbeats 1000000 in
theorem rsamew_c (s1 s2 z1 z2 : List Int) (h1 : s1.length = 8) (h2 : s2.length = 8) (A1 A2 : Option Addr) (r1 r2 c1 c2 : Nat) (n1 n2 : Int) (w : World)
    (hr1 : Rd .u8 w w.heap.size A1 r1 z1) (hr2 : Rd .u8 w w.heap.size A2 r2 z2) (hz1 : ∀ z ∈ z1, 0 ≤ z ∧ z < 256) (hz2 : ∀ z ∈ z2, 0 ≤ z ∧ z < 256) :
    Calls Tryd.prog 16 #[.agg (wrV s1 A1 r1 c1 n1), .agg (wrV s2 A2 r2 c2 n2)] w fun e w' => e = .returned (.bool (sameB s1 s2 z1 z2 n1 n2)) ∧ Below w.heap.size w w' := by
  have HC8 := Lib.hid (wrV_rest s1 h1 A1 r1 c1 n1)
  have HC9 := Lib.hid (wrV_bytes s1 h1 A1 r1 c1 n1)
  have HD8 := Lib.hid (wrV_rest s2 h2 A2 r2 c2 n2)
  have HD9 := Lib.hid (wrV_bytes s2 h2 A2 r2 c2 n2)
  have HST1 := Lib.hid (fun W g (h : Blk W g 36 (wrV s1 A1 r1 c1 n1)) => wrV_state h)
  have HST2 := Lib.hid (fun W g (h : Blk W g 36 (wrV s2 A2 r2 c2 n2)) => wrV_state h)
  have SS1 := Lib.hid (sized s1 h1)
  have SS2 := Lib.hid (sized s2 h2)
  have E1 := fun W => eq_state5 s1 s2 h1 h2 W
  have HEQ := strB_eq hz1 hz2
  have H1 := Lib.hid hr1
  have H2 := Lib.hid hr2
  obtain ⟨V1, hV1⟩ : ∃ V, wrV s1 A1 r1 c1 n1 = V := ⟨_, rfl⟩
  obtain ⟨V2, hV2⟩ : ∃ V, wrV s2 A2 r2 c2 n2 = V := ⟨_, rfl⟩
  rw [hV1] at HC8 HC9 HST1 ⊢
  rw [hV2] at HD8 HD9 HST2 ⊢
  clear hV1 hV2 hr1 hr2
  by_cases e1 : s1 = s2
  · rw [decide_eq_true e1] at E1
    by_cases e2 : z1 = z2
    · have hB : sameB s1 s2 z1 z2 n1 n2 = (n1 == n2) := by
        unfold sameB
        rw [Bool.eq_iff_iff]
        simp [e1, e2]
      have t2 : ((strB z1).toList == (strB z2).toList) = true := by rw [beq_iff_eq, HEQ.2 e2]
      have HB := Lib.hid hB
      clear hB HEQ e1 e2
      go_enter Tryd.func16, Tryd.ntmps16
      go_wp2_with (first
    | (with_reducible refine at_any ?_; refine at_dst 2 rfl ?_; refine wpList_box_any rfl 36 (.tmp 0) rfl V1 rfl ?_; intro w1 hk1 hs1 hb1)
    | (with_reducible refine at_any ?_; refine at_dst 3 rfl ?_; refine wpList_box_any rfl 36 (.tmp 1) rfl V2 rfl ?_; intro w2 hk2 hs2 hb2; have hk1b := Lib.hid (hk1.out.below hb2 hk1.out.lt); have bl2 := Lib.hid (hb1.trans (hb2.mono hb1.size)); have c8 := hk1b.out.cell 8; have c9 := hk1b.out.cell 9; have d8 := hk2.out.cell 8; have d9 := hk2.out.cell 9; rw [HC8.out] at c8; rw [HC9.out] at c9; rw [HD8.out] at d8; rw [HD9.out] at d9; have x1 := str_rd5 (c := c1) (H1.out.below bl2.out); have x2 := str_rd5 (c := c2) (H2.out.below bl2.out))
    | (with_reducible refine at_any ?_; refine at_dst 6 rfl ?_; refine wpList_load_at rfl 33 (.tmp 5) rfl w.heap.size 0 rfl .u32 s1 (HST1.out _ _ hk1b.out) _ Tryd.underlying33 rfl SS1.out ?_)
    | (with_reducible refine at_any ?_; refine at_dst 8 rfl ?_; refine wpList_load_at rfl 33 (.tmp 7) rfl w1.heap.size 0 rfl .u32 s2 (HST2.out _ _ hk2.out) _ Tryd.underlying33 rfl SS2.out ?_))
      go_ret
      exact ⟨by rw [HB.out]; rfl, bl2.out⟩
    · have hB : sameB s1 s2 z1 z2 n1 n2 = false := by simp [sameB, e2]
      have t2 : ((strB z1).toList == (strB z2).toList) = false := by rw [beq_eq_false_iff_ne]; exact fun h => e2 (HEQ.1 (toL_eq5.1 h))
      have HB := Lib.hid hB
      clear hB HEQ e1 e2
      go_enter Tryd.func16, Tryd.ntmps16
      go_wp2_with (first
    | (with_reducible refine at_any ?_; refine at_dst 2 rfl ?_; refine wpList_box_any rfl 36 (.tmp 0) rfl V1 rfl ?_; intro w1 hk1 hs1 hb1)
    | (with_reducible refine at_any ?_; refine at_dst 3 rfl ?_; refine wpList_box_any rfl 36 (.tmp 1) rfl V2 rfl ?_; intro w2 hk2 hs2 hb2; have hk1b := Lib.hid (hk1.out.below hb2 hk1.out.lt); have bl2 := Lib.hid (hb1.trans (hb2.mono hb1.size)); have c8 := hk1b.out.cell 8; have c9 := hk1b.out.cell 9; have d8 := hk2.out.cell 8; have d9 := hk2.out.cell 9; rw [HC8.out] at c8; rw [HC9.out] at c9; rw [HD8.out] at d8; rw [HD9.out] at d9; have x1 := str_rd5 (c := c1) (H1.out.below bl2.out); have x2 := str_rd5 (c := c2) (H2.out.below bl2.out))
    | (with_reducible refine at_any ?_; refine at_dst 6 rfl ?_; refine wpList_load_at rfl 33 (.tmp 5) rfl w.heap.size 0 rfl .u32 s1 (HST1.out _ _ hk1b.out) _ Tryd.underlying33 rfl SS1.out ?_)
    | (with_reducible refine at_any ?_; refine at_dst 8 rfl ?_; refine wpList_load_at rfl 33 (.tmp 7) rfl w1.heap.size 0 rfl .u32 s2 (HST2.out _ _ hk2.out) _ Tryd.underlying33 rfl SS2.out ?_))
      go_ret
      exact ⟨by rw [HB.out]; rfl, bl2.out⟩
  · rw [decide_eq_false e1] at E1
    have hB : sameB s1 s2 z1 z2 n1 n2 = false := by simp [sameB, e1]
    have HB := Lib.hid hB
    clear hB HEQ e1
    go_enter Tryd.func16, Tryd.ntmps16
    go_wp2_with (first
    | (with_reducible refine at_any ?_; refine at_dst 2 rfl ?_; refine wpList_box_any rfl 36 (.tmp 0) rfl V1 rfl ?_; intro w1 hk1 hs1 hb1)
    | (with_reducible refine at_any ?_; refine at_dst 3 rfl ?_; refine wpList_box_any rfl 36 (.tmp 1) rfl V2 rfl ?_; intro w2 hk2 hs2 hb2; have hk1b := Lib.hid (hk1.out.below hb2 hk1.out.lt); have bl2 := Lib.hid (hb1.trans (hb2.mono hb1.size)); have c8 := hk1b.out.cell 8; have c9 := hk1b.out.cell 9; have d8 := hk2.out.cell 8; have d9 := hk2.out.cell 9; rw [HC8.out] at c8; rw [HC9.out] at c9; rw [HD8.out] at d8; rw [HD9.out] at d9; have x1 := str_rd5 (c := c1) (H1.out.below bl2.out); have x2 := str_rd5 (c := c2) (H2.out.below bl2.out))
    | (with_reducible refine at_any ?_; refine at_dst 6 rfl ?_; refine wpList_load_at rfl 33 (.tmp 5) rfl w.heap.size 0 rfl .u32 s1 (HST1.out _ _ hk1b.out) _ Tryd.underlying33 rfl SS1.out ?_)
    | (with_reducible refine at_any ?_; refine at_dst 8 rfl ?_; refine wpList_load_at rfl 33 (.tmp 7) rfl w1.heap.size 0 rfl .u32 s2 (HST2.out _ _ hk2.out) _ Tryd.underlying33 rfl SS2.out ?_))
    go_ret
    exact ⟨by rw [HB.out]; rfl, bl2.out⟩
def greatAt (rs : List Row) (i : Nat) : Bool := (rs.take i).any fun r => decide (500 < r.n)
def greatB (rs : List Row) : Bool := decide (20 < rs.length) || rs.any fun r => decide (500 < r.n)
set_option maxHeartbeats 1000000 in
theorem rgreat_c (A : Option Addr) (n c : Nat) (rs : List Row) (w : World) (hr : RdRows w w.heap.size A n rs) (hn : n ≤ 9223372036854775807) (hrn : ∀ r ∈ rs, r.n ≤ 9223372036854775807) :
    Calls Tryd.prog 8 #[.slice A n c] w fun e w' => e = .returned (.bool (greatB rs)) ∧ w = w' := by
  by_cases h20 : 20 < n
  · have HB := Lib.hid (show greatB rs = true by simp [greatB, hr.1, h20])
    go_enter Tryd.func8, Tryd.ntmps8
    go_wp2
    go_ret
    exact ⟨by rw [HB.out]; rfl, rfl⟩
  · have HNL := Lib.hid hr.1
    have HR := Lib.hid hr
    have HB := Lib.hid (show greatB rs = rs.any fun r => decide (500 < r.n) by simp [greatB, hr.1, h20])
    clear hr
    go_enter Tryd.func8, Tryd.ntmps8
    go_wp2
    go_loop [3] (fun v => ∃ i : Nat, i ≤ n ∧ v = .int .i64 i ∧ Hid (greatAt rs i = false)) (fun v => n - (intOf v).toNat)
    case atStart => exact ⟨0, by omega, rfl, Lib.hid rfl⟩
    case round =>
      obtain ⟨i, hi, rfl, HG⟩ := hrel
      by_cases hlt : i < n
      · obtain ⟨b0, off, rfl, hb0, hcell⟩ := HR.out.2.1 (by omega)
        obtain ⟨r, hri⟩ : ∃ r, rs[i]? = some r := ⟨_, List.getElem?_eq_getElem (by rw [HNL.out]; exact hlt)⟩
        have c0 := hcell i r hri
        have hrm := hrn r (List.mem_of_getElem? hri)
        have HI := Lib.hid hri
        obtain ⟨⟨RA, Rn, Rc, Rz⟩, hre⟩ : ∃ R : Row, r = R := ⟨_, rfl⟩
        subst hre
        dsimp only at c0 hrm
        clear hcell hri
        by_cases h5 : 500 < Rn
        · have HT := Lib.hid (show (rs.any fun r => decide (500 < r.n)) = true from List.any_eq_true.2 ⟨_, List.mem_of_getElem? HI.out, by simpa using h5⟩)
          go_wp2
          go_ret
          exact ⟨by rw [HB.out, HT.out]; rfl, rfl⟩
        · go_wp2
          go_round
          case rel => exact ⟨i + 1, by omega, by go_num, Lib.hid (by
            obtain ⟨hi', e⟩ := List.getElem?_eq_some_iff.1 HI.out
            unfold greatAt
            rw [List.take_succ_eq_append_getElem hi', List.any_append, e]
            have := HG.out
            unfold greatAt at this
            rw [this]
            simpa using h5)⟩
          case measure => simp [intOf]; omega
      · obtain rfl : i = n := by omega
        have HT := Lib.hid (show (rs.any fun r => decide (500 < r.n)) = false by
          have := HG.out
          unfold greatAt at this
          rwa [List.take_of_length_le (by rw [HNL.out]; exact Nat.le_refl _)] at this)
        go_wp2
        go_ret
        exact ⟨by rw [HB.out, HT.out]; rfl, rfl⟩
end Go.Proofs.YtjdceadglfnnbaaDoor

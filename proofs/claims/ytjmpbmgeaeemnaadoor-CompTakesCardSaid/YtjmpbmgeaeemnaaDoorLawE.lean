/-
  What stage 4's fixed fact returns; states compared.
  Conditions: the table of constants holds what the program's text lays.
-/
import Derived.Test.YtjmpbmgeaeemnaaDoorCompT
import Derived.Test.YtjmpbmgeaeemnaaDoorHeldA
namespace Go.Proofs.YtjmpbmgeaeemnaaDoor
open Go.ChangeShapes Go.WideShapes Go.ChangeAt Go.RowKit
set_option linter.unusedVariables false
theorem eq_state (zs ys : List Int) (hz : zs.length = 8) (hy : ys.length = 8) (w : World) : (Op.equalIn 10000 24 (.agg (intsA .u32 zs)) (.agg (intsA .u32 ys))).run Tryd.prog w = .ok (decide (zs = ys)) w := by
  obtain ⟨i0, hi, _, hs, _⟩ := info_parts info_u32c
  exact run_equal_ints Tryd.underlying24 Tryd.underlying22 hi hs (by kernel_rfl) zs ys hz hy w
theorem same_state (zs : List Int) (hz : zs.length = 8) (w : World) : (Op.equalIn 10000 24 (.agg (intsA .u32 zs)) (.agg (intsA .u32 zs))).run Tryd.prog w = .ok true w := by
  have := eq_state zs zs hz hz w
  rwa [decide_eq_true rfl] at this
theorem size_b64e : (Tryd.prog.info? 29).map (·.size) = some 64 := by kernel_rfl
def blk1 : List Int := 128 :: List.replicate 63 0
theorem blk1_in : ∀ z ∈ blk1, 0 ≤ z ∧ z < 256 := by decide +kernel
theorem startL_in : WIn startL := by unfold WIn; decide +kernel
theorem take0 : (takeL startL blk1).getD 0 0 = 3820012610 := by kernel_rfl
theorem take7 : (takeL startL blk1).getD 7 0 = 2018687061 := by kernel_rfl
def one8 : List Int := [1, 0, 0, 0, 0, 0, 0, 0]
def two8 : List Int := [1074267136, 1, 0, 0, 0, 0, 0, 0]
theorem one8_in : WIn one8 := by unfold WIn; decide +kernel
theorem two8_in : WIn two8 := by unfold WIn; decide +kernel
theorem round_one : roundL one8 0 0 = two8 := by kernel_rfl
theorem back_two : backR two8 0 0 = one8 := by kernel_rfl
theorem take_len (s b : List Int) (hl : s.length = 8) : (takeL s b).length = 8 := by unfold takeL; rw [sums_len, rounds_len s b hl]
set_option maxHeartbeats 2000000 in
theorem alive4_c (w : World) (hkst : Kst w) : Calls Tryd.prog 7 #[] w fun e w' => e = .returned (.bool true) ∧ Below w.heap.size w w' := by
  obtain ⟨X, hX⟩ : ∃ X, takeL startL blk1 = X := ⟨_, rfl⟩
  have hx0 : X.getD 0 0 = 3820012610 := by rw [← hX]; exact take0
  have hx7 : X.getD 7 0 = 2018687061 := by rw [← hX]; exact take7
  have hxl : X.length = 8 := by rw [← hX]; exact take_len _ _ rfl
  have ct : ∀ W, Kst W → Calls Tryd.prog 14 #[.agg (intsA .u32 startL), .agg #[.int .u8 128, .int .u8 0, .int .u8 0, .int .u8 0, .int .u8 0, .int .u8 0, .int .u8 0, .int .u8 0, .int .u8 0, .int .u8 0, .int .u8 0, .int .u8 0, .int .u8 0, .int .u8 0, .int .u8 0, .int .u8 0, .int .u8 0, .int .u8 0, .int .u8 0, .int .u8 0, .int .u8 0, .int .u8 0, .int .u8 0, .int .u8 0, .int .u8 0, .int .u8 0, .int .u8 0, .int .u8 0, .int .u8 0, .int .u8 0, .int .u8 0, .int .u8 0, .int .u8 0, .int .u8 0, .int .u8 0, .int .u8 0, .int .u8 0, .int .u8 0, .int .u8 0, .int .u8 0, .int .u8 0, .int .u8 0, .int .u8 0, .int .u8 0, .int .u8 0, .int .u8 0, .int .u8 0, .int .u8 0, .int .u8 0, .int .u8 0, .int .u8 0, .int .u8 0, .int .u8 0, .int .u8 0, .int .u8 0, .int .u8 0, .int .u8 0, .int .u8 0, .int .u8 0, .int .u8 0, .int .u8 0, .int .u8 0, .int .u8 0, .int .u8 0]] W fun e w' => e = .returned (.agg (intsA .u32 X)) ∧ Below W.heap.size W w' := by
    intro W hW
    have := ctake_c startL blk1 rfl startL_in rfl blk1_in W hW
    rw [hX] at this
    exact this
  have cr : ∀ W, Calls Tryd.prog 8 #[.agg #[.int .u32 1, .int .u32 0, .int .u32 0, .int .u32 0, .int .u32 0, .int .u32 0, .int .u32 0, .int .u32 0], .int .u32 0, .int .u32 0] W fun e w' => e = .returned (.agg (intsA .u32 two8)) ∧ Below W.heap.size W w' := by
    intro W
    have := cround_c one8 0 0 rfl one8_in (by omega) (by omega) (by omega) (by omega) W
    rw [round_one] at this
    exact this
  have cb : ∀ W, Calls Tryd.prog 10 #[.agg #[.int .u32 1074267136, .int .u32 1, .int .u32 0, .int .u32 0, .int .u32 0, .int .u32 0, .int .u32 0, .int .u32 0], .int .u32 0, .int .u32 0] W fun e w' => e = .returned (.agg (intsA .u32 one8)) ∧ Below W.heap.size W w' := by
    intro W
    have := cbackr_c two8 0 0 rfl two8_in (by omega) (by omega) (by omega) (by omega) W
    rw [back_two] at this
    exact this
  have e1 : ∀ W, (Op.equalIn 10000 24 (.agg #[.int .u32 1074267136, .int .u32 1, .int .u32 0, .int .u32 0, .int .u32 0, .int .u32 0, .int .u32 0, .int .u32 0]) (.agg #[.int .u32 1074267136, .int .u32 1, .int .u32 0, .int .u32 0, .int .u32 0, .int .u32 0, .int .u32 0, .int .u32 0])).run Tryd.prog W = .ok true W := fun W => same_state two8 rfl W
  have e2 : ∀ W, (Op.equalIn 10000 24 (.agg (intsA .u32 one8)) (.agg #[.int .u32 1, .int .u32 0, .int .u32 0, .int .u32 0, .int .u32 0, .int .u32 0, .int .u32 0, .int .u32 0])).run Tryd.prog W = .ok true W := fun W => same_state one8 rfl W
  have k0 : constN 63 = 3329325298 := by kernel_rfl
  have k1 : constN 64 = 0 := by kernel_rfl
  have k2 : constN (-1) = 0 := by kernel_rfl
  have CT := Lib.hid ct
  have CR := Lib.hid cr
  have CB := Lib.hid cb
  have HX0 := Lib.hid hx0
  have HX7 := Lib.hid hx7
  have HXL := Lib.hid hxl
  have XS := Lib.hid (sized X hxl)
  have XZ := Lib.hid (show Z8.length = X.length by rw [hxl]; rfl)
  have TS := Lib.hid (sized two8 rfl)
  have TZ := Lib.hid (show Z8.length = two8.length from rfl)
  have K0 := Lib.hid k0
  have K1 := Lib.hid k1
  have K2 := Lib.hid k2
  have hix : ∀ W, (Instr.index 24 (.agg (intsA .u32 startL)) (.int .i64 0)).run Tryd.prog W = .ok (.int .u32 1779033703) W := by
    intro W
    obtain ⟨i0, hi, _, hs, _⟩ := info_parts info_u32c
    exact run_index_arr Tryd.underlying24 Tryd.underlying22 hi hs _ _ _ _ (by omega) (by omega) rfl W
  obtain ⟨SL, hSL⟩ : ∃ S, intsA .u32 startL = S := ⟨_, rfl⟩
  rw [hSL] at hix CT
  have cs : ∀ W, Calls Tryd.prog 12 #[] W fun e w' => e = .returned (.agg SL) ∧ Below W.heap.size W w' := by
    intro W
    have := cstart_c W
    rw [hSL] at this
    exact this
  have CS := Lib.hid cs
  have HKST := Lib.hid hkst
  clear hkst ct cr cb hx0 hx7 hxl k0 k1 k2 hX cs hSL
  go_enter Tryd.func7, Tryd.ntmps7
  go_wp2_with (first
    | (go_at_call 14; (with_reducible refine (CT.out _ (HKST.out.below bl1.out)).mono ?_); rintro e w2 ⟨rfl, hb2⟩; have bl2 := Lib.hid (bl1.out.trans (hb2.mono bl1.out.size)))
    | (go_at_call 8; (with_reducible refine (CR.out _).mono ?_); rintro e w5 ⟨rfl, hb5⟩; have hk4b := Lib.hid (hk4.out.below hb5 hk4.out.lt); have bl5 := Lib.hid (bl4.out.trans (hb5.mono bl4.out.size)))
    | (with_reducible refine at_any ?_; refine at_dst 1 rfl ?_; refine wpList_alloc_ints rfl 24 rfl .u32 Z8 zero_state ?_; intro w3 hk3 hs3 hb3; have bl3 := Lib.hid (bl2.out.trans (hb3.mono bl2.out.size)))
    | (with_reducible refine at_any ?_; refine at_store 1 rfl ?_; refine wpList_store_ints rfl 24 (.tmp 1) (.tmp 5) rfl w2.heap.size rfl 24 .u32 Z8 X hk3.out rfl XZ.out XS.out ?_; intro w4 hk4 hs4 hb4 ho4; have bl4 := Lib.hid (bl3.out.trans (hb4 _ bl2.out.size)))
    | (with_reducible refine at_any ?_; refine at_dst 2 rfl ?_; refine wpList_alloc_ints rfl 24 rfl .u32 Z8 zero_state ?_; intro w6 hk6 hs6 hb6; have hk4c := Lib.hid (hk4b.out.below hb6 hk4b.out.lt); have bl6 := Lib.hid (bl5.out.trans (hb6.mono bl5.out.size)))
    | (with_reducible refine at_any ?_; refine at_store 2 rfl ?_; refine wpList_store_ints rfl 24 (.tmp 2) (.tmp 7) rfl w5.heap.size rfl 24 .u32 Z8 two8 hk6.out rfl TZ.out TS.out ?_; intro w7 hk7 hs7 hb7 ho7; have hk4d := Lib.hid (hk4c.out.below (hb7 _ (Nat.le_refl _)) hk4b.out.lt); have bl7 := Lib.hid (bl6.out.trans (hb7 _ bl5.out.size)))
    | (go_at_call 12; (with_reducible refine (CS.out w).mono ?_); rintro e w1 ⟨rfl, hb1⟩; have bl1 := Lib.hid hb1)
    | (go_at_call 12; (with_reducible refine (CS.out w7).mono ?_); rintro e w8 ⟨rfl, hb8⟩; have hk4e := hk4d.out.below hb8 hk4d.out.lt; have hk7e := Lib.hid (hk7.out.below hb8 hk7.out.lt); have d0 : w8.cell? ⟨w5.heap.size, 0, none⟩ = some (.int .u32 1074267136) := hk7e.out.cell (j := 0) (by decide); have d1 : w8.cell? ⟨w5.heap.size, 1, none⟩ = some (.int .u32 1) := hk7e.out.cell (j := 1) (by decide); have d2 : w8.cell? ⟨w5.heap.size, 2, none⟩ = some (.int .u32 0) := hk7e.out.cell (j := 2) (by decide); have d3 : w8.cell? ⟨w5.heap.size, 3, none⟩ = some (.int .u32 0) := hk7e.out.cell (j := 3) (by decide); have d4 : w8.cell? ⟨w5.heap.size, 4, none⟩ = some (.int .u32 0) := hk7e.out.cell (j := 4) (by decide); have d5 : w8.cell? ⟨w5.heap.size, 5, none⟩ = some (.int .u32 0) := hk7e.out.cell (j := 5) (by decide); have d6 : w8.cell? ⟨w5.heap.size, 6, none⟩ = some (.int .u32 0) := hk7e.out.cell (j := 6) (by decide); have d7 : w8.cell? ⟨w5.heap.size, 7, none⟩ = some (.int .u32 0) := hk7e.out.cell (j := 7) (by decide); have c0 := hk4e.cell (j := 0) (by rw [HXL.out]; omega); have c7 := hk4e.cell (j := 7) (by rw [HXL.out]; omega); rw [HX0.out] at c0; rw [HX7.out] at c7; have bl8 := Lib.hid (bl7.out.trans (hb8.mono bl7.out.size)); clear hk4e)
    | (go_at_call 16; (with_reducible refine (cconst_c 63 (by omega) (by omega) _ (HKST.out.below bl8.out)).mono ?_); rw [K0.out]; rintro e _ ⟨rfl, rfl⟩)
    | (go_at_call 16; (with_reducible refine (cconst_c 64 (by omega) (by omega) _ (HKST.out.below bl8.out)).mono ?_); rw [K1.out]; rintro e _ ⟨rfl, rfl⟩)
    | (go_at_call 16; (with_reducible refine (cconst_c (-1) (by omega) (by omega) _ (HKST.out.below bl8.out)).mono ?_); rw [K2.out]; rintro e _ ⟨rfl, rfl⟩)
    | (go_at_call 10; (with_reducible refine (CB.out _).mono ?_); rintro e w9 ⟨rfl, hb9⟩; have bl9 := Lib.hid (bl8.out.trans (hb9.mono bl8.out.size))))
  go_ret
  exact ⟨rfl, bl9.out⟩
/-- The state that came in, and memory below. -/
def K1 (w : World) (g1 : Nat) (s : List Int) (w' : World) : Prop := BlkI w' g1 24 .u32 s ∧ Below w.heap.size w w'
theorem K1.below {w w' w'' : World} {g1 : Nat} {s : List Int} (h : K1 w g1 s w') (hb : Below w'.heap.size w' w'') : K1 w g1 s w'' := ⟨h.1.below hb h.1.lt, h.2.trans (hb.mono h.2.size)⟩
theorem K1.drew {w w' : World} {g1 : Nat} {s : List Int} (h : K1 w g1 s w') : K1 w g1 s w'.drew := ⟨h.1, h.2.drew⟩
def K1b (w : World) (g1 g2 : Nat) (s b : List Int) (w' : World) : Prop := BlkI w' g1 24 .u32 s ∧ BlkI w' g2 29 .u8 b ∧ Below w.heap.size w w'
theorem K1b.below {w w' w'' : World} {g1 g2 : Nat} {s b : List Int} (h : K1b w g1 g2 s b w') (hb : Below w'.heap.size w' w'') : K1b w g1 g2 s b w'' := ⟨h.1.below hb h.1.lt, h.2.1.below hb h.2.1.lt, h.2.2.trans (hb.mono h.2.2.size)⟩
theorem K1b.drew {w w' : World} {g1 g2 : Nat} {s b : List Int} (h : K1b w g1 g2 s b w') : K1b w g1 g2 s b w'.drew := ⟨h.1, h.2.1, h.2.2.drew⟩
theorem u32_in {l : List Int} (h : ∀ z ∈ l, (Lit.int .u32 z).wf = true) : ∀ z ∈ l, 0 ≤ z ∧ z < 4294967296 := fun z hz => by have := bounds_u32 (h z hz); omega
theorem u8_in {l : List Int} (h : ∀ z ∈ l, (Lit.int .u8 z).wf = true) : ∀ z ∈ l, 0 ≤ z ∧ z < 256 := fun z hz => by have := bounds_u8 (h z hz); omega
end Go.Proofs.YtjmpbmgeaeemnaaDoor

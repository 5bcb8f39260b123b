/-
  What stage 3's fixed fact returns.
  Conditions: none.
-/
import Derived.Test.YthipfbbjdghldaaPlanA
import Derived.Test.YthipfbbjdghldaaPlanQ
namespace Go.Proofs.Ythipfbbjdghldaa
open Go.ChangeShapes Go.WideShapes Go.ChangeAt Go.RowKit
set_option linter.unusedVariables false

theorem rep_in (n : Nat) : ∀ z ∈ List.replicate n (0 : Int), 0 ≤ z ∧ z < 256 := by
  intro z hz
  have := (List.mem_replicate.1 hz).2
  omega
theorem oneB_in : ∀ z ∈ oneB, 0 ≤ z ∧ z < 256 := by decide +kernel
def l258 : List Int := 258 :: List.replicate 15 0
theorem l258_in : ∀ z ∈ l258, 0 ≤ z ∧ z < 4294967296 := by decide +kernel
theorem back258 : (backL l258).getD 2 0 = 1 := by kernel_rfl
theorem index_b64 (zs : List Int) (hl : zs.length = 64) (j : Nat) (hj : j < 64) (w : World) : (Instr.index 26 (.agg (intsA .u8 zs)) (.int .i64 j)).run Try.prog w = .ok (.int .u8 (zs.getD j 0)) w := by
  obtain ⟨i0, hi, _, hs, _⟩ := info_parts info_u8c
  refine run_index_arr Try.underlying26 Try.underlying5 hi hs _ _ _ _ (by omega) (by omega) ?_ w
  rw [show ((j : Nat) : Int).toNat = j by omega]
  exact intsA_at .u8 zs j (by omega)

theorem zero_b64z : ∀ W, (zeroValue 26).run Try.prog W = .ok (.agg (intsA .u8 Z64)) W := zero_b64
theorem zero_planz : ∀ W, (zeroValue 29).run Try.prog W = .ok (.agg (intsA .u32 Z64)) W := zero_plan
theorem oneB_len : oneB.length = 64 := by rw [oneB, List.length_set, Z64_len]
theorem set_one {w : World} {g : Nat} {t : TypeId} (h : BlkI w g t .u8 Z64) : BlkI (w.setCell ⟨g, 3, none⟩ (.int .u8 1)) g t .u8 oneB := h.set_ 3 1
def Al (w : World) (g2 g3 : Nat) (w' : World) : Prop := BlkI w' g2 29 .u32 (planL Z64) ∧ BlkI w' g3 29 .u32 (planL oneB) ∧ Below w.heap.size w w'
theorem Al.below {w w' w'' : World} {g2 g3 : Nat} (h : Al w g2 g3 w') (hb : Below w'.heap.size w' w'') : Al w g2 g3 w'' :=
  ⟨h.1.below hb h.1.lt, h.2.1.below hb h.2.1.lt, h.2.2.trans (hb.mono h.2.2.size)⟩
set_option maxHeartbeats 1000000 in
theorem alive3_c (w : World) : Calls Try.prog 7 #[] w fun e w' => e = .returned (.bool true) ∧ Below w.heap.size w w' := by
  go_enter Try.func7, Try.ntmps7
  go_wp2_with (first
    | (with_reducible refine at_any ?_; refine at_dst 1 rfl ?_; refine wpList_alloc_ints rfl 26 rfl .u8 Z64 zero_b64z ?_; intro w1 hk1 hs1 hb1)
    | (with_reducible refine at_any ?_; refine at_dst 4 rfl ?_; refine wpList_load_ints rfl 26 (.tmp 1) rfl w.heap.size rfl 26 .u8 Z64 hk1.out _ Try.underlying26 rfl (by rw [Z64_len]; exact size_b64) ?_)
    | (go_at_call 12; (with_reducible refine (pof_c Z64 Z64_len Z64_in _).mono ?_); rintro e w2 ⟨rfl, hb2⟩; have hk1b := Lib.hid (hk1.out.below hb2 hk1.out.lt))
    | (with_reducible refine at_any ?_; refine at_dst 2 rfl ?_; refine wpList_alloc_ints rfl 29 rfl .u32 Z64 zero_planz ?_; intro w3 hk3 hs3 hb3; have hk1c := Lib.hid (hk1b.out.below hb3 hk1b.out.lt))
    | (with_reducible refine at_any ?_; refine at_store 2 rfl ?_; refine wpList_store_ints rfl 29 (.tmp 2) (.tmp 5) rfl w2.heap.size rfl 29 .u32 Z64 (planL Z64) hk3.out rfl (by rw [planL_len, Z64_len]) (by rw [planL_len]; exact size_plan) ?_; intro w4 hk4 hs4 hb4 ho4; have hk1d := Lib.hid (hk1c.out.below (hb4 _ (Nat.le_refl _)) hk1b.out.lt); have c3 := hk1d.out.cell (j := 3) (by rw [Z64_len]; omega); have f3 := hk1d.out.frozen 3; have hlt4 := hk4.out.lt; have hne : w2.heap.size ≠ w.heap.size := by { have := hk1b.out.lt; omega }; have hk1e := Lib.hid (set_one hk1d.out); have hk4e := Lib.hid (hk4.out.far (p := ⟨w.heap.size, 3, none⟩) hne (.int .u8 1)); have hw4 := Lib.hid (hb1.trans ((hb2.mono hb1.size).trans ((hb3.mono (by have := hb1.size; have := hb2.size; omega)).trans (hb4 _ (by have := hb1.size; have := hb2.size; omega))))); have hw4e := Lib.hid (hw4.out.setCell (p := ⟨w.heap.size, 3, none⟩) (Nat.le_refl _) (.int .u8 1)))
    | (with_reducible refine at_any ?_; refine at_dst 7 rfl ?_; refine wpList_load_ints rfl 26 (.tmp 1) rfl w.heap.size rfl 26 .u8 oneB hk1e.out _ Try.underlying26 rfl (by rw [oneB_len]; exact size_b64) ?_)
    | (go_at_call 12; (with_reducible refine (pof_c oneB oneB_len oneB_in _).mono ?_); rintro e w5 ⟨rfl, hb5⟩; have hk4f := Lib.hid (hk4e.out.below hb5 hk4e.out.lt); have hw5 := Lib.hid (hw4e.out.trans (hb5.mono hw4e.out.size)))
    | (with_reducible refine at_any ?_; refine at_dst 3 rfl ?_; refine wpList_alloc_ints rfl 29 rfl .u32 Z64 zero_planz ?_; intro w6 hk6 hs6 hb6; have hk4g := Lib.hid (hk4f.out.below hb6 hk4f.out.lt); have hw6 := Lib.hid (hw5.out.trans (hb6.mono hw5.out.size)))
    | (with_reducible refine at_any ?_; refine at_store 3 rfl ?_; refine wpList_store_ints rfl 29 (.tmp 3) (.tmp 8) rfl w5.heap.size rfl 29 .u32 Z64 (planL oneB) hk6.out rfl (by rw [planL_len, Z64_len]) (by rw [planL_len]; exact size_plan) ?_; intro w7 hk7 hs7 hb7 ho7; have hk4h := Lib.hid (hk4g.out.below (hb7 _ (Nat.le_refl _)) hk4f.out.lt); have hw7 := Lib.hid (hw6.out.trans (hb7 _ hw5.out.size))))
  obtain ⟨g2, hg2⟩ : ∃ g, w2.heap.size = g := ⟨_, rfl⟩
  obtain ⟨g3, hg3⟩ : ∃ g, w5.heap.size = g := ⟨_, rfl⟩
  have HA : Al w g2 g3 w7 := by rw [← hg2, ← hg3]; exact ⟨hk4h.out, hk7.out, hw7.out⟩
  rw [hg2, hg3]
  clear hk1 hs1 hb1 hb2 hk1b hk3 hs3 hb3 hk1c hk4 hs4 hb4 ho4 hk1d c3 f3 hlt4 hne hk1e hk4e hw4 hw4e hb5 hk4f hw5 hk6 hs6 hb6 hk4g hw6 hk7 hs7 hb7 ho7 hk4h hw7 hg2 hg3
  have HAd : Al w g2 g3 w7.drew := ⟨HA.1, HA.2.1, HA.2.2.drew⟩
  obtain ⟨y, hy⟩ : ∃ y, mix2 1 = y := ⟨_, rfl⟩
  have HY := Lib.hid hy
  have hK : ∀ w', Al w g2 g3 w' → w'.cell? ⟨g2, 63, none⟩ = some (.int .u32 0) ∧ w'.cell? ⟨g3, 0, none⟩ = some (.int .u32 1) ∧ w'.cell? ⟨g3, 15, none⟩ = some (.int .u32 0) ∧ w'.cell? ⟨g3, 16, none⟩ = some (.int .u32 1) ∧ w'.cell? ⟨g3, 17, none⟩ = some (.int .u32 0) ∧ w'.cell? ⟨g3, 18, none⟩ = some (.int .u32 y) ∧ Al w g2 g3 w' := by
    intro w' h
    have hc : ∀ j, j < 64 → w'.cell? ⟨g3, j, none⟩ = some (.int .u32 (pw oneB j)) := fun j hj => h.2.1.cell (by rw [planL_len]; exact hj)
    refine ⟨(h.1.cell (j := 63) (by rw [planL_len]; omega)).trans ?_, (hc 0 (by omega)).trans ?_, (hc 15 (by omega)).trans ?_, (hc 16 (by omega)).trans ?_, (hc 17 (by omega)).trans ?_, (hc 18 (by omega)).trans ?_, h⟩
    · rw [show (planL Z64).getD 63 0 = 0 from pw_nought 63 (by omega)]
    · rw [pw_one0]
    · rw [pw_one 15 (by omega) (by omega)]
    · rw [pw_one16]
    · rw [pw_one17]
    · rw [pw_one18, hy]
  have HK := Lib.hid hK
  have hbk : ∀ W, Calls Try.prog 14 #[.agg #[.int .u32 258, .int .u32 0, .int .u32 0, .int .u32 0, .int .u32 0, .int .u32 0, .int .u32 0, .int .u32 0, .int .u32 0, .int .u32 0, .int .u32 0, .int .u32 0, .int .u32 0, .int .u32 0, .int .u32 0, .int .u32 0]] W fun e w' => e = .returned (.agg (intsA .u8 (backL l258))) ∧ Below W.heap.size W w' := fun W => pback_c l258 rfl l258_in W
  have HBK := Lib.hid hbk
  have hix : ∀ W, (Instr.index 26 (.agg (intsA .u8 (backL l258))) (.int .i64 2)).run Try.prog W = .ok (.int .u8 1) W := by
    intro W
    have := index_b64 (backL l258) (backL_len _) 2 (by omega) W
    rw [back258] at this
    exact this
  obtain ⟨bk, hbke⟩ : ∃ x, intsA .u8 (backL l258) = x := ⟨_, rfl⟩
  rw [hbke] at hix HBK
  clear hK hbk hbke hy
  go_region_held3 (fun w' => w'.cell? ⟨g2, 63, none⟩ = some (.int .u32 0) ∧ w'.cell? ⟨g3, 0, none⟩ = some (.int .u32 1) ∧ w'.cell? ⟨g3, 15, none⟩ = some (.int .u32 0) ∧ w'.cell? ⟨g3, 16, none⟩ = some (.int .u32 1) ∧ w'.cell? ⟨g3, 17, none⟩ = some (.int .u32 0) ∧ w'.cell? ⟨g3, 18, none⟩ = some (.int .u32 y) ∧ Al w g2 g3 w')
    (first | assumption | exact HK.out _ HAd | (go_split_ands; exact HK.out _ HA9))
    (first
      | (go_at_call 10; (with_reducible refine (psecond_c 1 (by omega) (by omega) _).mono ?_); rw [HY.out]; rintro e w8 ⟨rfl, rfl⟩)
      | (go_at_call 8; (with_reducible refine (pfirst_c 8 (by omega) (by omega) _).mono ?_); rw [mix1_eight]; rintro e w8 ⟨rfl, rfl⟩)
      | (go_at_call 10; (with_reducible refine (psecond_c 1024 (by omega) (by omega) _).mono ?_); rw [mix2_kilo]; rintro e w8 ⟨rfl, rfl⟩)
      | (go_at_call 14; (with_reducible refine (HBK.out _).mono ?_); rintro e w9 ⟨rfl, hb9⟩; have HA9 := HAd.below hb9))
  all_goals
    go_wp2
    go_ret
    exact ⟨rfl, HA9.2.2⟩
end Go.Proofs.Ythipfbbjdghldaa

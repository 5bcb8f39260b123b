/-
  A block comes back of its plan's first words, words of their block.
  Conditions: none.
-/
import Derived.Test.YthipfbbjdghldaaLawD
import Derived.Deep.RegionHeld3
import Derived.ShutString
import Derived.ChangeOld
namespace Go.Proofs.Ythipfbbjdghldaa.planBack
open Go.ChangeShapes Go.WideShapes Go.ChangeAt Go.RowKit
set_option linter.unusedVariables false

theorem own : ownKnob Try.prog.godebug = none := by kernel_rfl
theorem laidOut : laidOutB Try.prog = true := by kernel_rfl

set_option maxHeartbeats 1000000 in
theorem back_walk (b l : List Int) (w : World) (hbl : b.length = 64) (hb : ∀ z ∈ b, 0 ≤ z ∧ z < 256) (hll : l.length = 16) (hl : ∀ z ∈ l, 0 ≤ z ∧ z < 4294967296) :
    Calls Try.prog 5 #[.agg (intsA .u8 b), .agg (intsA .u32 l)] w fun e w' => e = .returned (.bool true) ∧ Below w.heap.size w w' := by
  obtain ⟨z16, hz16⟩ : ∃ z, List.replicate 16 (0 : Int) = z := ⟨_, rfl⟩
  have zw := zero_w16
  rw [hz16] at zw
  have ZW := Lib.hid zw
  clear zw
  go_enter Try.func5, Try.ntmps5
  go_wp2_with (first
    | (with_reducible refine at_any ?_; refine at_dst 2 rfl ?_; refine wpList_box_ints rfl 26 (.tmp 0) rfl .u8 b rfl ?_; intro w1 hk1 hs1 hb1)
    | (with_reducible refine at_any ?_; refine at_dst 3 rfl ?_; refine wpList_box_ints rfl 27 (.tmp 1) rfl .u32 l rfl ?_; intro w2 hk2 hs2 hb2)
    | (go_at_call 7; (with_reducible refine (alive3_c _).mono ?_); rintro e w3 ⟨rfl, hb3⟩; have HK3 : Hid (K2 w w.heap.size w1.heap.size b l w3) := (by { have q1 := hs1.out; have q2 := hs2.out; exact K2.mk ((hk1.out.below hb2 (by omega)).below hb3 (by omega)) (hk2.out.below hb3 (by omega)) (hb1.trans ((hb2.mono (by omega)).trans (hb3.mono (by omega)))) }))
    | (with_reducible refine at_any ?_; refine at_dst 12 rfl ?_; refine wpList_load_ints rfl 26 (.tmp 2) rfl w.heap.size rfl 26 .u8 b HK3.out.fst _ Try.underlying26 rfl (by rw [hbl]; exact size_b64) ?_)
    | (go_at_call 12; (with_reducible refine (pof_c b hbl hb _).mono ?_); rintro e w4 ⟨rfl, hb4⟩; have HK4 := Lib.hid (HK3.out.below hb4))
    | (with_reducible refine at_any ?_; refine at_dst 5 rfl ?_; refine wpList_alloc_ints rfl 29 rfl .u32 Z64 zero_planz ?_; intro w5 hk5 hs5 hb5; have HK5 := Lib.hid (HK4.out.below hb5))
    | (with_reducible refine at_any ?_; refine at_store 5 rfl ?_; refine wpList_store_ints rfl 29 (.tmp 5) (.tmp 13) rfl w4.heap.size rfl 29 .u32 Z64 (planL b) hk5.out rfl (by rw [planL_len, Z64_len]) (by rw [planL_len]; exact size_plan) ?_; intro w6 hk6 hs6 hb6 ho6; have HK6 := Lib.hid (HK5.out.keep (by have := HK4.out.fst.lt; omega) (by have := HK4.out.snd.lt; omega) HK4.out.bel.size (hb6 _ (Nat.le_refl _))))
    | (with_reducible refine at_any ?_; refine at_dst 6 rfl ?_; refine wpList_alloc_ints rfl 27 rfl .u32 z16 ZW.out ?_; intro w7 hk7 hs7 hb7; have HK7 := Lib.hid (HK6.out.below hb7); have hk6b := Lib.hid (hk6.out.below hb7 hk6.out.lt)))
  have HK : K4 w w.heap.size w1.heap.size w4.heap.size w6.heap.size 29 27 b l (planL b) z16 w7 := by
    have q1 := HK4.out.fst.lt
    have q2 := HK4.out.snd.lt
    have q5 := hs5.out
    have q6 := hs6.out
    have q7 := HK4.out.bel.size
    exact ⟨HK7.out, hk6b.out, hk7.out, by omega, by omega, by omega, by omega⟩
  obtain ⟨g1, hg1⟩ : ∃ g, w.heap.size = g := ⟨_, rfl⟩
  obtain ⟨g2, hg2⟩ : ∃ g, w1.heap.size = g := ⟨_, rfl⟩
  obtain ⟨g5, hg5⟩ : ∃ g, w4.heap.size = g := ⟨_, rfl⟩
  obtain ⟨g6, hg6⟩ : ∃ g, w6.heap.size = g := ⟨_, rfl⟩
  have HW := Lib.hid hg1
  rw [hg1, hg2, hg5, hg6] at HK
  rw [hg1, hg2, hg5, hg6]
  have hz16l : z16.length = 16 := by rw [← hz16]; simp
  have HZ := Lib.hid hz16l
  clear hk1 hs1 hb1 hk2 hs2 hb2 hb3 HK3 hb4 HK4 hk5 hs5 hb5 HK5 hk6 hs6 hb6 ho6 HK6 hk7 hs7 hb7 HK7 hk6b hg1 hg2 hg5 hg6 hz16 hz16l ZW
  go_loopw [7] (fun v wr => ∃ i : Nat, ∃ h : List Int, i ≤ 16 ∧ v = .int .i64 i ∧ h.length = 16 ∧ (∀ j, j < i → h.getD j 0 = pw b j) ∧ K4 w g1 g2 g5 g6 29 27 b l (planL b) h wr) (fun v _ => 16 - (intOf v).toNat)
  case atStart => exact ⟨0, z16, by omega, rfl, HZ.out, fun j hj => by omega, HK⟩
  case round =>
    clear HK
    obtain ⟨i, h, hi, rfl, hlen, hat, HK⟩ := hrel
    by_cases hlt : i < 16
    · have c5 := HK.row.cell (j := i) (by rw [planL_len]; omega)
      have c6 := HK.fill.cell (j := i) (by omega)
      have f6 := HK.fill.frozen i
      have HN := Lib.hid (HK.set_ i (pw b i))
      have hat2 : ∀ j, j < i + 1 → (h.set i (pw b i)).getD j 0 = pw b j := by
        intro j hj
        rw [getD_set h i j _ (by omega)]
        by_cases hij : i = j
        · subst hij; simp
        · rw [if_neg hij]; exact hat j (by omega)
      have HAT := Lib.hid hat2
      have HLN := Lib.hid (show (h.set i (pw b i)).length = 16 by rw [List.length_set]; exact hlen)
      have c5' : wr.cell? ⟨g5, i, none⟩ = some (.int .u32 (pw b i)) := c5
      obtain ⟨y, hy⟩ : ∃ y, pw b i = y := ⟨_, rfl⟩
      rw [hy] at c5' HN HAT HLN
      clear c5 hat hat2 HK hlen hy
      go_wp2
      go_roundw
      case rel => exact ⟨i + 1, h.set i y, by omega, by go_num, HLN.out, HAT.out, HN.out⟩
      case measure => simp [intOf]; omega
    · rw [show ((i : Nat) : Int) = 16 by omega]
      obtain rfl : i = 16 := by omega
      have HK' := Lib.hid HK
      have HAT := Lib.hid hat
      have HLN := Lib.hid hlen
      have hbkl := Lib.hid (backL_len l)
      have hbki : ∀ z ∈ backL l, 0 ≤ z ∧ z < 256 := backTo_in l hl 16
      have HBI := Lib.hid hbki
      clear HK hat hlen hi hlt hbki
      go_wp2_with (first
        | (with_reducible refine at_any ?_; refine at_dst 23 rfl ?_; refine wpList_load_ints rfl 27 (.tmp 3) rfl g2 rfl 27 .u32 l HK'.out.k2.snd _ Try.underlying27 rfl (by rw [hll]; exact size_w16) ?_)
        | (go_at_call 14; (with_reducible refine (pback_c l hll hl _).mono ?_); rintro e w8 ⟨rfl, hb8⟩; have HK8 := Lib.hid (HK'.out.below hb8))
        | (go_at_call 12; (with_reducible refine (pof_c (backL l) hbkl.out HBI.out _).mono ?_); rintro e w9 ⟨rfl, hb9⟩; have HK9 := Lib.hid (HK8.out.below hb9))
        | (with_reducible refine at_any ?_; refine at_dst 8 rfl ?_; refine wpList_alloc_ints rfl 29 rfl .u32 Z64 zero_planz ?_; intro w10 hk10 hs10 hb10; have HK10 := Lib.hid (HK9.out.below hb10))
        | (with_reducible refine at_any ?_; refine at_store 8 rfl ?_; refine wpList_store_ints rfl 29 (.tmp 8) (.tmp 25) rfl w9.heap.size rfl 29 .u32 Z64 (planL (backL l)) hk10.out rfl (by rw [planL_len, Z64_len]) (by rw [planL_len]; exact size_plan) ?_; intro w11 hk11 hs11 hb11 ho11; have HK11 := Lib.hid (HK10.out.keep HK9.out.k2.fst.lt HK9.out.k2.snd.lt HK9.out.row.lt HK9.out.fill.lt (hb11 _ (Nat.le_refl _)))))
      obtain ⟨g8, hg8⟩ : ∃ g, w9.heap.size = g := ⟨_, rfl⟩
      rw [hg8] at hk11 ⊢
      have HQ : K4 w g1 g2 g5 g6 29 27 b l (planL b) h w11 ∧ BlkI w11 g8 29 .u32 (planL (backL l)) := ⟨HK11.out, hk11.out⟩
      clear hb8 HK8 hb9 HK9 hk10 hs10 hb10 HK10 hk11 hs11 hb11 ho11 HK11 hg8 HK'
      go_loopw [9] (fun v wr => ∃ i : Nat, i ≤ 16 ∧ v = .int .i64 i ∧ K4 w g1 g2 g5 g6 29 27 b l (planL b) h wr ∧ BlkI wr g8 29 .u32 (planL (backL l))) (fun v _ => 16 - (intOf v).toNat)
      case atStart => exact ⟨0, by omega, rfl, HQ⟩
      case round =>
        clear HQ
        obtain ⟨i, hi, rfl, HK, HB⟩ := hrel
        by_cases hlt : i < 16
        · have c8 : wr.cell? ⟨g8, i, none⟩ = some (.int .u32 (l.getD i 0)) := by
            have h1 := HB.cell (j := i) (by rw [planL_len]; omega)
            rw [show (planL (backL l)).getD i 0 = pw (backL l) i from rfl, pw_low _ _ hlt, word4_back l hl i hlt (by omega)] at h1
            exact h1
          have c2 := HK.k2.snd.cell (j := i) (by omega)
          obtain ⟨y, hy⟩ : ∃ y, l.getD i 0 = y := ⟨_, rfl⟩
          rw [hy] at c8 c2
          have q0 : (0 : Int) ≤ (i : Int) ∧ (i : Int) < 64 ∧ (i : Int) < 16 := by omega
          have HK' := Lib.hid HK
          have HB' := Lib.hid HB
          clear HK HB hy
          go_wp2
          go_region
          all_goals
            go_wp2
            go_roundw
            case rel => exact ⟨i + 1, by omega, by go_num, HK'.out.drew, HB'.out.drew⟩
            case measure => simp [intOf]; omega
        · rw [show ((i : Nat) : Int) = 16 by omega]
          obtain rfl : i = 16 := by omega
          have P2 := fun W => pback_c h HLN.out (by
            intro z hz
            obtain ⟨j, hj, rfl⟩ := List.getElem_of_mem hz
            have h1 := HAT.out j (by rw [← HLN.out]; exact hj)
            have h2 := pw_in b hb j (by rw [HLN.out] at hj; omega)
            rw [← h1] at h2
            simpa [hj] using h2) W
          rw [backL_words b h hbl hb HAT.out] at P2
          have E2 := fun W => eq_blockB b hbl W
          have P2' := Lib.hid P2
          have hlen := HLN.out
          clear P2 hi hlt HB
          go_wp2
          refine wp_region_held_drew (S := K4 w g1 g2 g5 g6 29 27 b l (planL b) h) (by kernel_rfl) HK.drew (fun hH => ?_)
          refine held_load 0 rfl (by kernel_rfl) (by kernel_rfl) (by kernel_rfl) (fun _ _ _ _ h => h) (by rfl) 27 (.tmp 6) rfl g6 (by kernel_rfl) 27 .u32 h (fun _ h => K4.fill h) _ Try.underlying27 rfl (by rw [hlen]; exact size_w16) hH ?_
          refine held_load 2 rfl (by kernel_rfl) (by kernel_rfl) (by kernel_rfl) (fun _ _ _ _ h => h) (by rfl) 26 (.tmp 2) rfl g1 (by kernel_rfl) 26 .u8 b (fun _ h => (K4.k2 h).fst) _ Try.underlying26 rfl (by rw [hbl]; exact size_b64) hH ?_
          refine wpAnyH_ready (rs := [1]) (by kernel_rfl) (by decide) ?_
          refine AllReadyH.cons rfl (fun K hK => ?_) AllReadyH.nil
          go_simp
          refine (P2'.out _).mono ?_
          rintro e w12 ⟨rfl, hbw12⟩
          refine hK.out _ _ (hH.below hbw12) (fun h12 => ?_)
          clear hK K
          refine held_val 3 rfl (by kernel_rfl) (by kernel_rfl) (by kernel_rfl) (fun _ _ _ _ h => h) (by rfl) (.bool true) (fun W _ => by go_simp) h12 ?_
          refine held_val 4 rfl (by kernel_rfl) (by kernel_rfl) (by kernel_rfl) (fun _ _ _ _ h => h) (by rfl) (.bool true) (fun W _ => by go_simp) h12 ?_
          refine wpAnyH_done (by kernel_rfl) ?_ _
          go_wp2
          go_ret
          refine ⟨rfl, ?_⟩
          first | exact h12.1.bel | (rw [← HW.out]; exact h12.1.bel)
theorem walk (a0 : List Int) (a1 : List Int) (w : World) (l0 : a0.length = 64) (w0 : ∀ z ∈ a0, (Lit.int .u8 z).wf = true) (l1 : a1.length = 16) (w1 : ∀ z ∈ a1, (Lit.int .u32 z).wf = true) :
    Calls Try.prog 5 #[.agg (a0.map (Value.int .u8)).toArray, .agg (a1.map (Value.int .u32)).toArray] w fun e w' => e = .returned (.bool true) ∧ Below w.heap.size w w' :=
  back_walk a0 a1 w l0 (u8_in w0) l1 (u32_in w1)


set_option maxRecDepth 100000 in
theorem lifted (os : Os) (started : os.Started) (H : Type) (enc : TypeId × Value → H) :
    ReturnsInHanded {} Try.checked os 5 .any (Rows.planBackSpec.pre6 enc Try.prog Try.f5 Rows.planBackRow.domain false) (Rows.planBackSpec.post enc Try.prog Try.f5 false true false false) := by
  refine returnsInHanded_of_change (C := Try.checked) own started (by kernel_rfl) Try.func5
    (ChangeSpec.witness6 (enc := enc) (C := Try.checked) false ⟨#[], #[.agg #[.int .u8 0, .int .u8 0, .int .u8 0, .int .u8 0, .int .u8 0, .int .u8 0, .int .u8 0, .int .u8 0, .int .u8 0, .int .u8 0, .int .u8 0, .int .u8 0, .int .u8 0, .int .u8 0, .int .u8 0, .int .u8 0, .int .u8 0, .int .u8 0, .int .u8 0, .int .u8 0, .int .u8 0, .int .u8 0, .int .u8 0, .int .u8 0, .int .u8 0, .int .u8 0, .int .u8 0, .int .u8 0, .int .u8 0, .int .u8 0, .int .u8 0, .int .u8 0, .int .u8 0, .int .u8 0, .int .u8 0, .int .u8 0, .int .u8 0, .int .u8 0, .int .u8 0, .int .u8 0, .int .u8 0, .int .u8 0, .int .u8 0, .int .u8 0, .int .u8 0, .int .u8 0, .int .u8 0, .int .u8 0, .int .u8 0, .int .u8 0, .int .u8 0, .int .u8 0, .int .u8 0, .int .u8 0, .int .u8 0, .int .u8 0, .int .u8 0, .int .u8 0, .int .u8 0, .int .u8 0, .int .u8 0, .int .u8 0, .int .u8 0, .int .u8 0], .agg #[.int .u32 0, .int .u32 0, .int .u32 0, .int .u32 0, .int .u32 0, .int .u32 0, .int .u32 0, .int .u32 0, .int .u32 0, .int .u32 0, .int .u32 0, .int .u32 0, .int .u32 0, .int .u32 0, .int .u32 0, .int .u32 0]], []⟩ 8 (by kernel_rfl) (by kernel_rfl) (by kernel_rfl) (by kernel_rfl)) ?_
  intro W base args ds gs before hval0 hW hcnd _
  have hval : ∀ (j : Nat) t v, Try.f5.params[j]? = some t → args[j]? = some v → Value.okWide Try.prog W .any base t v := hval0
  have hW' := hW
  obtain ⟨p, q, hA0, hV, rfl, hfz, hnd⟩ := hW
  have hA : DataW.TrodAll enc Try.prog W 0 (fun _ => true) true Try.f5.params.toList args.toList ds p := hA0
  rw [Try.params5] at hA hval
  obtain ⟨v0, vs0, d0, ds0, p0, q0, hargs, rfl, rfl, h0, r0⟩ := trodAll_cons hA
  obtain ⟨v1, vs1, d1, ds1, p1, q1, rfl, rfl, rfl, h1, r1⟩ := trodAll_cons r0
  obtain ⟨rfl, rfl, rfl⟩ := trodAll_nil r1
  obtain rfl : args = #[v0, v1] := by cases args; simp_all
  obtain ⟨rfl, rfl⟩ := trodVars_none hV
  obtain ⟨a0, l0, rfl, rfl, rfl, w0⟩ := open_arr_ints Try.underlying26 Try.underlying5 (by kernel_rfl) (by kernel_rfl) (hval 0 26 v0 rfl rfl) h0
  obtain ⟨a1, l1, rfl, rfl, rfl, w1⟩ := open_arr_ints Try.underlying27 Try.underlying22 (by kernel_rfl) (by kernel_rfl) (hval 1 27 v1 rfl rfl) h1
  clear hA0 hval0
  refine (walk a0 a1 W l0 w0 l1 w1).mono fun e W' ⟨he, bel⟩ => ?_
  subst he
  exact ⟨_, rfl, _, _, _, [], _, [], hW', trodAll_mk1 (shut_bool Try.underlying4 _), (trodAll_cons_mk (shut_arr_ints Try.underlying26 Try.underlying5 (by kernel_rfl) (by kernel_rfl) l0 w0) (trodAll_cons_mk (shut_arr_ints Try.underlying27 Try.underlying22 (by kernel_rfl) (by kernel_rfl) l1 w1) trodAll_mk0)), rfl, bel.frame _, fun h => by cases h⟩

theorem over : Rows.planBackRow.holds Try.pinned (OpenSpec.ofChange Rows.planBackSpec) :=
  OpenClaim.holds_of_wide 5 Try.f5 rfl rfl rfl rfl rfl rfl rfl ⟨rfl, rfl, rfl, rfl, rfl⟩ rfl rfl rfl rfl rfl (by kernel_rfl) Try.func5 (by kernel_rfl)
    (of_decide_eq_true (by kernel_rfl)) (by unfold Func.isWrapper; first | (rw [if_pos (by decide +kernel)]; kernel_rfl) | (rw [if_neg (by decide +kernel)]; exact ⟨rfl, rfl⟩))
    (fun os started H enc _ => lifted os started H enc)

end Go.Proofs.Ythipfbbjdghldaa.planBack
namespace Go.Proofs.Ythipfbbjdghldaa
theorem planBack_holds : Rows.PlanBackSaid := planBack.over
#print axioms planBack_holds
end Go.Proofs.Ythipfbbjdghldaa

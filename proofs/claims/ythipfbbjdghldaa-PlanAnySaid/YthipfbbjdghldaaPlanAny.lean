/-
  A block comes back of any sixteen words of its plan that follow each other.
  Conditions: none.
-/
import Derived.Test.YthipfbbjdghldaaLawD
import Derived.Deep.RegionHeld3
import Derived.ShutString
import Derived.ChangeOld
namespace Go.Proofs.Ythipfbbjdghldaa.planAny
open Go.ChangeShapes Go.WideShapes Go.ChangeAt Go.RowKit
set_option linter.unusedVariables false

theorem own : ownKnob Try.prog.godebug = none := by kernel_rfl
theorem laidOut : laidOutB Try.prog = true := by kernel_rfl

set_option maxHeartbeats 1000000 in
theorem any_walk (b : List Int) (n : Int) (w : World) (hbl : b.length = 64) (hb : ∀ z ∈ b, 0 ≤ z ∧ z < 256) (n0 : 0 ≤ n) (n1 : n < 256) :
    Calls Try.prog 6 #[.agg (intsA .u8 b), .int .u8 n] w fun e w' => e = .returned (.bool true) ∧ Below w.heap.size w w' := by
  obtain ⟨a, ha⟩ : ∃ a : Nat, n % 49 = (a : Int) := ⟨(n % 49).toNat, by omega⟩
  have ha1 : a ≤ 48 := by omega
  go_enter Try.func6, Try.ntmps6
  go_wp2_with (first
    | (with_reducible refine at_any ?_; refine at_dst 2 rfl ?_; refine wpList_box_ints rfl 26 (.tmp 0) rfl .u8 b rfl ?_; intro w1 hk1 hs1 hb1)
    | (go_at_call 7; (with_reducible refine (alive3_c _).mono ?_); rintro e w3 ⟨rfl, hb3⟩; have hk3 := Lib.hid (hk1.out.below hb3 hk1.out.lt); have bl3 := Lib.hid (hb1.trans (hb3.mono hb1.size)))
    | (with_reducible refine at_any ?_; refine at_dst 14 rfl ?_; refine wpList_load_ints rfl 26 (.tmp 2) rfl w.heap.size rfl 26 .u8 b hk3.out _ Try.underlying26 rfl (by rw [hbl]; exact size_b64) ?_)
    | (go_at_call 12; (with_reducible refine (pof_c b hbl hb _).mono ?_); rintro e w4 ⟨rfl, hb4⟩; have hk4 := Lib.hid (hk3.out.below hb4 hk3.out.lt); have bl4 := Lib.hid (bl3.out.trans (hb4.mono bl3.out.size)))
    | (with_reducible refine at_any ?_; refine at_dst 5 rfl ?_; refine wpList_alloc_ints rfl 29 rfl .u32 Z64 zero_planz ?_; intro w5 hk5 hs5 hb5; have hk4b := Lib.hid (hk4.out.below hb5 hk4.out.lt); have bl5 := Lib.hid (bl4.out.trans (hb5.mono bl4.out.size)))
    | (with_reducible refine at_any ?_; refine at_store 5 rfl ?_; refine wpList_store_ints rfl 29 (.tmp 5) (.tmp 15) rfl w4.heap.size rfl 29 .u32 Z64 (planL b) hk5.out rfl (by rw [planL_len, Z64_len]) (by rw [planL_len]; exact size_plan) ?_; intro w6 hk6 hs6 hb6 ho6; have hk4c := Lib.hid (hk4b.out.below (hb6 _ (Nat.le_refl _)) hk4.out.lt); have bl6 := Lib.hid (bl5.out.trans (hb6 _ bl4.out.size)))
    | (with_reducible refine at_any ?_; refine at_dst 7 rfl ?_; refine wpList_alloc_ints rfl 28 rfl .u32 Z64 zero_w64 ?_; intro w7 hk7 hs7 hb7; have hk4d := Lib.hid (hk4c.out.below hb7 hk4c.out.lt); have hk6b := Lib.hid (hk6.out.below hb7 hk6.out.lt); have bl7 := Lib.hid (bl6.out.trans (hb7.mono bl6.out.size))))
  have HI : In3 w w.heap.size w4.heap.size w6.heap.size 26 29 28 .u8 .u32 .u32 b (planL b) Z64 w7 := by
    have q1 := hk4c.out.lt
    have q2 := hk6.out.lt
    exact ⟨hk4d.out, hk6b.out, hk7.out, bl7.out, bl6.out.size, by omega, by omega⟩
  obtain ⟨g1, hg1⟩ : ∃ g, w.heap.size = g := ⟨_, rfl⟩
  obtain ⟨g5, hg5⟩ : ∃ g, w4.heap.size = g := ⟨_, rfl⟩
  obtain ⟨g7, hg7⟩ : ∃ g, w6.heap.size = g := ⟨_, rfl⟩
  have HW := Lib.hid hg1
  rw [hg1, hg5, hg7] at HI
  rw [hg1, hg5, hg7]
  clear hk1 hs1 hb1 hb3 hk3 bl3 hb4 hk4 bl4 hk5 hs5 hb5 hk4b bl5 hk6 hs6 hb6 ho6 hk4c bl6 hk7 hs7 hb7 hk4d hk6b bl7 hg1 hg5 hg7
  go_loopw [8] (fun v wr => ∃ i : Nat, ∃ U : List Int, i ≤ 16 ∧ v = .int .i64 i ∧ U.length = 64 ∧ (∀ j, a ≤ j → j < a + i → U.getD j 0 = pw b j) ∧ In3 w g1 g5 g7 26 29 28 .u8 .u32 .u32 b (planL b) U wr) (fun v _ => 16 - (intOf v).toNat)
  case atStart => exact ⟨0, Z64, by omega, rfl, Z64_len, fun j h1 h2 => by omega, HI⟩
  case round =>
    clear HI
    obtain ⟨i, U, hi, rfl, hU, hat, HI⟩ := hrel
    by_cases hlt : i < 16
    · have c5 : wr.cell? ⟨g5, a + i, none⟩ = some (.int .u32 (pw b (a + i))) := HI.snd.cell (j := a + i) (by rw [planL_len]; omega)
      have c7 := HI.trd.cell (j := a + i) (by omega)
      have f7 := HI.trd.frozen (a + i)
      have HN := Lib.hid (HI.set_ (a + i) (pw b (a + i)))
      have HAT := Lib.hid (fill_more U (pw b) a (a + (i + 1)) (a + i) (pw b (a + i)) rfl (by omega) (fun j h1 h2 h3 => hat j h1 (by omega)))
      have HLN := Lib.hid (show (U.set (a + i) (pw b (a + i))).length = 64 by rw [List.length_set]; exact hU)
      obtain ⟨y, hy⟩ : ∃ y, pw b (a + i) = y := ⟨_, rfl⟩
      rw [hy] at c5 HN HAT HLN
      clear hat HI hU hy
      go_wp2
      go_roundw
      case rel => exact ⟨i + 1, U.set (a + i) y, by omega, by go_num, HLN.out, HAT.out, HN.out⟩
      case measure => simp [intOf]; omega
    · rw [show ((i : Nat) : Int) = 16 by omega]
      obtain rfl : i = 16 := by omega
      clear hi hlt
      go_wp2
      go_loopw [9] (fun v wr => ∃ k : Nat, ∃ U : List Int, ∃ z : Int, z = (k : Int) - 1 ∧ v = .int .i64 z ∧ k ≤ a ∧ U.length = 64 ∧ (∀ j, k ≤ j → j < a + 16 → U.getD j 0 = pw b j) ∧ In3 w g1 g5 g7 26 29 28 .u8 .u32 .u32 b (planL b) U wr) (fun v _ => (intOf v + 1).toNat)
      case atStart => exact ⟨a, U, _, rfl, rfl, Nat.le_refl _, hU, hat, HI⟩
      case round =>
        clear HI hat hU U
        obtain ⟨k, U, z, hz, rfl, hk, hU, hat, HI⟩ := hrel
        by_cases hlt : 0 < k
        · obtain ⟨i, rfl⟩ : ∃ i, k = i + 1 := ⟨k - 1, by omega⟩
          obtain rfl : z = (i : Int) := by omega
          have HW2 := HI.open_ (i := i) (by omega)
          have p16 := hat (i + 16) (by omega) (by omega)
          have p14 := hat (i + 14) (by omega) (by omega)
          have p9 := hat (i + 9) (by omega) (by omega)
          have p1 := hat (i + 1) (by omega) (by omega)
          have hun := pw_undo b hb i (by omega)
          have r14 := pw_in b hb (i + 14) (by omega)
          have r1 := pw_in b hb (i + 1) (by omega)
          have HK : ∀ w', In3W w g1 g5 g7 26 29 28 .u8 .u32 .u32 b (planL b) U i w' → w'.cell? ⟨g7, i + 16, none⟩ = some (.int .u32 (U.getD (i + 16) 0)) ∧ w'.cell? ⟨g7, i + 14, none⟩ = some (.int .u32 (U.getD (i + 14) 0)) ∧ w'.cell? ⟨g7, i + 9, none⟩ = some (.int .u32 (U.getD (i + 9) 0)) ∧ w'.cell? ⟨g7, i + 1, none⟩ = some (.int .u32 (U.getD (i + 1) 0)) ∧ In3W w g1 g5 g7 26 29 28 .u8 .u32 .u32 b (planL b) U i w' :=
            fun w' h => ⟨h.cell3 (by omega) (by omega), h.cell3 (by omega) (by omega), h.cell3 (by omega) (by omega), h.cell3 (by omega) (by omega), h⟩
          rw [p16, p14, p9, p1] at HK
          obtain ⟨⟨u0, hu0⟩, hf0⟩ := HW2.at_ (by omega)
          have HAT := Lib.hid (fill_more U (pw b) i (a + 16) i (pw b i) rfl (by omega) (fun j h1 h2 h3 => hat j (by omega) h2))
          have HLN := Lib.hid (show (U.set i (pw b i)).length = 64 by rw [List.length_set]; exact hU)
          obtain ⟨v0, hv0⟩ : ∃ y, pw b i = y := ⟨_, rfl⟩
          obtain ⟨x16, hx16⟩ : ∃ y, pw b (i + 16) = y := ⟨_, rfl⟩
          obtain ⟨x14, hx14⟩ : ∃ y, pw b (i + 14) = y := ⟨_, rfl⟩
          obtain ⟨x9, hx9⟩ : ∃ y, pw b (i + 9) = y := ⟨_, rfl⟩
          obtain ⟨x1, hx1⟩ : ∃ y, pw b (i + 1) = y := ⟨_, rfl⟩
          rw [hv0, hx16, hx14, hx9, hx1] at hun
          rw [hx16, hx14, hx9, hx1] at HK
          rw [hv0] at HAT HLN
          rw [hx14] at r14
          rw [hx1] at r1
          obtain ⟨c0, c1, c2, c3, _⟩ := HK _ HW2
          obtain ⟨y14, hy14⟩ : ∃ y, mix2 x14 = y := ⟨_, rfl⟩
          obtain ⟨y1, hy1⟩ : ∃ y, mix1 x1 = y := ⟨_, rfl⟩
          rw [hy14, hy1] at hun
          obtain ⟨t1, ht1⟩ : ∃ t, (x16 - y14) % 4294967296 = t := ⟨_, rfl⟩
          obtain ⟨t2, ht2⟩ : ∃ t, (t1 - x9) % 4294967296 = t := ⟨_, rfl⟩
          rw [ht1, ht2] at hun
          have e1 : IntKind.u32.wrap (x16 - y14) = t1 := by rw [IntKind.wrap_u32]; exact ht1
          have e2 : IntKind.u32.wrap (t1 - x9) = t2 := by rw [IntKind.wrap_u32]; exact ht2
          have e3 : IntKind.u32.wrap (t2 - y1) = v0 := by rw [IntKind.wrap_u32]; exact hun.symm
          obtain ⟨m16, hm16⟩ : ∃ m, i + 16 = m := ⟨_, rfl⟩
          obtain ⟨m14, hm14⟩ : ∃ m, i + 14 = m := ⟨_, rfl⟩
          obtain ⟨m9, hm9⟩ : ∃ m, i + 9 = m := ⟨_, rfl⟩
          obtain ⟨m1, hm1⟩ : ∃ m, i + 1 = m := ⟨_, rfl⟩
          rw [hm16, hm14, hm9, hm1] at HK
          rw [hm16] at c0
          rw [hm14] at c1
          rw [hm9] at c2
          rw [hm1] at c3
          have s16 : IntKind.i64.wrap ((i : Int) + 16) = (m16 : Int) := by rw [IntWalk.i64_in _ (by omega)]; omega
          have s14 : IntKind.i64.wrap ((i : Int) + 14) = (m14 : Int) := by rw [IntWalk.i64_in _ (by omega)]; omega
          have s9 : IntKind.i64.wrap ((i : Int) + 9) = (m9 : Int) := by rw [IntWalk.i64_in _ (by omega)]; omega
          have s1 : IntKind.i64.wrap ((i : Int) + 1) = (m1 : Int) := by rw [IntWalk.i64_in _ (by omega)]; omega
          have q16 : (0 : Int) ≤ (m16 : Int) ∧ (m16 : Int) < 64 := by omega
          have q14 : (0 : Int) ≤ (m14 : Int) ∧ (m14 : Int) < 64 := by omega
          have q9 : (0 : Int) ≤ (m9 : Int) ∧ (m9 : Int) < 64 := by omega
          have q1 : (0 : Int) ≤ (m1 : Int) ∧ (m1 : Int) < 64 := by omega
          have q0 : (0 : Int) ≤ (i : Int) ∧ (i : Int) < 64 := by omega
          have qa : i ≤ a := by omega
          have HK' := Lib.hid HK
          have H14 := Lib.hid hy14
          have H1 := Lib.hid hy1
          have HWd : In3W w g1 g5 g7 26 29 28 .u8 .u32 .u32 b (planL b) U i wr.drew := by obtain ⟨u, hu⟩ := HW2; exact ⟨u, hu.drew⟩
          clear HK hat HI hU p16 p14 p9 p1 hun hv0 hx16 hx14 hx9 hx1 hy14 hy1 ht1 ht2 hm16 hm14 hm9 hm1 hz hk hlt
          go_wp2
          go_region_held3 (fun w' => w'.cell? ⟨g7, m16, none⟩ = some (.int .u32 x16) ∧ w'.cell? ⟨g7, m14, none⟩ = some (.int .u32 x14) ∧ w'.cell? ⟨g7, m9, none⟩ = some (.int .u32 x9) ∧ w'.cell? ⟨g7, m1, none⟩ = some (.int .u32 x1) ∧ In3W w g1 g5 g7 26 29 28 .u8 .u32 .u32 b (planL b) U i w')
            (first | assumption | exact HK'.out _ HWd | (go_split_ands; exact HK'.out _ (HWd.again _)))
            (first
              | (go_at_call 10; (with_reducible refine (psecond_c x14 r14.1 r14.2 _).mono ?_); rw [H14.out]; rintro e w9 ⟨rfl, rfl⟩)
              | (go_at_call 8; (with_reducible refine (pfirst_c x1 r1.1 r1.2 _).mono ?_); rw [H1.out]; rintro e w9 ⟨rfl, rfl⟩))
          all_goals
            go_wp2
            go_roundw
            case rel => exact ⟨i, U.set i v0, _, rfl, by go_num, qa, HLN.out, HAT.out, (HW2.set_ _).drew⟩
            case measure => (simp [intOf] <;> omega)
        · obtain rfl : k = 0 := by omega
          obtain rfl : z = -1 := by omega
          have HI' := Lib.hid HI
          have HAT := Lib.hid hat
          have HUL := Lib.hid hU
          clear HI hat hU hk hlt hz
          obtain ⟨z16, hz16⟩ : ∃ z, List.replicate 16 (0 : Int) = z := ⟨_, rfl⟩
          have zw := zero_w16
          rw [hz16] at zw
          have ZW := Lib.hid zw
          have HZL := Lib.hid (show z16.length = 16 by rw [← hz16]; simp)
          clear zw hz16
          go_wp2_with (with_reducible refine at_any ?_; refine at_dst 10 rfl ?_; refine wpList_alloc_ints rfl 27 rfl .u32 z16 ZW.out ?_; intro w10 hk10 hs10 hb10)
          have HJ : In3 w g1 g7 wr.heap.size 26 28 27 .u8 .u32 .u32 b U z16 w10 := by
            have q1 := HI'.out.fst.lt
            have q7 := HI'.out.trd.lt
            exact ⟨HI'.out.fst.below hb10 q1, HI'.out.trd.below hb10 q7, hk10.out, HI'.out.bel.trans (hb10.mono HI'.out.bel.size), HI'.out.bel.size, by omega, by omega⟩
          obtain ⟨g10, hg10⟩ : ∃ g, wr.heap.size = g := ⟨_, rfl⟩
          rw [hg10] at HJ ⊢
          clear hk10 hs10 hb10 hg10 HI'
          go_loopw [11] (fun v wr => ∃ i : Nat, ∃ h : List Int, i ≤ 16 ∧ v = .int .i64 i ∧ h.length = 16 ∧ (∀ j, 0 ≤ j → j < i → h.getD j 0 = pw b j) ∧ In3 w g1 g7 g10 26 28 27 .u8 .u32 .u32 b U h wr) (fun v _ => 16 - (intOf v).toNat)
          case atStart => exact ⟨0, z16, by omega, rfl, HZL.out, fun j h1 h2 => by omega, HJ⟩
          case round =>
            clear HJ
            obtain ⟨i, h, hi, rfl, hlen, hat, HI⟩ := hrel
            by_cases hlt : i < 16
            · have c7 := HI.snd.cell (j := i) (by rw [HUL.out]; omega)
              rw [HAT.out i (by omega) (by omega)] at c7
              have c10 := HI.trd.cell (j := i) (by omega)
              have f10 := HI.trd.frozen i
              have HN := Lib.hid (HI.set_ i (pw b i))
              have HAT2 := Lib.hid (fill_more h (pw b) 0 (i + 1) i (pw b i) rfl (by omega) (fun j h1 h2 h3 => hat j h1 (by omega)))
              have HLN := Lib.hid (show (h.set i (pw b i)).length = 16 by rw [List.length_set]; exact hlen)
              obtain ⟨y, hy⟩ : ∃ y, pw b i = y := ⟨_, rfl⟩
              rw [hy] at c7 HN HAT2 HLN
              clear hat HI hlen hy
              go_wp2
              go_roundw
              case rel => exact ⟨i + 1, h.set i y, by omega, by go_num, HLN.out, HAT2.out, HN.out⟩
              case measure => simp [intOf]; omega
            · rw [show ((i : Nat) : Int) = 16 by omega]
              obtain rfl : i = 16 := by omega
              have P2 := fun W => pback_c h hlen (by
                intro z hz
                obtain ⟨j, hj, rfl⟩ := List.getElem_of_mem hz
                have h1 := hat j (by omega) (by rw [← hlen]; exact hj)
                have h2 := pw_in b hb j (by omega)
                rw [← h1] at h2
                simpa [hj] using h2) W
              rw [backL_words b h hbl hb (fun j hj => hat j (by omega) hj)] at P2
              have E2 := fun W => eq_blockB b hbl W
              have P2' := Lib.hid P2
              clear P2 hi hlt hat
              go_wp2
              refine wp_region_held_drew (S := In3 w g1 g7 g10 26 28 27 .u8 .u32 .u32 b U h) (by kernel_rfl) HI.drew (fun hH => ?_)
              refine held_load 0 rfl (by kernel_rfl) (by kernel_rfl) (by kernel_rfl) (fun _ _ _ _ h => h) (by rfl) 27 (.tmp 10) rfl g10 (by kernel_rfl) 27 .u32 h (fun _ h => In3.trd h) _ Try.underlying27 rfl (by rw [hlen]; exact size_w16) hH ?_
              refine held_load 2 rfl (by kernel_rfl) (by kernel_rfl) (by kernel_rfl) (fun _ _ _ _ h => h) (by rfl) 26 (.tmp 2) rfl g1 (by kernel_rfl) 26 .u8 b (fun _ h => In3.fst h) _ Try.underlying26 rfl (by rw [hbl]; exact size_b64) hH ?_
              refine wpAnyH_ready (rs := [1]) (by kernel_rfl) (by decide) ?_
              refine AllReadyH.cons rfl (fun K hK => ?_) AllReadyH.nil
              go_simp
              refine (P2'.out _).mono ?_
              rintro e w12 ⟨rfl, hbw12⟩
              refine hK.out _ _ (hH.below hbw12) (fun h12 => ?_)
              clear hK K
              refine held_val 3 rfl (by kernel_rfl) (by kernel_rfl) (by kernel_rfl) (fun _ _ _ _ h => h) (by rfl) (.bool true) (fun W _ => by go_simp) h12 ?_
              refine held_val 4 rfl (by kernel_rfl) (by kernel_rfl) (by kernel_rfl) (fun _ _ _ _ h => h) (by rfl) (.bool true) (fun W _ => by go_simp) h12 ?_
              refine wpAnyH_done (by kernel_rfl) ?_ _
              go_wp2
              go_ret
              refine ⟨rfl, ?_⟩
              first | exact h12.bel | (rw [← HW.out]; exact h12.bel)
theorem walk (a0 : List Int) (a1 : Int) (w : World) (l0 : a0.length = 64) (w0 : ∀ z ∈ a0, (Lit.int .u8 z).wf = true) (w1 : (Lit.int .u8 a1).wf = true) :
    Calls Try.prog 6 #[.agg (a0.map (Value.int .u8)).toArray, .int .u8 a1] w fun e w' => e = .returned (.bool true) ∧ Below w.heap.size w w' :=
  any_walk a0 a1 w l0 (u8_in w0) (by have := bounds_u8 w1; omega) (by have := bounds_u8 w1; omega)


set_option maxRecDepth 100000 in
theorem lifted (os : Os) (started : os.Started) (H : Type) (enc : TypeId × Value → H) :
    ReturnsInHanded {} Try.checked os 6 .any (Rows.planAnySpec.pre6 enc Try.prog Try.f6 Rows.planAnyRow.domain false) (Rows.planAnySpec.post enc Try.prog Try.f6 false true false false) := by
  refine returnsInHanded_of_change (C := Try.checked) own started (by kernel_rfl) Try.func6
    (ChangeSpec.witness6 (enc := enc) (C := Try.checked) false ⟨#[], #[.agg #[.int .u8 0, .int .u8 0, .int .u8 0, .int .u8 0, .int .u8 0, .int .u8 0, .int .u8 0, .int .u8 0, .int .u8 0, .int .u8 0, .int .u8 0, .int .u8 0, .int .u8 0, .int .u8 0, .int .u8 0, .int .u8 0, .int .u8 0, .int .u8 0, .int .u8 0, .int .u8 0, .int .u8 0, .int .u8 0, .int .u8 0, .int .u8 0, .int .u8 0, .int .u8 0, .int .u8 0, .int .u8 0, .int .u8 0, .int .u8 0, .int .u8 0, .int .u8 0, .int .u8 0, .int .u8 0, .int .u8 0, .int .u8 0, .int .u8 0, .int .u8 0, .int .u8 0, .int .u8 0, .int .u8 0, .int .u8 0, .int .u8 0, .int .u8 0, .int .u8 0, .int .u8 0, .int .u8 0, .int .u8 0, .int .u8 0, .int .u8 0, .int .u8 0, .int .u8 0, .int .u8 0, .int .u8 0, .int .u8 0, .int .u8 0, .int .u8 0, .int .u8 0, .int .u8 0, .int .u8 0, .int .u8 0, .int .u8 0, .int .u8 0, .int .u8 0], .int .u8 0], []⟩ 8 (by kernel_rfl) (by kernel_rfl) (by kernel_rfl) (by kernel_rfl)) ?_
  intro W base args ds gs before hval0 hW hcnd _
  have hval : ∀ (j : Nat) t v, Try.f6.params[j]? = some t → args[j]? = some v → Value.okWide Try.prog W .any base t v := hval0
  have hW' := hW
  obtain ⟨p, q, hA0, hV, rfl, hfz, hnd⟩ := hW
  have hA : DataW.TrodAll enc Try.prog W 0 (fun _ => true) true Try.f6.params.toList args.toList ds p := hA0
  rw [Try.params6] at hA hval
  obtain ⟨v0, vs0, d0, ds0, p0, q0, hargs, rfl, rfl, h0, r0⟩ := trodAll_cons hA
  obtain ⟨v1, vs1, d1, ds1, p1, q1, rfl, rfl, rfl, h1, r1⟩ := trodAll_cons r0
  obtain ⟨rfl, rfl, rfl⟩ := trodAll_nil r1
  obtain rfl : args = #[v0, v1] := by cases args; simp_all
  obtain ⟨rfl, rfl⟩ := trodVars_none hV
  obtain ⟨a0, l0, rfl, rfl, rfl, w0⟩ := open_arr_ints Try.underlying26 Try.underlying5 (by kernel_rfl) (by kernel_rfl) (hval 0 26 v0 rfl rfl) h0
  obtain ⟨a1, rfl, rfl, rfl, w1⟩ := open_int Try.underlying5 (hval 1 5 v1 rfl rfl) h1
  clear hA0 hval0
  refine (walk a0 a1 W l0 w0 w1).mono fun e W' ⟨he, bel⟩ => ?_
  subst he
  exact ⟨_, rfl, _, _, _, [], _, [], hW', trodAll_mk1 (shut_bool Try.underlying4 _), (trodAll_cons_mk (shut_arr_ints Try.underlying26 Try.underlying5 (by kernel_rfl) (by kernel_rfl) l0 w0) (trodAll_cons_mk (shut_int Try.underlying5 w1) trodAll_mk0)), rfl, bel.frame _, fun h => by cases h⟩

theorem over : Rows.planAnyRow.holds Try.pinned (OpenSpec.ofChange Rows.planAnySpec) :=
  OpenClaim.holds_of_wide 6 Try.f6 rfl rfl rfl rfl rfl rfl rfl ⟨rfl, rfl, rfl, rfl, rfl⟩ rfl rfl rfl rfl rfl (by kernel_rfl) Try.func6 (by kernel_rfl)
    (of_decide_eq_true (by kernel_rfl)) (by unfold Func.isWrapper; first | (rw [if_pos (by decide +kernel)]; kernel_rfl) | (rw [if_neg (by decide +kernel)]; exact ⟨rfl, rfl⟩))
    (fun os started H enc _ => lifted os started H enc)

end Go.Proofs.Ythipfbbjdghldaa.planAny
namespace Go.Proofs.Ythipfbbjdghldaa
theorem planAny_holds : Rows.PlanAnySaid := planAny.over
#print axioms planAny_holds
end Go.Proofs.Ythipfbbjdghldaa

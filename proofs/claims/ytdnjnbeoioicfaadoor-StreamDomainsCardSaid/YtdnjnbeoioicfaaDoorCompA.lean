/-
  What the program's package comp returns, and that it leaves memory as it was.
  Conditions: the arguments lie in their types' ranges; of Constant and Take: the table of constants holds what the program's text lays.
-/
import Derived.Test.YtdnjnbeoioicfaaDoorRefE
import Derived.Test.YtdnjnbeoioicfaaDoorPlanA
import Derived.Test.YtdnjnbeoioicfaaDoorCompK
set_option linter.unusedSimpArgs false
namespace Go.Proofs.YtdnjnbeoioicfaaDoor
open Go.ChangeShapes Go.WideShapes Go.ChangeAt Go.RowKit
set_option linter.unusedVariables false
theorem cturned_c (x a b c : Int) (h0 : 0 ≤ x) (h1 : x < 4294967296) (a0 : 0 ≤ a) (a1 : a < 32) (b0 : 0 ≤ b) (b1 : b < 32) (c0 : 0 ≤ c) (c1 : c < 32) (w : World) :
    Calls Tryd.prog 64 #[.int .u32 x, .int .i64 a, .int .i64 b, .int .i64 c] w fun e w' => e = .returned (.int .u32 (turn3 x a b c)) ∧ w = w' := by
  unfold turn3
  go_enter Tryd.func64, Tryd.ntmps64
  go_wp2_with (go_at_call 62; (with_reducible refine (rotate_c _ _ (by omega) (by omega) (by omega) (by omega) _).mono ?_); rintro e _ ⟨rfl, rfl⟩)
  go_ret
  exact ⟨rfl, rfl⟩
theorem not_u32 (e : Int) (h0 : 0 ≤ e) (h1 : e < 4294967296) : bits .xor .u32 IntKind.u32.max e = 4294967295 - e := by
  obtain ⟨n, rfl⟩ := Int.eq_ofNat_of_zero_le h0
  have hn : n < 2 ^ 32 := by omega
  have e1 : (4294967295 : Nat) ^^^ n = 4294967295 - n := by
    have h := congrArg BitVec.toNat (BitVec.allOnes_xor (x := BitVec.ofNat 32 n))
    rw [BitVec.toNat_xor, BitVec.toNat_allOnes, BitVec.toNat_not, BitVec.toNat_ofNat, Nat.mod_eq_of_lt hn] at h
    exact h
  have e2 : IntKind.u32.max = ((4294967295 : Nat) : Int) := by decide
  rw [e2, u32_xor_nat _ _ (by omega) (by omega), e1]
  omega
theorem cchoice_c (e f g : Int) (e0 : 0 ≤ e) (e1 : e < 4294967296) (f0 : 0 ≤ f) (f1 : f < 4294967296) (g0 : 0 ≤ g) (g1 : g < 4294967296) (w : World) :
    Calls Tryd.prog 65 #[.int .u32 e, .int .u32 f, .int .u32 g] w fun r w' => r = .returned (.int .u32 (chW e f g)) ∧ w = w' := by
  unfold chW
  have hn := not_u32 e e0 e1
  rw [← hn]
  clear hn
  go_enter Tryd.func65, Tryd.ntmps65
  go_wp2
  go_ret
  exact ⟨rfl, rfl⟩
theorem cmajority_c (a b c : Int) (a0 : 0 ≤ a) (a1 : a < 4294967296) (b0 : 0 ≤ b) (b1 : b < 4294967296) (c0 : 0 ≤ c) (c1 : c < 4294967296) (w : World) :
    Calls Tryd.prog 66 #[.int .u32 a, .int .u32 b, .int .u32 c] w fun r w' => r = .returned (.int .u32 (majW a b c)) ∧ w = w' := by
  unfold majW
  go_enter Tryd.func66, Tryd.ntmps66
  go_wp2
  go_ret
  exact ⟨rfl, rfl⟩
def lowW (e f g : Int) : Int := (turn3 e 6 11 25 + chW e f g) % 4294967296
def uppW (a b c : Int) : Int := (turn3 a 2 13 22 + majW a b c) % 4294967296
theorem clower_c (e f g : Int) (e0 : 0 ≤ e) (e1 : e < 4294967296) (f0 : 0 ≤ f) (f1 : f < 4294967296) (g0 : 0 ≤ g) (g1 : g < 4294967296) (w : World) :
    Calls Tryd.prog 60 #[.int .u32 e, .int .u32 f, .int .u32 g] w fun r w' => r = .returned (.int .u32 (lowW e f g)) ∧ w = w' := by
  obtain ⟨v, hv⟩ : ∃ v, lowW e f g = v := ⟨_, rfl⟩
  rw [hv]
  unfold lowW at hv
  have c1 := fun W => cturned_c e 6 11 25 e0 e1 (by omega) (by omega) (by omega) (by omega) (by omega) (by omega) W
  have c2 := fun W => cchoice_c e f g e0 e1 f0 f1 g0 g1 W
  obtain ⟨y1, hy1⟩ : ∃ y, turn3 e 6 11 25 = y := ⟨_, rfl⟩
  obtain ⟨y2, hy2⟩ : ∃ y, chW e f g = y := ⟨_, rfl⟩
  rw [hy1] at c1 hv
  rw [hy2] at c2 hv
  have f9 : IntKind.u32.wrap (y1 + y2) = v := by rw [IntKind.wrap_u32]; exact hv
  have C1 := Lib.hid c1
  have C2 := Lib.hid c2
  clear hy1 hy2 hv c1 c2
  go_enter Tryd.func60, Tryd.ntmps60
  go_wp2_with (first
    | (go_at_call 64; (with_reducible refine (C1.out _).mono ?_); rintro r _ ⟨rfl, rfl⟩)
    | (go_at_call 65; (with_reducible refine (C2.out _).mono ?_); rintro r _ ⟨rfl, rfl⟩))
  go_ret
  exact ⟨rfl, rfl⟩
theorem cupper_c (e f g : Int) (e0 : 0 ≤ e) (e1 : e < 4294967296) (f0 : 0 ≤ f) (f1 : f < 4294967296) (g0 : 0 ≤ g) (g1 : g < 4294967296) (w : World) :
    Calls Tryd.prog 61 #[.int .u32 e, .int .u32 f, .int .u32 g] w fun r w' => r = .returned (.int .u32 (uppW e f g)) ∧ w = w' := by
  obtain ⟨v, hv⟩ : ∃ v, uppW e f g = v := ⟨_, rfl⟩
  rw [hv]
  unfold uppW at hv
  have c1 := fun W => cturned_c e 2 13 22 e0 e1 (by omega) (by omega) (by omega) (by omega) (by omega) (by omega) W
  have c2 := fun W => cmajority_c e f g e0 e1 f0 f1 g0 g1 W
  obtain ⟨y1, hy1⟩ : ∃ y, turn3 e 2 13 22 = y := ⟨_, rfl⟩
  obtain ⟨y2, hy2⟩ : ∃ y, majW e f g = y := ⟨_, rfl⟩
  rw [hy1] at c1 hv
  rw [hy2] at c2 hv
  have f9 : IntKind.u32.wrap (y1 + y2) = v := by rw [IntKind.wrap_u32]; exact hv
  have C1 := Lib.hid c1
  have C2 := Lib.hid c2
  clear hy1 hy2 hv c1 c2
  go_enter Tryd.func61, Tryd.ntmps61
  go_wp2_with (first
    | (go_at_call 64; (with_reducible refine (C1.out _).mono ?_); rintro r _ ⟨rfl, rfl⟩)
    | (go_at_call 66; (with_reducible refine (C2.out _).mono ?_); rintro r _ ⟨rfl, rfl⟩))
  go_ret
  exact ⟨rfl, rfl⟩
theorem cstart_c (w : World) : Calls Tryd.prog 35 #[] w fun e w' => e = .returned (.agg (intsA .u32 startL)) ∧ Below w.heap.size w w' := by
  have HL := Lib.hid (show Z8.length = startL.length from rfl)
  have HZ := Lib.hid (show (Tryd.prog.info? 53).map (·.size) = some startL.length from size_state)
  go_enter Tryd.func35, Tryd.ntmps35
  go_wp2_with (first
    | (with_reducible refine at_any ?_; refine at_dst 0 rfl ?_; refine wpList_alloc_ints rfl 53 rfl .u32 Z8 zero_state ?_; intro w2 hk2 hs2 hb2)
    | (with_reducible refine at_any ?_; refine at_store 0 rfl ?_; refine wpList_store_ints rfl 53 (.tmp 0) (.tmp 1) rfl w.heap.size rfl 53 .u32 Z8 startL hk2.out (by kernel_rfl) HL.out HZ.out ?_; intro w9 hk9 hs9 hb9 ho9)
    | (refine bodyPost_cell 0 53 rfl w.heap.size rfl 53 .u32 startL hk9.out _ Tryd.underlying53 rfl HZ.out rfl ?_))
  exact hb2.trans (hb9 _ (Nat.le_refl _))
theorem cconst_c (i : Int) (i0 : -9223372036854775808 ≤ i) (i1 : i ≤ 9223372036854775807) (w : World) (hk : Kst w) :
    Calls Tryd.prog 55 #[.int .i64 i] w fun e w' => e = .returned (.int .u32 (constN i)) ∧ w = w' := by
  unfold constN
  by_cases h : 0 ≤ i ∧ i ≤ 63
  · rw [if_pos h]
    obtain ⟨h0, h1⟩ := h
    have hc := hk.2 i.toNat (by omega)
    obtain ⟨C, hC⟩ : ∃ C, constL.getD i.toNat 0 = C := ⟨_, rfl⟩
    rw [hC] at hc
    rw [hC]
    have f1 : IntKind.u64.wrap i = i := by rw [IntKind.wrap_u64]; omega
    have f2 : i < 64 := by omega
    clear hC hk
    go_enter Tryd.func55, Tryd.ntmps55
    go_wp2
    go_ret
    exact ⟨rfl, rfl⟩
  · rw [if_neg h]
    obtain ⟨u, hu⟩ : ∃ u, IntKind.u64.wrap i = u := ⟨_, rfl⟩
    have f2 : 64 ≤ u := by rw [IntKind.wrap_u64] at hu; omega
    clear h hk
    go_enter Tryd.func55, Tryd.ntmps55
    go_wp2
    go_ret
    exact ⟨rfl, rfl⟩
set_option maxHeartbeats 1000000 in
theorem cround_c (s : List Int) (W K : Int) (hl : s.length = 8) (hs : WIn s) (W0 : 0 ≤ W) (W1 : W < 4294967296) (K0 : 0 ≤ K) (K1 : K < 4294967296) (w : World) :
    Calls Tryd.prog 54 #[.agg (intsA .u32 s), .int .u32 W, .int .u32 K] w fun e w' => e = .returned (.agg (intsA .u32 (roundL s W K))) ∧ Below w.heap.size w w' := by
  have hr0 := hs.at_ 0
  have hr1 := hs.at_ 1
  have hr2 := hs.at_ 2
  have hr3 := hs.at_ 3
  have hr4 := hs.at_ 4
  have hr5 := hs.at_ 5
  have hr6 := hs.at_ 6
  have hr7 := hs.at_ 7
  obtain ⟨a, b, c, d, e, f, p, q, rfl⟩ : ∃ a b c d e f p q, s = [a, b, c, d, e, f, p, q] := ⟨_, _, _, _, _, _, _, _, list8 s hl⟩
  simp only [List.getD_cons_zero, List.getD_cons_succ] at hr0 hr1 hr2 hr3 hr4 hr5 hr6 hr7
  have c1 := fun W => clower_c e f p hr4.1 hr4.2 hr5.1 hr5.2 hr6.1 hr6.2 W
  have c2 := fun W => cupper_c a b c hr0.1 hr0.2 hr1.1 hr1.2 hr2.1 hr2.2 W
  obtain ⟨y1, hy1⟩ : ∃ y, lowW e f p = y := ⟨_, rfl⟩
  obtain ⟨u1, hy2⟩ : ∃ y, uppW a b c = y := ⟨_, rfl⟩
  rw [hy1] at c1
  rw [hy2] at c2
  unfold lowW at hy1
  unfold uppW at hy2
  obtain ⟨t1, ht1⟩ : ∃ t, (q + y1) % 4294967296 = t := ⟨_, rfl⟩
  obtain ⟨t2, ht2⟩ : ∃ t, (t1 + K) % 4294967296 = t := ⟨_, rfl⟩
  obtain ⟨t4, ht4⟩ : ∃ t, (t2 + W) % 4294967296 = t := ⟨_, rfl⟩
  have hres : roundL [a, b, c, d, e, f, p, q] W K = [(t4 + u1) % 4294967296, a, b, c, (d + t4) % 4294967296, e, f, p] := by
    have e1 : (q + turn3 e 6 11 25 + chW e f p + K + W) % 4294967296 = t4 := by omega
    simp only [roundL, List.getD_cons_zero, List.getD_cons_succ]
    rw [e1, hy2]
  rw [hres]
  obtain ⟨v0, hv0⟩ : ∃ t, (t4 + u1) % 4294967296 = t := ⟨_, rfl⟩
  obtain ⟨v4, hv4⟩ : ∃ t, (d + t4) % 4294967296 = t := ⟨_, rfl⟩
  rw [hv0, hv4]
  have f1 : IntKind.u32.wrap (q + y1) = t1 := by rw [IntKind.wrap_u32]; exact ht1
  have f2 : IntKind.u32.wrap (t1 + K) = t2 := by rw [IntKind.wrap_u32]; exact ht2
  have f4 : IntKind.u32.wrap (t2 + W) = t4 := by rw [IntKind.wrap_u32]; exact ht4
  have f6 : IntKind.u32.wrap (t4 + u1) = v0 := by rw [IntKind.wrap_u32]; exact hv0
  have f7 : IntKind.u32.wrap (d + t4) = v4 := by rw [IntKind.wrap_u32]; exact hv4
  have C1 := Lib.hid c1
  have C2 := Lib.hid c2
  clear hy1 hy2 ht1 ht2 ht4 hv0 hv4 hres hs hl c1 c2
  go_enter Tryd.func54, Tryd.ntmps54
  go_wp2_with (first
    | (with_reducible refine at_any ?_; refine at_dst 3 rfl ?_; refine wpList_box_ints rfl 53 (.tmp 0) rfl .u32 _ rfl ?_; intro w1 hk1 hs1 hb1)
    | (with_reducible refine at_any ?_; refine at_dst 6 rfl ?_; refine wpList_alloc_ints rfl 53 rfl .u32 Z8 zero_state ?_; intro w2 hk2 hs2 hb2))
  have HS : St2 w w.heap.size w1.heap.size [a, b, c, d, e, f, p, q] Z8 w2 := by
    have q1 := hs1.out
    exact ⟨hk1.out.below hb2 (by omega), hk2.out, hb1.trans (hb2.mono (by omega)), by omega, by omega⟩
  obtain ⟨g, hg⟩ : ∃ g, w.heap.size = g := ⟨_, rfl⟩
  obtain ⟨r, hr⟩ : ∃ g, w1.heap.size = g := ⟨_, rfl⟩
  have HW := Lib.hid hg
  rw [hg, hr] at HS
  rw [hg, hr]
  clear hk1 hs1 hb1 hk2 hs2 hb2 hg hr
  have HSd := HS.drew
  go_region_held3 (fun w' => w'.cell? ⟨g, 0, none⟩ = some (.int .u32 a) ∧ w'.cell? ⟨g, 1, none⟩ = some (.int .u32 b) ∧ w'.cell? ⟨g, 2, none⟩ = some (.int .u32 c) ∧ w'.cell? ⟨g, 3, none⟩ = some (.int .u32 d) ∧ w'.cell? ⟨g, 4, none⟩ = some (.int .u32 e) ∧ w'.cell? ⟨g, 5, none⟩ = some (.int .u32 f) ∧ w'.cell? ⟨g, 6, none⟩ = some (.int .u32 p) ∧ w'.cell? ⟨g, 7, none⟩ = some (.int .u32 q) ∧ St2 w g r [a, b, c, d, e, f, p, q] Z8 w')
    (first | assumption | exact HSd.cells)
    (fail)
  have HS6 := Lib.hid HSd.snd
  go_wp2_with (first
    | (go_at_call 60; (with_reducible refine (C1.out _).mono ?_); rintro e _ ⟨rfl, rfl⟩)
    | (go_at_call 61; (with_reducible refine (C2.out _).mono ?_); rintro e _ ⟨rfl, rfl⟩)
    | (with_reducible refine at_any ?_; refine at_store 6 rfl ?_; refine wpList_store_ints rfl 53 (.tmp 6) (.tmp 59) rfl r rfl 53 .u32 Z8 [v0, a, b, c, v4, e, f, p] HS6.out (by kernel_rfl) (Z8_len8 _ _ _ _ _ _ _ _) (size_state8 _ _ _ _ _ _ _ _) ?_; intro w9 hk9 hs9 hb9 ho9)
    | (refine bodyPost_cell 6 53 rfl r rfl 53 .u32 [v0, a, b, c, v4, e, f, p] hk9.out _ Tryd.underlying53 rfl (size_state8 _ _ _ _ _ _ _ _) rfl ?_))
  exact HSd.bel.trans (hb9 _ HSd.out)
end Go.Proofs.YtdnjnbeoioicfaaDoor

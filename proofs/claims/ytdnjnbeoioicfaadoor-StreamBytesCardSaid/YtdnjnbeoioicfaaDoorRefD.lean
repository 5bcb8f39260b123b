/-
  What the document's answers for layer 4 return, and that they leave memory as it was.
  Conditions: the arguments lie in their types' ranges.
-/
import Derived.Test.YtdnjnbeoioicfaaDoorRefC
import Derived.Test.YtdnjnbeoioicfaaDoorCompP
import Derived.Test.YtdnjnbeoioicfaaDoorHeldA
namespace Go.Proofs.YtdnjnbeoioicfaaDoor
open Go.ChangeShapes Go.WideShapes Go.ChangeAt Go.RowKit
set_option linter.unusedVariables false

theorem rturned_c (x a b c : Int) (h0 : 0 ≤ x) (h1 : x < 4294967296) (a0 : 0 ≤ a) (a1 : a < 32) (b0 : 0 ≤ b) (b1 : b < 32) (c0 : 0 ≤ c) (c1 : c < 32) (w : World) :
    Calls Tryd.prog 50 #[.int .u32 x, .int .i64 a, .int .i64 b, .int .i64 c] w fun e w' => e = .returned (.int .u32 (turn3 x a b c)) ∧ w = w' := by
  unfold turn3
  go_enter Tryd.func50, Tryd.ntmps50
  go_wp2_with (go_at_call 56; (with_reducible refine (rrotate_c _ _ (by omega) (by omega) (by omega) (by omega) _).mono ?_); rintro e _ ⟨rfl, rfl⟩)
  go_ret
  exact ⟨rfl, rfl⟩
theorem rchoice_c (e f g : Int) (e0 : 0 ≤ e) (e1 : e < 4294967296) (f0 : 0 ≤ f) (f1 : f < 4294967296) (g0 : 0 ≤ g) (g1 : g < 4294967296) (w : World) :
    Calls Tryd.prog 51 #[.int .u32 e, .int .u32 f, .int .u32 g] w fun r w' => r = .returned (.int .u32 (chW e f g)) ∧ w = w' := by
  unfold chW
  go_enter Tryd.func51, Tryd.ntmps51
  go_wp2
  go_ret
  exact ⟨rfl, rfl⟩
theorem rmajority_c (a b c : Int) (a0 : 0 ≤ a) (a1 : a < 4294967296) (b0 : 0 ≤ b) (b1 : b < 4294967296) (c0 : 0 ≤ c) (c1 : c < 4294967296) (w : World) :
    Calls Tryd.prog 52 #[.int .u32 a, .int .u32 b, .int .u32 c] w fun r w' => r = .returned (.int .u32 (majW a b c)) ∧ w = w' := by
  unfold majW
  go_enter Tryd.func52, Tryd.ntmps52
  go_wp2
  go_ret
  exact ⟨rfl, rfl⟩
def Z8 : List Int := List.replicate 8 0
theorem Z8_len : Z8.length = 8 := rfl
theorem zero_state : ∀ W, (zeroValue 53).run Tryd.prog W = .ok (.agg (intsA .u32 Z8)) W := (zero_of_info (n := 8) (by kernel_rfl)).1
theorem size_state : (Tryd.prog.info? 53).map (·.size) = some 8 := by kernel_rfl
theorem size_state8 (a b c d e f p q : Int) : (Tryd.prog.info? 53).map (·.size) = some [a, b, c, d, e, f, p, q].length := size_state
theorem Z8_len8 (a b c d e f p q : Int) : Z8.length = [a, b, c, d, e, f, p, q].length := rfl
/-- The state that came in, and the one that is to go out. -/
def St2 (w : World) (g r : Nat) (s z : List Int) (w' : World) : Prop := BlkI w' g 53 .u32 s ∧ BlkI w' r 53 .u32 z ∧ Below w.heap.size w w' ∧ w.heap.size ≤ r ∧ g ≠ r
theorem St2.drew {w w' : World} {g r : Nat} {s z : List Int} (h : St2 w g r s z w') : St2 w g r s z w'.drew := ⟨h.1, h.2.1, h.2.2.1.drew, h.2.2.2⟩
theorem St2.below {w w' w'' : World} {g r : Nat} {s z : List Int} (h : St2 w g r s z w') (hb : Below w'.heap.size w' w'') : St2 w g r s z w'' := ⟨h.1.below hb h.1.lt, h.2.1.below hb h.2.1.lt, h.2.2.1.trans (hb.mono h.2.2.1.size), h.2.2.2⟩
theorem St2.fst {w w' : World} {g r : Nat} {s z : List Int} (h : St2 w g r s z w') : BlkI w' g 53 .u32 s := h.1
theorem St2.snd {w w' : World} {g r : Nat} {s z : List Int} (h : St2 w g r s z w') : BlkI w' r 53 .u32 z := h.2.1
theorem St2.bel {w w' : World} {g r : Nat} {s z : List Int} (h : St2 w g r s z w') : Below w.heap.size w w' := h.2.2.1
theorem St2.out {w w' : World} {g r : Nat} {s z : List Int} (h : St2 w g r s z w') : w.heap.size ≤ r := h.2.2.2.1
theorem St2.ne {w w' : World} {g r : Nat} {s z : List Int} (h : St2 w g r s z w') : g ≠ r := h.2.2.2.2
theorem St2.cells {w w' : World} {g r : Nat} {a b c d e f p q : Int} {z : List Int} (h : St2 w g r [a, b, c, d, e, f, p, q] z w') :
    w'.cell? ⟨g, 0, none⟩ = some (.int .u32 a) ∧ w'.cell? ⟨g, 1, none⟩ = some (.int .u32 b) ∧ w'.cell? ⟨g, 2, none⟩ = some (.int .u32 c) ∧ w'.cell? ⟨g, 3, none⟩ = some (.int .u32 d) ∧ w'.cell? ⟨g, 4, none⟩ = some (.int .u32 e) ∧ w'.cell? ⟨g, 5, none⟩ = some (.int .u32 f) ∧ w'.cell? ⟨g, 6, none⟩ = some (.int .u32 p) ∧ w'.cell? ⟨g, 7, none⟩ = some (.int .u32 q) ∧ St2 w g r [a, b, c, d, e, f, p, q] z w' :=
  ⟨h.1.cell (j := 0) (by simp), h.1.cell (j := 1) (by simp), h.1.cell (j := 2) (by simp), h.1.cell (j := 3) (by simp), h.1.cell (j := 4) (by simp), h.1.cell (j := 5) (by simp), h.1.cell (j := 6) (by simp), h.1.cell (j := 7) (by simp), h⟩
set_option maxHeartbeats 1000000 in
theorem rround_c (s : List Int) (W K : Int) (hl : s.length = 8) (hs : WIn s) (W0 : 0 ≤ W) (W1 : W < 4294967296) (K0 : 0 ≤ K) (K1 : K < 4294967296) (w : World) :
    Calls Tryd.prog 42 #[.agg (intsA .u32 s), .int .u32 W, .int .u32 K] w fun e w' => e = .returned (.agg (intsA .u32 (roundL s W K))) ∧ Below w.heap.size w w' := by
  have hr0 := hs.at_ 0
  have hr1 := hs.at_ 1
  have hr2 := hs.at_ 2
  have hr3 := hs.at_ 3
  have hr4 := hs.at_ 4
  have hr5 := hs.at_ 5
  have hr6 := hs.at_ 6
  have hr7 := hs.at_ 7
  obtain ⟨a, b, c, d, e, f, p, q, rfl⟩ : ∃ a b c d e f p q, s = [a, b, c, d, e, f, p, q] := ⟨_, _, _, _, _, _, _, _, list8 s hl⟩
  simp only [List.getD_cons_zero, List.getD_cons_succ] at hr0 hr1 hr2 hr3 hr4 hr5 hr6 hr7
  obtain ⟨y1, hy1⟩ : ∃ y, turn3 e 6 11 25 = y := ⟨_, rfl⟩
  obtain ⟨y2, hy2⟩ : ∃ y, chW e f p = y := ⟨_, rfl⟩
  obtain ⟨y3, hy3⟩ : ∃ y, turn3 a 2 13 22 = y := ⟨_, rfl⟩
  obtain ⟨y4, hy4⟩ : ∃ y, majW a b c = y := ⟨_, rfl⟩
  obtain ⟨t1, ht1⟩ : ∃ t, (q + y1) % 4294967296 = t := ⟨_, rfl⟩
  obtain ⟨t2, ht2⟩ : ∃ t, (t1 + y2) % 4294967296 = t := ⟨_, rfl⟩
  obtain ⟨t3, ht3⟩ : ∃ t, (t2 + K) % 4294967296 = t := ⟨_, rfl⟩
  obtain ⟨t4, ht4⟩ : ∃ t, (t3 + W) % 4294967296 = t := ⟨_, rfl⟩
  obtain ⟨u1, hu1⟩ : ∃ t, (y3 + y4) % 4294967296 = t := ⟨_, rfl⟩
  have hres : roundL [a, b, c, d, e, f, p, q] W K = [(t4 + u1) % 4294967296, a, b, c, (d + t4) % 4294967296, e, f, p] := by
    have e1 : (q + turn3 e 6 11 25 + chW e f p + K + W) % 4294967296 = t4 := by rw [hy1, hy2]; omega
    have e2 : (turn3 a 2 13 22 + majW a b c) % 4294967296 = u1 := by rw [hy3, hy4]; exact hu1
    simp only [roundL, List.getD_cons_zero, List.getD_cons_succ]
    rw [e1, e2]
  rw [hres]
  obtain ⟨v0, hv0⟩ : ∃ t, (t4 + u1) % 4294967296 = t := ⟨_, rfl⟩
  obtain ⟨v4, hv4⟩ : ∃ t, (d + t4) % 4294967296 = t := ⟨_, rfl⟩
  rw [hv0, hv4]
  have f1 : IntKind.u32.wrap (q + y1) = t1 := by rw [IntKind.wrap_u32]; exact ht1
  have f2 : IntKind.u32.wrap (t1 + y2) = t2 := by rw [IntKind.wrap_u32]; exact ht2
  have f3 : IntKind.u32.wrap (t2 + K) = t3 := by rw [IntKind.wrap_u32]; exact ht3
  have f4 : IntKind.u32.wrap (t3 + W) = t4 := by rw [IntKind.wrap_u32]; exact ht4
  have f5 : IntKind.u32.wrap (y3 + y4) = u1 := by rw [IntKind.wrap_u32]; exact hu1
  have H1 := Lib.hid hy1
  have H2 := Lib.hid hy2
  have H3 := Lib.hid hy3
  have H4 := Lib.hid hy4
  clear hy1 hy2 hy3 hy4 ht1 ht2 ht3 ht4 hu1 hres hs hl
  go_enter Tryd.func42, Tryd.ntmps42
  go_wp2_with (first
    | (with_reducible refine at_any ?_; refine at_dst 3 rfl ?_; refine wpList_box_ints rfl 53 (.tmp 0) rfl .u32 _ rfl ?_; intro w1 hk1 hs1 hb1)
    | (with_reducible refine at_any ?_; refine at_dst 6 rfl ?_; refine wpList_alloc_ints rfl 53 rfl .u32 Z8 zero_state ?_; intro w2 hk2 hs2 hb2))
  have HS : St2 w w.heap.size w1.heap.size [a, b, c, d, e, f, p, q] Z8 w2 := by
    have q1 := hs1.out
    exact ⟨hk1.out.below hb2 (by omega), hk2.out, hb1.trans (hb2.mono (by omega)), by omega, by omega⟩
  obtain ⟨g, hg⟩ : ∃ g, w.heap.size = g := ⟨_, rfl⟩
  obtain ⟨r, hr⟩ : ∃ g, w1.heap.size = g := ⟨_, rfl⟩
  have HW := Lib.hid hg
  rw [hg, hr] at HS
  rw [hg, hr]
  clear hk1 hs1 hb1 hk2 hs2 hb2 hg hr
  obtain ⟨c0, c1, c2, c3, c4, c5, c6, c7, _⟩ := HS.cells
  have HSd := HS.drew
  have HSdd := HSd.drew
  go_region_held3 (fun w' => w'.cell? ⟨g, 0, none⟩ = some (.int .u32 a) ∧ w'.cell? ⟨g, 1, none⟩ = some (.int .u32 b) ∧ w'.cell? ⟨g, 2, none⟩ = some (.int .u32 c) ∧ w'.cell? ⟨g, 3, none⟩ = some (.int .u32 d) ∧ w'.cell? ⟨g, 4, none⟩ = some (.int .u32 e) ∧ w'.cell? ⟨g, 5, none⟩ = some (.int .u32 f) ∧ w'.cell? ⟨g, 6, none⟩ = some (.int .u32 p) ∧ w'.cell? ⟨g, 7, none⟩ = some (.int .u32 q) ∧ St2 w g r [a, b, c, d, e, f, p, q] Z8 w')
    (first | assumption | exact HSd.cells)
    (first
      | (go_at_call 50; (with_reducible refine (rturned_c e 6 11 25 hr4.1 hr4.2 (by omega) (by omega) (by omega) (by omega) (by omega) (by omega) _).mono ?_); rw [H1.out]; rintro r w5 ⟨rfl, rfl⟩)
      | (go_at_call 51; (with_reducible refine (rchoice_c e f p hr4.1 hr4.2 hr5.1 hr5.2 hr6.1 hr6.2 _).mono ?_); rw [H2.out]; rintro r w5 ⟨rfl, rfl⟩))
  go_wp2
  go_region_held3 (fun w' => w'.cell? ⟨g, 0, none⟩ = some (.int .u32 a) ∧ w'.cell? ⟨g, 1, none⟩ = some (.int .u32 b) ∧ w'.cell? ⟨g, 2, none⟩ = some (.int .u32 c) ∧ w'.cell? ⟨g, 3, none⟩ = some (.int .u32 d) ∧ w'.cell? ⟨g, 4, none⟩ = some (.int .u32 e) ∧ w'.cell? ⟨g, 5, none⟩ = some (.int .u32 f) ∧ w'.cell? ⟨g, 6, none⟩ = some (.int .u32 p) ∧ w'.cell? ⟨g, 7, none⟩ = some (.int .u32 q) ∧ St2 w g r [a, b, c, d, e, f, p, q] Z8 w')
    (first | assumption | exact HSdd.cells)
    (first
      | (go_at_call 50; (with_reducible refine (rturned_c a 2 13 22 hr0.1 hr0.2 (by omega) (by omega) (by omega) (by omega) (by omega) (by omega) _).mono ?_); rw [H3.out]; rintro r w5 ⟨rfl, rfl⟩)
      | (go_at_call 52; (with_reducible refine (rmajority_c a b c hr0.1 hr0.2 hr1.1 hr1.2 hr2.1 hr2.2 _).mono ?_); rw [H4.out]; rintro r w5 ⟨rfl, rfl⟩))
  have HS6 := Lib.hid HSdd.snd
  have f6 : IntKind.u32.wrap (t4 + u1) = v0 := by rw [IntKind.wrap_u32]; exact hv0
  have f7 : IntKind.u32.wrap (d + t4) = v4 := by rw [IntKind.wrap_u32]; exact hv4
  clear hv0 hv4
  go_wp2_with (first
    | (with_reducible refine at_any ?_; refine at_store 6 rfl ?_; refine wpList_store_ints rfl 53 (.tmp 6) (.tmp 57) rfl r rfl 53 .u32 Z8 [v0, a, b, c, v4, e, f, p] HS6.out (by kernel_rfl) (Z8_len8 _ _ _ _ _ _ _ _) (size_state8 _ _ _ _ _ _ _ _) ?_; intro w9 hk9 hs9 hb9 ho9)
    | (refine bodyPost_cell 6 53 rfl r rfl 53 .u32 [v0, a, b, c, v4, e, f, p] hk9.out _ Tryd.underlying53 rfl (size_state8 _ _ _ _ _ _ _ _) rfl ?_))
  exact HSdd.bel.trans (hb9 _ HSdd.out)
end Go.Proofs.YtdnjnbeoioicfaaDoor

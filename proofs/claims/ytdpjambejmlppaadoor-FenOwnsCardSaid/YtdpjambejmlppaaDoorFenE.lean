/-
  What the library's slices.Clone, Equal and Concat return of numbers of 64 bits.
  Conditions: those that each theorem names.
-/
import Derived.Test.YtdpjambejmlppaaDoorFenL
import Derived.Test.YtdpjambejmlppaaDoorShlB
import Derived.Lib.SliceRun
set_option maxRecDepth 100000
set_option linter.unusedVariables false
set_option linter.unusedSimpArgs false
namespace Go.Proofs.YtdpjambejmlppaaDoor
open Go.ChangeShapes Go.WideShapes Go.ChangeAt Go.RowKit
theorem ret_bool64 {p q : Bool} (h : p = q) : Ending.returned (.bool p) = .returned (.bool q) := by rw [h]
/-- A row of the call's own is handed back. -/
def RetOwn (w : World) (l : List Int) (e : Ending) (w' : World) : Prop := ∃ v, e = .returned v ∧ OwnI w' w.heap.size 32 .u64 v l ∧ Below w.heap.size w w'
theorem clone64_c (l : List Int) (A : Option Addr) (n c : Nat) (hn : n ≤ 100000000) (w : World) (hrd : Rd .u64 w w.heap.size A n l) : Calls Tryd.prog 27 #[.slice A n c] w (RetOwn w l) := by
  have q22 : ∀ (w : World) (a : Option Addr) (n c n' c' : Nat), (binOp .eql 22 (.slice a n c) (.slice none n' c')).run Tryd.prog w = .ok (.bool a.isNone) w := fun w a n c n' c' => Lib.run_eql_slice_nil w _ _ a n c n' c' Tryd.underlying22
  have hlen := hrd.len
  cases A with
  | none =>
    have hn0 : n = 0 := by
      rcases Nat.eq_zero_or_pos n with h | h
      · exact h
      · obtain ⟨g, off, e, _⟩ := hrd.at_ h
        cases e
    obtain rfl : l = [] := List.length_eq_zero_iff.1 (by omega)
    clear hlen hrd hn
    go_enter Tryd.func27, Tryd.ntmps27
    go_wp2
    go_ret
    exact ⟨_, rfl, OwnI.none _ _ _ _, Below.refl _ _⟩
  | some a =>
    have HR := Lib.hid hrd
    have HN := Lib.hid hn
    clear hlen hrd hn
    go_enter Tryd.func27, Tryd.ntmps27
    go_wp2_with (first
      | (at_builtin; refine wpList_own_copy8o w rfl (.tmp 5) (.tmp 6) rfl rfl (some a) n c l rfl HR.out HN.out ?_; intro v w2 hb2 ho2; have HB2 := Lib.hid hb2; have HO2 := Lib.hid ho2; clear hb2 ho2))
    go_ret
    exact ⟨_, rfl, HO2.out, HB2.out⟩
set_option maxHeartbeats 2000000 in
theorem equal64_c (xs ys : List Int) (A B : Option Addr) (n m c d : Nat) (hn : n ≤ maxLen) (hm : m ≤ maxLen) (w : World) (hra : Rd .u64 w w.heap.size A n xs) (hrb : Rd .u64 w w.heap.size B m ys) : Calls Tryd.prog 37 #[.slice A n c, .slice B m d] w fun e w' => e = .returned (.bool (decide (xs = ys))) ∧ Below w.heap.size w w' := by
  have HA := Lib.hid hra
  have HB := Lib.hid hrb
  have hla := hra.len
  have hlb := hrb.len
  have hnm : (n : Int) ≤ 9223372036854775807 := by unfold maxLen at hn; omega
  clear hra hrb hn hm
  by_cases hl : n = m
  · subst hl
    have t0 : ((n : Int) != (n : Int)) = false := by simp
    go_enter Tryd.func37, Tryd.ntmps37
    go_wp2
    go_loopw [13] (fun i wr => ∃ k : Nat, k ≤ n ∧ i = .int .i64 (k : Int) ∧ (∀ j, j < k → xs.getD j 0 = ys.getD j 0) ∧ Below w.heap.size w wr) (fun i _ => n - (intOf i).toNat)
    case atStart => exact ⟨0, by omega, rfl, fun j h => absurd h (by omega), Below.refl _ _⟩
    case round =>
      obtain ⟨k, hk, rfl, heq, hbl⟩ := hrel
      have HEQ := Lib.hid heq
      have HBL := Lib.hid hbl
      by_cases hlt : k < n
      · obtain ⟨b1, o1, rfl, _, hc1⟩ := (HA.out.below hbl).at_ (by omega)
        obtain ⟨b2, o2, rfl, _, hc2⟩ := (HB.out.below hbl).at_ (by omega)
        have hk1 := hc1 k hlt
        have hk2 := hc2 k hlt
        obtain ⟨x, hx⟩ : ∃ x, xs.getD k 0 = x := ⟨_, rfl⟩
        obtain ⟨y, hy⟩ : ∃ y, ys.getD k 0 = y := ⟨_, rfl⟩
        rw [hx] at hk1
        rw [hy] at hk2
        have i0 : (0 : Int) ≤ (k : Int) := by omega
        have i1 : (k : Int) < (n : Int) := by omega
        clear heq hbl hc1 hc2
        by_cases hxy : x = y
        · subst hxy
          have HK : ∀ j, j < k + 1 → xs.getD j 0 = ys.getD j 0 := fun j hj => by
            by_cases h : j = k
            · rw [h, hx, hy]
            · exact HEQ.out j (by omega)
          have HKK := Lib.hid HK
          have t1 : (x != x) = false := by simp
          clear hx hy HEQ HK
          go_wp2
          go_quiet (fail)
          go_wp2
          go_roundw
          case rel => exact ⟨k + 1, by omega, by go_num, HKK.out, HBL.out.trans (below_drewN (Below.refl _ _) _)⟩
          case measure => simp [intOf]; omega
        · have hne : ¬ xs = ys := fun h => hxy (by rw [← hx, ← hy, h])
          have t1 : (x != y) = true := by simp [bne, hxy]
          have HNE := Lib.hid hne
          clear hx hy HEQ hne
          go_wp2
          go_quiet (fail)
          go_wp2
          go_ret
          exact ⟨ret_bool64 (decide_eq_false HNE.out).symm, below_drewN HBL.out _⟩
      · have hxy : xs = ys := ext_getD (by omega) fun j hj => heq j (by omega)
        obtain rfl : k = n := by omega
        have HXY := Lib.hid hxy
        clear heq hbl hxy
        go_wp2
        go_ret
        exact ⟨ret_bool64 (decide_eq_true HXY.out).symm, HBL.out⟩
  · have t0 : ((n : Int) != (m : Int)) = true := by simp [bne]; omega
    have hne : ¬ xs = ys := fun h => hl (by rw [← hla, ← hlb, h])
    have HNE := Lib.hid hne
    clear hne
    go_enter Tryd.func37, Tryd.ntmps37
    go_wp2
    go_ret
    exact ⟨ret_bool64 (decide_eq_false HNE.out).symm, Below.refl _ _⟩
theorem zeros_u64 (m : Nat) : (Builtin.zeroCells (Value.int .u64 0).cells m).size = m := by
  rw [show (Value.int .u64 0).cells = #[Value.int .u64 0] from rfl]
  simp [Builtin.zeroCells]
/-- slices.Grow of no slice at all: room of the call's own. -/
theorem grow64_c (n : Nat) (h0 : 0 < n) (hn : n ≤ 2000000) (w : World) : Calls Tryd.prog 42 #[.slice none 0 0, .int .i64 (n : Int)] w (RetOwn w []) := by
  obtain ⟨i0, hi, hz0, hz1, hz2⟩ := info_parts info_u64d
  have h := Any8.slices_Grow_grow laysG4 i0 (.int .u64 0) hi hz0 (by omega) none 0 0 n [] w (Nat.le_refl _) (by omega) (by rw [hz2]; omega) (by omega) (by simp) (fun _ => rfl) (fun a h => by cases h)
  refine h.mono ?_
  rintro e w' ⟨rfl, rfl⟩
  refine ⟨_, rfl, ?_, ((Below.refl _ _).drew).alloc (Nat.le_refl _) _⟩
  have e1 := grownCap_ge w (0 + n) 0 32
  have e2 := grownCap_le_maxLen w (0 + n) 0 32 (by unfold maxLen; omega)
  refine ⟨rfl, .inr ⟨w.heap.size, _, _, rfl, Nat.le_refl _, heap_alloc_new w.drew _, Nat.zero_le _, e2, ?_, rfl⟩⟩
  have e3 := grownCap_ge w n 0 (renG.t 25)
  simp only [Array.size_append, zeros_u64, Nat.zero_add, Nat.sub_zero, Nat.mul_one, List.size_toArray, List.length_nil]
  omega
set_option maxHeartbeats 4000000 in
/-- slices.Concat of a slice and one number. -/
theorem concat64_c (l : List Int) (x : Int) (A : Option Addr) (n c : Nat) (hn : n ≤ 1048576) (g b : Nat) (w : World) (hc0 : w.cell? ⟨g, 0, none⟩ = some (.slice A n c)) (hc1 : w.cell? ⟨g, 1, none⟩ = some (.slice (some ⟨b, 0, none⟩) 1 1)) (hrd : Rd .u64 w w.heap.size A n l) (hrx : Rd .u64 w w.heap.size (some ⟨b, 0, none⟩) 1 [x]) (hlt : g < w.heap.size) :
    Calls Tryd.prog 34 #[.slice (some ⟨g, 0, none⟩) 2 2] w (RetOwn w (l ++ [x])) := by
  obtain ⟨i0, hi, hz0, hz1, hzb⟩ := info_parts info_u64d
  have hlen := hrd.len
  have HR := Lib.hid hrd
  have HX := Lib.hid hrx
  have hg := fun W => grow64_c (n + 1) (by omega) (by omega) W
  rw [show ((n + 1 : Nat) : Int) = (n : Int) + 1 by omega] at hg
  have HG := Lib.hid hg
  clear hg
  have HC0 : Hid (∀ W, Below w.heap.size w W → W.cell? ⟨g, 0, none⟩ = some (.slice A n c)) := Lib.hid (fun W h => by rw [World.cell?_of_block (h.block g hlt)]; exact hc0)
  have HC1 : Hid (∀ W, Below w.heap.size w W → W.cell? ⟨g, 1, none⟩ = some (.slice (some ⟨b, 0, none⟩) 1 1)) := Lib.hid (fun W h => by rw [World.cell?_of_block (h.block g hlt)]; exact hc1)
  have hnI : (n : Int) ≤ 1048576 := by omega
  have HLN := Lib.hid hlen
  have HNN := Lib.hid hn
  clear hrd hrx hlt hn hlen
  go_enter Tryd.func34, Tryd.ntmps34
  go_wp2
  go_loopw [3, 11] (fun ss ii wr => ((ss = .int .i64 0 ∧ ii = .int .i64 0) ∨ (ss = .int .i64 (n : Int) ∧ ii = .int .i64 1) ∨ (ss = .int .i64 ((n : Int) + 1) ∧ ii = .int .i64 2)) ∧ w = wr) (fun _ ii _ => 2 - (intOf ii).toNat)
  case atStart => exact ⟨.inl ⟨rfl, rfl⟩, by first | rfl | trivial⟩
  case round =>
    obtain ⟨h, rfl⟩ := hrel
    rcases h with ⟨rfl, rfl⟩ | ⟨rfl, rfl⟩ | ⟨rfl, rfl⟩
    · go_wp2
      go_roundw
      case rel => exact ⟨.inr (.inl ⟨by go_num, rfl⟩), by first | rfl | trivial⟩
      case measure => simp [intOf]
    · go_wp2
      go_roundw
      case rel => exact ⟨.inr (.inr ⟨by go_num, rfl⟩), by first | rfl | trivial⟩
      case measure => simp [intOf]
    · clear hc0 hc1
      go_wp2_with (first
        | (go_at_call 42; (with_reducible refine (HG.out _).mono ?_); rintro e w1 ⟨v1, rfl, ho1, hb1⟩; have HO1 := Lib.hid ho1; have HB1 := Lib.hid hb1; clear ho1 hb1))
      go_loopw [6, 27] (fun vv ii wr => ∃ zs : List Int, OwnI wr w.heap.size 32 .u64 vv zs ∧ Below w.heap.size w wr ∧ ((ii = .int .i64 0 ∧ zs = []) ∨ (ii = .int .i64 1 ∧ zs = l) ∨ (ii = .int .i64 2 ∧ zs = l ++ [x]))) (fun _ ii _ => 2 - (intOf ii).toNat)
      case atStart => exact ⟨[], HO1.out, HB1.out, .inl ⟨rfl, rfl⟩⟩
      case round =>
        obtain ⟨zs, ho2, hb2, h⟩ := hrel
        have HO2 := Lib.hid ho2
        have HB2 := Lib.hid hb2
        have c0 := HC0.out _ hb2
        have c1 := HC1.out _ hb2
        clear ho2 hb2
        rcases h with ⟨rfl, rfl⟩ | ⟨rfl, rfl⟩ | ⟨rfl, rfl⟩
        · go_wp2_with (first
            | (at_builtin; refine wpList_append_ints _ rfl (.tmp 31) (.tmp 32) 22 rfl w.heap.size 32 i0 _ 8 .u64 Tryd.underlying22 hi hz0 hz1 hzb rfl _ [] rfl HO2.out w.heap.size A n c l rfl (HR.out.below HB2.out) (by have := HNN.out; simp [maxLen]; omega) (by have := HNN.out; simp; omega) HB2.out.size ?_; intro v3 w3 ho3 hg3 _; have HB3 := Lib.hid (HO2.out.below_ HB2.out HB2.out.size hg3); have HO3 := Lib.hid ho3; clear ho3 hg3))
          go_roundw
          case rel => exact ⟨l, HO3.out, HB3.out, .inr (.inl ⟨rfl, rfl⟩)⟩
          case measure => simp [intOf]
        · go_wp2_with (first
            | (at_builtin; refine wpList_append_ints _ rfl (.tmp 31) (.tmp 32) 22 rfl w.heap.size 32 i0 _ 8 .u64 Tryd.underlying22 hi hz0 hz1 hzb rfl _ zs rfl HO2.out w.heap.size (some ⟨b, 0, none⟩) 1 1 [x] rfl (HX.out.below HB2.out) (by have := HNN.out; have := HLN.out; simp [maxLen]; omega) (by have := HNN.out; have := HLN.out; omega) HB2.out.size ?_; intro v3 w3 ho3 hg3 _; have HB3 := Lib.hid (HO2.out.below_ HB2.out HB2.out.size hg3); have HO3 := Lib.hid ho3; clear ho3 hg3))
          go_roundw
          case rel => exact ⟨zs ++ [x], HO3.out, HB3.out, .inr (.inr ⟨rfl, rfl⟩)⟩
          case measure => simp [intOf]
        · clear c0 c1
          go_wp2
          go_ret
          exact ⟨_, rfl, HO2.out, HB2.out⟩
end Go.Proofs.YtdpjambejmlppaaDoor

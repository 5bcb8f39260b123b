/-
  What the document's answers for layer 2 return, and that they leave memory as it was.
  Conditions: the arguments lie in their types' ranges; a message's length is small.
-/
import Derived.Test.YtdnjnbeoioicfaaDoorRows
import Derived.Test.YtdnjnbeoioicfaaDoorPlainA
import Derived.Test.YtdnjnbeoioicfaaDoorWordA
import Derived.Test.YtdnjnbeoioicfaaDoorRefA
import Derived.Test.YtdnjnbeoioicfaaDoorMemA
import Derived.Test.YtdnjnbeoioicfaaDoorArrA
import Derived.KernelRfl
namespace Go.Proofs.YtdnjnbeoioicfaaDoor
open Go.ChangeShapes Go.WideShapes Go.ChangeAt Go.RowKit
set_option linter.unusedVariables false

def put8L (x : Int) : List Int := [x / 256 / 256 / 256 / 256 / 256 / 256 / 256, x / 256 / 256 / 256 / 256 / 256 / 256 % 256, x / 256 / 256 / 256 / 256 / 256 % 256, x / 256 / 256 / 256 / 256 % 256, x / 256 / 256 / 256 % 256, x / 256 / 256 % 256, x / 256 % 256, x % 256]
theorem info_u8' : (Tryd.prog.info? 5).map (fun i => (i.zero, i.size, i.bytes)) = some (some (.int .u8 0), 1, 1) := by kernel_rfl

theorem put8_list (x : Int) : put8 x = ((put8L x).map (Value.int .u8)).toArray := rfl
theorem arr_at (l : List Int) (j : Nat) (hj : j < l.length) : ((l.map (Value.int .u8)).toArray)[j]? = some (.int .u8 (l.getD j 0)) := by
  simp [hj]
theorem take_snoc (l : List Int) (j : Nat) (hj : j < l.length) : l.take j ++ [l.getD j 0] = l.take (j + 1) := by
  rw [List.take_succ_eq_append_getElem hj]; simp [hj]
def RetTail (w : World) (zs : List Int) (e : Ending) (w' : World) : Prop := ∃ A c, e = .returned (.tuple #[.slice A zs.length c, .bool true]) ∧ OwnI w' w.heap.size 5 .u8 (.slice A zs.length c) zs ∧ Below w.heap.size w w'

theorem zeros_snoc (l : List Int) (m : Nat) : l ++ 128 :: List.replicate m 0 ++ [0] = l ++ 128 :: List.replicate (m + 1) 0 := by
  rw [List.append_assoc, List.cons_append, ← List.replicate_succ']

set_option maxHeartbeats 1000000 in
theorem rtail_yes (A : Option Addr) (c r z : Nat) (rest : List Int) (n : Int) (w : World) (hr : Rd .u8 w w.heap.size A r rest) (n0 : 0 ≤ n) (n1 : n < 2305843009213693952) (hn : (r : Int) = n % 64)
    (hz : r + z = 55 ∨ r + z = 119) (hz2 : z < 64) :
    Calls Tryd.prog 32 #[.slice A r c, .int .u64 n] w (RetTail w (rest ++ 128 :: List.replicate z 0 ++ put8L (8 * n))) := by
  obtain ⟨ps, hps⟩ : ∃ ps, put8L (8 * n) = ps := ⟨_, rfl⟩
  obtain ⟨p0, p1, p2, p3, p4, p5, p6, p7, rfl⟩ : ∃ p0 p1 p2 p3 p4 p5 p6 p7, ps = [p0, p1, p2, p3, p4, p5, p6, p7] := ⟨_, _, _, _, _, _, _, _, hps.symm⟩
  have hput := fun W => rput64_c (8 * n) (by omega) (by omega) W
  rw [put8_list, hps] at hput
  rw [hps]
  have HP := Lib.hid hput
  clear hput hps
  have hps8 : [p0, p1, p2, p3, p4, p5, p6, p7].length = 8 := rfl
  have hrd := fun j (hj : j < 8) => arr_at [p0, p1, p2, p3, p4, p5, p6, p7] j hj
  obtain ⟨ps, hps⟩ : ∃ ps, [p0, p1, p2, p3, p4, p5, p6, p7] = ps := ⟨_, rfl⟩
  rw [hps] at hps8 ⊢
  have HPS := Lib.hid hps
  have HP8 := Lib.hid hps8
  clear hps hps8 hrd
  obtain ⟨i0, hi, hz0, hz1, hzb⟩ := info_parts info_u8'
  have r1 : r < 64 := by omega
  have t1 : ((r : Int) != n % 64) = false := by rw [hn]; simp
  have hl := hr.len
  have HL := Lib.hid hl
  have HZ := Lib.hid hz
  clear hn hl hz
  go_enter Tryd.func32, Tryd.ntmps32
  go_wp2_with (first
    | (at_builtin; refine wpList_append_ints _ rfl (.tmp 19) (.tmp 20) 29 rfl w.heap.size 5 i0 _ 1 .u8 Tryd.underlying29 hi hz0 hz1 hzb rfl _ [] rfl (own_empty w 5 .u8 (Nat.le_refl _)) w.heap.size A r c rest rfl (hr.alloc (Nat.le_refl _) _) (by simp [maxLen]; omega) (by simp; omega) (by simp) ?_; intro v1 w1 hown1 hg1 hat1; have hb1 : Below w.heap.size w w1 := (own_empty w 5 .u8 (Nat.le_refl _)).below_ ((Below.refl _ _).alloc (Nat.le_refl _) _) (by simp) hg1; simp only [List.nil_append] at hown1; clear hg1 hat1)
    | (at_builtin; refine wpList_append_ints _ rfl (.tmp 21) (.tmp 22) 29 rfl w.heap.size 5 i0 _ 1 .u8 Tryd.underlying29 hi hz0 hz1 hzb rfl _ rest rfl (hown1.alloc _) (w1.heap.size + 1) (some ⟨w1.heap.size, 0, none⟩) 1 1 [128] rfl (rd_one w1 5 .u8 128) (by rw [HL.out]; simp [maxLen]; omega) (by rw [HL.out]; omega) (by have := hb1.size; simp; omega) ?_; intro v2 w2 hown2 hg2 hat2; have hb2 : Below w.heap.size w w2 := (hown1.alloc _).below_ (hb1.alloc hb1.size _) (by have := hb1.size; simp; omega) hg2; clear hg2 hat2 hown1))
  go_loopw [6] (fun v wr => ∃ m : Nat, m ≤ z ∧ OwnI wr w.heap.size 5 .u8 v (rest ++ 128 :: List.replicate m 0) ∧ Below w.heap.size w wr) (fun v _ => r + 1 + z - lenV v)
  case atStart => exact ⟨0, by omega, hown2, hb2⟩
  case round =>
    clear hown2 hb2 hb1
    obtain ⟨m, hm, hown, hb⟩ := hrel
    obtain ⟨A1, c1, rfl, hl1, hl2⟩ := hown.form
    have e : (rest ++ 128 :: List.replicate m 0).length = r + 1 + m := by simp [HL.out]; omega
    rw [e] at hown hl1 ⊢
    have HE := Lib.hid e
    clear e
    have HO := Lib.hid hown
    clear hown
    by_cases hlt : m < z
    · have tb : (((r : Int) + 1 + (m : Int)) % 64 != 56) = true := by
        rw [bne_iff_ne]; rcases HZ.out with h | h <;> omega
      go_wp2_with (first
        | (at_builtin; refine wpList_append_ints _ rfl (.tmp 28) (.tmp 29) 29 rfl w.heap.size 5 i0 _ 1 .u8 Tryd.underlying29 hi hz0 hz1 hzb rfl _ (rest ++ 128 :: List.replicate m 0) rfl (HO.out.alloc _) (wr.heap.size + 1) (some ⟨wr.heap.size, 0, none⟩) 1 1 [0] rfl (rd_one wr 5 .u8 0) (by rw [HE.out]; simp [maxLen]; omega) (by rw [HE.out]; omega) (by have := hb.size; simp; omega) ?_; intro v3 w3 hown3 hg3 hat3; have hb3 : Below w.heap.size w w3 := (HO.out.alloc _).below_ (hb.alloc hb.size _) (by have := hb.size; simp; omega) hg3; rw [zeros_snoc] at hown3; clear hg3 hat3))
      go_roundw
      case rel => exact ⟨m + 1, by omega, hown3, hb3⟩
      case measure =>
        obtain ⟨A3, c3, rfl, _, _⟩ := hown3.form
        simp [lenV, HL.out]; omega
    · obtain rfl : m = z := by omega
      have tb : (((r : Int) + 1 + (m : Int)) % 64 != 56) = false := by
        rw [bne_eq_false_iff_eq]; rcases HZ.out with h | h <;> omega
      go_wp2_with (go_at_call 21; (with_reducible refine (HP.out _).mono ?_); rintro e w4 ⟨rfl, hb4, _⟩)
      have BK : Blk (w4.alloc (Obj.cells #[.int .u8 p0, .int .u8 p1, .int .u8 p2, .int .u8 p3, .int .u8 p4, .int .u8 p5, .int .u8 p6, .int .u8 p7] 42)) w4.heap.size 42 ((ps.map (Value.int .u8)).toArray) := by rw [← HPS.out]; exact Blk.new _ _ _
      have HO4 : OwnI (w4.alloc (Obj.cells #[.int .u8 p0, .int .u8 p1, .int .u8 p2, .int .u8 p3, .int .u8 p4, .int .u8 p5, .int .u8 p6, .int .u8 p7] 42)) w.heap.size 5 .u8 (.slice A1 (r + 1 + m) c1) (rest ++ 128 :: List.replicate m 0) := (HO.out.below hb4).alloc _
      have hb5 : Below w.heap.size w (w4.alloc (Obj.cells #[.int .u8 p0, .int .u8 p1, .int .u8 p2, .int .u8 p3, .int .u8 p4, .int .u8 p5, .int .u8 p6, .int .u8 p7] 42)) := by
        have h1 := hb.size
        have h2 := hb4.size
        exact (hb.trans (hb4.mono h1)).alloc (by omega) _
      have hgg : wr.heap.size ≤ w4.heap.size := hb4.size
      have HB4 := Lib.hid hb4
      clear hb4 hm hlt
      obtain ⟨g, hg⟩ : ∃ g, g = w4.heap.size := ⟨_, rfl⟩
      rw [← hg] at BK ⊢
      clear hg
      obtain ⟨base, hbase⟩ : ∃ base, base = w.heap.size := ⟨_, rfl⟩
      go_loopw [6, 8] (fun v i wq => ∃ j : Nat, j ≤ 8 ∧ i = .int .i64 j ∧ OwnI wq w.heap.size 5 .u8 v (rest ++ 128 :: List.replicate m 0 ++ ps.take j) ∧ Blk wq g 42 ((ps.map (Value.int .u8)).toArray) ∧ Below w.heap.size w wq) (fun _ i _ => 8 - (intOf i).toNat)
      case atStart => exact ⟨0, by omega, rfl, by simpa using HO4, BK, hb5⟩
      case round =>
        clear HO4 BK hb5
        obtain ⟨j, hj, rfl, hown, hblk, hbq⟩ := hrel
        have hlen : (rest ++ 128 :: List.replicate m 0 ++ ps.take j).length = r + 1 + m + j := by
          rw [List.length_append, HE.out, List.length_take, HP8.out]; omega
        have HLN := Lib.hid hlen
        clear hlen
        by_cases hlt : j < 8
        · obtain ⟨q, hq⟩ : ∃ q, ps.getD j 0 = q := ⟨_, rfl⟩
          have hc : wr.cell? ⟨g, j, none⟩ = some (.int .u8 q) := by rw [hblk.cell, ← hq]; exact arr_at ps j (by rw [HP8.out]; exact hlt)
          have hsn := take_snoc ps j (by rw [HP8.out]; exact hlt)
          rw [hq] at hsn
          have HSN := Lib.hid hsn
          have HBK := Lib.hid hblk
          have HOW := Lib.hid hown
          clear hq hsn hblk hown hbase
          go_wp2_with (first
            | (at_builtin; refine wpList_append_ints _ rfl (.tmp 38) (.tmp 42) 29 rfl w.heap.size 5 i0 _ 1 .u8 Tryd.underlying29 hi hz0 hz1 hzb rfl _ (rest ++ 128 :: List.replicate m 0 ++ ps.take j) rfl (HOW.out.alloc _) (wr.heap.size + 1) (some ⟨wr.heap.size, 0, none⟩) 1 1 [q] rfl (rd_one wr 5 .u8 q) (by rw [HLN.out]; simp [maxLen]; omega) (by rw [HLN.out]; omega) (by have := hbq.size; simp; omega) ?_; intro v6 w6 hown6 hg6 hat6; have hb6 : Below w.heap.size w w6 := (HOW.out.alloc _).below_ (hbq.alloc hbq.size _) (by have := hbq.size; simp; omega) hg6; have hk6 : Blk w6 g 42 ((ps.map (Value.int .u8)).toArray) := (HBK.out.alloc _).grown (HOW.out.alloc _) (by decide) hg6; rw [List.append_assoc, HSN.out] at hown6; clear hg6 hat6))
          go_roundw
          case rel => exact ⟨j + 1, by omega, by go_num, hown6, hk6, hb6⟩
          case measure => simp [intOf]; omega
        · obtain rfl : j = 8 := by omega
          rw [List.take_of_length_le (by rw [HP8.out]; exact Nat.le_refl _)] at hown
          obtain ⟨A7, c7, rfl, hl7, _⟩ := hown.form
          go_wp2
          go_ret2
          exact ⟨A7, c7, rfl, hown, hbq⟩

/-- How many noughts a rest of r bytes gets. -/
def zer (r : Nat) : Nat := if r ≤ 55 then 55 - r else 119 - r
def tailL (rest : List Int) (n : Int) : List Int := rest ++ 128 :: List.replicate (zer rest.length) 0 ++ put8L (8 * n)
def padL (b : List Int) : List Int := b.take (b.length - b.length % 64) ++ tailL (b.drop (b.length - b.length % 64)) b.length
theorem tailL_len (rest : List Int) (n : Int) : (tailL rest n).length = rest.length + 1 + zer rest.length + 8 := by
  simp [tailL, put8L]; omega
theorem zer_le (r : Nat) : zer r ≤ 119 := by unfold zer; split <;> omega

theorem rtail_c (A : Option Addr) (c r : Nat) (rest : List Int) (n : Int) (w : World) (hr : Rd .u8 w w.heap.size A r rest) (n0 : 0 ≤ n) (n1 : n < 2305843009213693952) (hn : (r : Int) = n % 64) :
    Calls Tryd.prog 32 #[.slice A r c, .int .u64 n] w (RetTail w (tailL rest n)) := by
  have h := rtail_yes A c r (zer r) rest n w hr n0 n1 hn (by unfold zer; split <;> omega) (by unfold zer; split <;> omega)
  have e : tailL rest n = rest ++ 128 :: List.replicate (zer r) 0 ++ put8L (8 * n) := by unfold tailL; rw [hr.len]
  rw [e]
  exact h

theorem rtail_no (A : Option Addr) (c r : Nat) (n : Int) (w : World) (hm : r ≤ 1000000) (n0 : 0 ≤ n) (n1 : n < 18446744073709551616) (hn : 2305843009213693952 ≤ n ∨ (r : Int) ≠ n % 64) :
    Calls Tryd.prog 32 #[.slice A r c, .int .u64 n] w fun e w' => e = .returned (.tuple #[.slice none 0 0, .bool false]) ∧ w = w' := by
  by_cases h : 2305843009213693952 ≤ n
  · have t : decide (2305843009213693952 ≤ n) = true := by simpa using h
    go_enter Tryd.func32, Tryd.ntmps32
    go_wp2
    go_ret2
    exact ⟨rfl, rfl⟩
  · have h3 : (r : Int) ≠ n % 64 := by rcases hn with h1 | h1; exact absurd h1 h; exact h1
    have t1 : ((r : Int) != n % 64) = true := by rw [bne_iff_ne]; exact h3
    clear hn h3
    go_enter Tryd.func32, Tryd.ntmps32
    go_wp2
    go_ret2
    exact ⟨rfl, rfl⟩


def RetB (w : World) (zs : List Int) (e : Ending) (w' : World) : Prop := ∃ A c, e = .returned (.slice A zs.length c) ∧ OwnI w' w.heap.size 5 .u8 (.slice A zs.length c) zs ∧ Below w.heap.size w w'

theorem rpad_c (A : Option Addr) (c L : Nat) (b : List Int) (w : World) (hr : Rd .u8 w w.heap.size A L b) (hc : L ≤ c) (hL : L ≤ 1000000) :
    Calls Tryd.prog 24 #[.slice A L c] w (RetB w (padL b)) := by
  obtain ⟨i0, hi, hz0, hz1, hzb⟩ := info_parts info_u8'
  obtain ⟨N, hN⟩ : ∃ N : Nat, N = L - L % 64 := ⟨_, rfl⟩
  have hN1 : (L : Int) - (L : Int) % 64 = (N : Int) := by omega
  have hN2 : N ≤ L := by omega
  have hN3 : L < N + 64 := by omega
  have hrest := hr.from_ hN2 hc
  have hhead := hr.upto hN2
  have hp : padL b = b.take N ++ tailL (b.drop N) L := by unfold padL; rw [hr.len, ← hN]
  rw [hp]
  have hl := hr.len
  have e1 : (b.take N).length = N := by rw [List.length_take, hl]; omega
  have e2 : (tailL (b.drop N) L).length ≤ L - N + 128 := by
    rw [tailL_len, List.length_drop, hl]
    have := zer_le (L - N)
    omega
  have e3 : ((L - N : Nat) : Int) = (L : Int) % 64 := by omega
  have HE1 := Lib.hid e1
  have HH := Lib.hid hhead
  have E3 := Lib.hid e3
  obtain ⟨tl, htl⟩ : ∃ tl, tailL (b.drop N) L = tl := ⟨_, rfl⟩
  have HTL := Lib.hid htl
  rw [htl] at e2 ⊢
  clear hN hp hl e1 e3 htl hhead hr
  rw [Nat.mul_one] at hrest
  by_cases hcN : c = N
  all_goals
    first | rw [if_pos hcN] at hrest | rw [if_neg hcN] at hrest
    have HR := Lib.hid hrest
    clear hrest
    go_enter Tryd.func24, Tryd.ntmps24
    go_wp2_with (first
      | (go_at_call 32; (with_reducible refine (rtail_c _ _ _ _ _ _ HR.out (by omega) (by omega) E3.out).mono ?_); rw [HTL.out]; rintro e w1 ⟨A1, c1, rfl, ho1, hb1⟩; have HO1 := Lib.hid ho1; clear ho1)
      | (at_builtin; refine wpList_append_ints _ rfl (.tmp 22) (.tmp 25) 29 rfl w.heap.size 5 i0 _ 1 .u8 Tryd.underlying29 hi hz0 hz1 hzb rfl _ [] rfl (own_empty w1 5 .u8 hb1.size) w.heap.size A N _ (b.take N) rfl ((HH.out.below hb1).alloc hb1.size _) (by simp [maxLen]; omega) (by simp; omega) (by have := hb1.size; simp; omega) ?_; intro v2 w2 hown2 hg2 hat2; have hb2 : Below w.heap.size w w2 := (own_empty w1 5 .u8 hb1.size).below_ (hb1.alloc hb1.size _) (by have := hb1.size; simp; omega) hg2; have hb12 : Below w1.heap.size w1 w2 := (own_empty w1 5 .u8 (Nat.le_refl _)).below_ ((Below.refl _ _).alloc (Nat.le_refl _) _) (by simp) hg2; simp only [List.nil_append] at hown2; clear hg2 hat2)
      | (at_builtin; refine wpList_append_ints _ rfl (.tmp 26) (.tmp 27) 29 rfl w.heap.size 5 i0 _ 1 .u8 Tryd.underlying29 hi hz0 hz1 hzb rfl _ (b.take N) rfl hown2 w1.heap.size A1 tl.length c1 tl rfl ((HO1.out.rd rfl).below hb12) (by rw [HE1.out]; simp [maxLen]; omega) (by rw [HE1.out]; omega) hb2.size ?_; intro v3 w3 hown3 hg3 hat3; have hb3 : Below w.heap.size w w3 := hown2.below_ hb2 hb2.size hg3; clear hg3 hat3))
    obtain ⟨A7, c7, rfl, _, _⟩ := hown3.form
    go_ret
    exact ⟨A7, c7, rfl, hown3, hb3⟩
theorem info_a64 : (Tryd.prog.info? 64).map (fun i => (i.zero, i.size, i.bytes)) = some (some (.agg (List.replicate 64 (Value.int .u8 0)).toArray), 64, 64) := by kernel_rfl

/-- The array while it is filled. -/
def fillL (x : List Int) (i : Nat) : List Int := x.take i ++ List.replicate (64 - i) 0
theorem fillL_len (x : List Int) (hx : x.length = 64) (i : Nat) (hi : i ≤ 64) : (fillL x i).length = 64 := by
  simp [fillL, hx]; omega
theorem fillL_full (x : List Int) (hx : x.length = 64) : fillL x 64 = x := by
  simp [fillL, List.take_of_length_le (show x.length ≤ 64 by omega)]
theorem fillL_set (x : List Int) (hx : x.length = 64) (i : Nat) (hi : i < 64) : (fillL x i).set i (x.getD i 0) = fillL x (i + 1) := by
  apply List.ext_getElem?
  intro j
  rw [List.getElem?_set]
  unfold fillL
  simp only [List.length_append, List.length_take, List.length_replicate, hx]
  by_cases h1 : i = j
  · subst h1
    rw [if_pos rfl, if_pos (by omega), List.getElem?_append_left (by simp [hx]; omega), List.getElem?_take, if_pos (by omega)]
    simp [hx, hi]
  · rw [if_neg h1]
    by_cases h2 : j < i
    · rw [List.getElem?_append_left (by simp [hx]; omega), List.getElem?_append_left (by simp [hx]; omega), List.getElem?_take, List.getElem?_take, if_pos h2, if_pos (by omega)]
    · rw [List.getElem?_append_right (by simp [hx]; omega), List.getElem?_append_right (by simp [hx]; omega)]
      simp only [List.length_take, hx, List.getElem?_replicate]
      by_cases h3 : j < 64
      · rw [if_pos (by omega), if_pos (by omega)]
      · rw [if_neg (by omega), if_neg (by omega)]

def RetCut (w : World) (zs : List Int) (q L : Nat) (bs : List (List Int)) (e : Ending) (w' : World) : Prop :=
  ∃ A1 c1 A2 c2, e = .returned (.tuple #[.slice A1 bs.length c1, .slice A2 (L - 64 * q) c2]) ∧ OwnA w' w.heap.size 64 64 .u8 (.slice A1 bs.length c1) bs ∧ Rd .u8 w w.heap.size A2 (L - 64 * q) (zs.drop (64 * q)) ∧ L - 64 * q ≤ c2 ∧ Below w.heap.size w w'

def cutN (zs : List Int) (q : Nat) : List (List Int) := (List.range q).map fun i => (zs.drop (64 * i)).take 64

set_option maxHeartbeats 1000000 in
set_option maxRecDepth 100000 in
theorem rcut_c (A : Option Addr) (c L : Nat) (zs : List Int) (w : World) (hr : Rd .u8 w w.heap.size A L zs) (hc : L ≤ c) (hL : L ≤ 1000000) :
    Calls Tryd.prog 23 #[.slice A L c] w (RetCut w zs (L / 64) L (cutN zs (L / 64))) := by
  obtain ⟨i0, hi, hz0, hz1, hzb⟩ := info_parts info_a64
  obtain ⟨q, hq⟩ : ∃ q, L / 64 = q := ⟨_, rfl⟩
  rw [hq]
  have hq1 : 64 * q ≤ L := by omega
  have hq2 : L < 64 * q + 64 := by omega
  have hlen := Lib.hid hr.len
  clear hq
  go_enter Tryd.func23, Tryd.ntmps23
  go_wp2
  go_loopw [4, 5] (fun v a wr => ∃ j : Nat, j ≤ q ∧ a = .int .i64 (64 * j : Nat) ∧ OwnA wr w.heap.size 64 64 .u8 v (cutN zs j) ∧ Below w.heap.size w wr) (fun _ a _ => L + 64 - (intOf a).toNat)
  case atStart => exact ⟨0, by omega, rfl, ownA_nil _ _ _ _ _, Below.refl _ _⟩
  case round =>
    obtain ⟨wo, rfl⟩ : ∃ wo, wo = wr := ⟨_, rfl⟩
    obtain ⟨j, hj, rfl, hown, hb⟩ := hrel
    by_cases hlt : j < q
    · obtain ⟨b0, off, rfl, hb0, hcell⟩ := hr.at_ (by omega)
      have HC := Lib.hid hcell
      have HOW := Lib.hid hown
      clear hown hr hcell
      have t1 : 64 * j + 64 ≤ L := by omega
      obtain ⟨x, hx⟩ : ∃ x, (zs.drop (64 * j)).take 64 = x := ⟨_, rfl⟩
      have hx64 : x.length = 64 := by rw [← hx, List.length_take, List.length_drop, hlen.out]; omega
      have hxat : ∀ i, i < 64 → zs.getD (64 * j + i) 0 = x.getD i 0 := by
        intro i hi
        rw [← hx]
        simp [hi]
      have HX := Lib.hid hx
      have HX64 := Lib.hid hx64
      have HXA := Lib.hid hxat
      clear hx hx64 hxat
      have hwr := hb.size
      go_wp2
      obtain ⟨W1, hW1⟩ : ∃ W1, wo.alloc (Obj.cells ((fillL x 0).map (Value.int .u8)).toArray 64) = W1 := ⟨_, rfl⟩
      have hBK : Blk W1 wo.heap.size 64 ((fillL x 0).map (Value.int .u8)).toArray := by rw [← hW1]; exact Blk.new _ _ _
      have hB1 : Below wo.heap.size wo W1 := by rw [← hW1]; exact (Below.refl _ _).alloc (Nat.le_refl _) _
      have hlit : wo.alloc (Obj.cells ((fillL x 0).map (Value.int .u8)).toArray 64) = wo.alloc (Obj.cells #[.int .u8 0, .int .u8 0, .int .u8 0, .int .u8 0, .int .u8 0, .int .u8 0, .int .u8 0, .int .u8 0, .int .u8 0, .int .u8 0, .int .u8 0, .int .u8 0, .int .u8 0, .int .u8 0, .int .u8 0, .int .u8 0, .int .u8 0, .int .u8 0, .int .u8 0, .int .u8 0, .int .u8 0, .int .u8 0, .int .u8 0, .int .u8 0, .int .u8 0, .int .u8 0, .int .u8 0, .int .u8 0, .int .u8 0, .int .u8 0, .int .u8 0, .int .u8 0, .int .u8 0, .int .u8 0, .int .u8 0, .int .u8 0, .int .u8 0, .int .u8 0, .int .u8 0, .int .u8 0, .int .u8 0, .int .u8 0, .int .u8 0, .int .u8 0, .int .u8 0, .int .u8 0, .int .u8 0, .int .u8 0, .int .u8 0, .int .u8 0, .int .u8 0, .int .u8 0, .int .u8 0, .int .u8 0, .int .u8 0, .int .u8 0, .int .u8 0, .int .u8 0, .int .u8 0, .int .u8 0, .int .u8 0, .int .u8 0, .int .u8 0, .int .u8 0] 64) := by
        simp [fillL]
      rw [← hlit, hW1]
      clear hlit hW1
      go_loopw [7] (fun a wq => ∃ i : Nat, i ≤ 64 ∧ a = .int .i64 i ∧ Blk wq wo.heap.size 64 ((fillL x i).map (Value.int .u8)).toArray ∧ Below wo.heap.size wo wq) (fun a _ => 64 - (intOf a).toNat)
      case atStart => exact ⟨0, by omega, rfl, hBK, hB1⟩
      case round =>
        clear hBK hB1
        obtain ⟨i, hi64, rfl, hblk, hbq⟩ := hrel
        by_cases hil : i < 64
        · obtain ⟨y, hy⟩ : ∃ y, x.getD i 0 = y := ⟨_, rfl⟩
          have hc1 : wr.cell? ⟨b0, off + (64 * j + i), none⟩ = some (.int .u8 y) := by
            rw [hbq.cell (p := ⟨b0, off + (64 * j + i), none⟩) (by show b0 < _; omega), hb.cell (p := ⟨b0, off + (64 * j + i), none⟩) hb0, HC.out _ (by omega), HXA.out i hil, hy]
          have hc2 : ∃ u, wr.cell? ⟨wo.heap.size, i, none⟩ = some u := by
            rw [hblk.cell]
            exact ⟨_, Array.getElem?_eq_getElem (by simp [fillL_len x HX64.out i hi64]; exact hil)⟩
          obtain ⟨u, hc2⟩ := hc2
          have hf2 := hblk.frozen i
          have hset := fillL_set x HX64.out i hil
          rw [hy] at hset
          have hblk2 : Blk (wr.setCell ⟨wo.heap.size, i, none⟩ (.int .u8 y)) wo.heap.size 64 ((fillL x (i + 1)).map (Value.int .u8)).toArray := by
            have h1 := hblk.set_ i (.int .u8 y)
            rw [← hset, List.map_set]
            simpa using h1
          have hbq2 : Below wo.heap.size wo (wr.setCell ⟨wo.heap.size, i, none⟩ (.int .u8 y)) := hbq.setCell (p := ⟨wo.heap.size, i, none⟩) (Nat.le_refl _) _
          have HK2 := Lib.hid hblk2
          have HQ2 := Lib.hid hbq2
          clear hblk hbq hset hblk2 hbq2 hy
          go_wp2
          go_roundw
          case rel => exact ⟨i + 1, by omega, by go_num, HK2.out, HQ2.out⟩
          case measure => simp [intOf]; omega
        · obtain rfl : i = 64 := by omega
          rw [fillL_full x HX64.out] at hblk
          have hrng := hblk.range
          have hsz : (Tryd.prog.info? 64).map (·.size) = some (x.map (Value.int .u8)).length := by rw [hi]; simp [hz1, HX64.out]
          have HB := Lib.hid hblk
          have HQ := Lib.hid hbq
          have HR := Lib.hid hrng
          have HS := Lib.hid hsz
          clear hblk hbq hrng hsz
          have hxsz : (x.map (Value.int .u8)).toArray.size = 64 := by simp [HX64.out]
          have hnews : ∀ (W : World) j u, (x.map (Value.int .u8))[j]? = some u → (W.alloc (.cells (x.map (Value.int .u8)).toArray 64)).cell? ((⟨W.heap.size, 0, none⟩ : Addr).add j) = some u := by
            intro W j u hu
            rw [add_flat, Nat.zero_add, (Blk.new W 64 (x.map (Value.int .u8)).toArray).cell]
            simpa using hu
          have hnl : (x.map (Value.int .u8)).length = 1 * 64 := by simp [HX64.out]
          have hcl : (cutN zs j).length = j := by simp [cutN]
          have HN := Lib.hid hnews
          have HNL := Lib.hid hnl
          have HCL := Lib.hid hcl
          have HXS := Lib.hid hxsz
          have HO1 := Lib.hid (ints_one .u8 x)
          clear hnews hnl hcl hxsz
          obtain ⟨xs, hxs⟩ : ∃ xs, x.map (Value.int .u8) = xs := ⟨_, rfl⟩
          rw [hxs] at HN HNL HXS HO1 HR HS
          have HXX := Lib.hid hxs
          clear hxs
          go_wp2_with (first
            | (with_reducible refine wpList_load_mid rfl 64 (.tmp 6) rfl wo.heap.size 0 rfl xs _ HR.out Tryd.underlying64 rfl HS.out ?_)
            | (with_reducible refine wpList_build_one rfl 47 64 (.tmp 26) rfl i0 _ Tryd.underlying47 hi hz0 64 hz1 (by decide) (by decide) xs.toArray rfl HXS.out ?_)
            | (at_builtin; refine wpList_append_own_at _ rfl (.tmp 25) (.tmp 27) 47 rfl w.heap.size 64 i0 _ 64 64 Tryd.underlying47 hi hz0 hz1 hzb rfl (by decide) u4 _ _ rfl ((HOW.out.below HQ.out).alloc _).1 ⟨wr.heap.size, 0, none⟩ 1 1 xs rfl HNL.out (HN.out wr) HO1.out (by rw [HCL.out]; simp [maxLen]; omega) (by rw [HCL.out]; omega) (by have := HQ.out.size; simp; omega) ?_; intro v2 w2 hown2 hg2 _ _; have hbz : Below w.heap.size w w2 := ((HOW.out.below HQ.out).alloc _).below_ ((hb.trans (HQ.out.mono hwr)).alloc (by have := HQ.out.size; omega) _) (by have := HQ.out.size; simp; omega) hg2; clear hg2))
          rw [← HXX.out] at hown2
          have hown3 := ((HOW.out.below HQ.out).alloc (.cells xs.toArray 64)).more HX64.out hown2
          rw [show cutN zs j ++ [x] = cutN zs (j + 1) by unfold cutN; rw [List.range_succ, List.map_append, ← HX.out]; rfl] at hown3
          go_roundw
          case rel => exact ⟨j + 1, by omega, by go_num, hown3, hbz⟩
          case measure => simp [intOf]; omega
    · obtain rfl : j = q := by omega
      obtain ⟨A1, c1, rfl, _, _⟩ := hown.form
      have HOW := Lib.hid hown
      have HR := Lib.hid hr
      clear hown hr
      have hfr := HR.out.from_ hq1 hc
      rw [Nat.mul_one] at hfr
      by_cases hcq : c = 64 * j
      all_goals
        first | rw [if_pos hcq] at hfr | rw [if_neg hcq] at hfr
        have HF := Lib.hid hfr
        clear hfr
        go_wp2
        go_region
        go_wp2
        go_ret2
        exact ⟨A1, c1, _, _, rfl, HOW.out, HF.out, by omega, hb.drew⟩


end Go.Proofs.YtdnjnbeoioicfaaDoor

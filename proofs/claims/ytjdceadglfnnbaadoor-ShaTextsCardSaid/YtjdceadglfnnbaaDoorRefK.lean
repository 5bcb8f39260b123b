/-
  What the document's answers for layer 5 return (Text, Parse), and that they leave memory as it was.
  Conditions: the arguments lie in their types' ranges.
-/
import Derived.Test.YtjdceadglfnnbaaDoorRefI
import Derived.Test.YtjdceadglfnnbaaDoorTextP
set_option linter.unusedSimpArgs false
namespace Go.Proofs.YtjdceadglfnnbaaDoor
open Go.ChangeShapes Go.WideShapes Go.ChangeAt Go.RowKit
set_option linter.unusedVariables false
theorem hex_all : ∀ i : Fin 16, (((⟨#[48, 49, 50, 51, 52, 53, 54, 55, 56, 57, 97, 98, 99, 100, 101, 102]⟩ : ByteArray)[i.val]'(by have := i.isLt; exact this)).toNat : Int) = digN i.val := by decide +kernel
theorem hex_at (i : Nat) (hi : i < 16) (h : i < (⟨#[48, 49, 50, 51, 52, 53, 54, 55, 56, 57, 97, 98, 99, 100, 101, 102]⟩ : ByteArray).size) : (((⟨#[48, 49, 50, 51, 52, 53, 54, 55, 56, 57, 97, 98, 99, 100, 101, 102]⟩ : ByteArray)[i]'h).toNat : Int) = digN i := hex_all ⟨i, hi⟩
set_option maxHeartbeats 1000000 in
theorem rvalue_c (c : Int) (c0 : 0 ≤ c) (c1 : c < 256) (w : World) :
    Calls Tryd.prog 39 #[.int .u8 c] w fun e w' => e = .returned (.int .i64 (valN c)) ∧ w = w' := by
  go_enter Tryd.func39, Tryd.ntmps39
  go_wp2
  go_loop [3] (fun v => ∃ i : Nat, i ≤ 16 ∧ v = .int .i64 i ∧ Hid (∀ j : Nat, j < i → digN j ≠ c)) (fun v => 16 - (intOf v).toNat)
  case atStart => exact ⟨0, by omega, rfl, Lib.hid (fun j hj => by omega)⟩
  case round =>
    obtain ⟨i, hi, rfl, HN⟩ := hrel
    by_cases hlt : i < 16
    · have hx := hex_at i hlt hlt
      have hd := valN_dig i (by omega) (by omega)
      by_cases hc : digN i = c
      · have t : ((((⟨#[48, 49, 50, 51, 52, 53, 54, 55, 56, 57, 97, 98, 99, 100, 101, 102]⟩ : ByteArray)[i]'hlt).toNat : Int) == c) = true := by rw [beq_iff_eq, hx]; exact hc
        have HV := Lib.hid (show (i : Int) = valN c by rw [← hc, hd])
        clear hx hd hc
        go_wp2
        go_ret
        exact ⟨ret_int HV.out, rfl⟩
      · have t : ((((⟨#[48, 49, 50, 51, 52, 53, 54, 55, 56, 57, 97, 98, 99, 100, 101, 102]⟩ : ByteArray)[i]'hlt).toNat : Int) == c) = false := by rw [beq_eq_false_iff_ne, hx]; exact hc
        have HC := Lib.hid hc
        clear hx hd hc
        go_wp2
        go_round
        case rel => exact ⟨i + 1, by omega, by go_num, Lib.hid (fun j hj => by
          rcases Nat.lt_or_ge j i with h | h
          · exact HN.out j h
          · obtain rfl : j = i := by omega
            exact HC.out)⟩
        case measure => simp [intOf]; omega
    · obtain rfl : i = 16 := by omega
      have HV := Lib.hid (valN_none c HN.out)
      rw [show ((16 : Nat) : Int) = 16 from rfl]
      go_wp2
      go_ret
      exact ⟨ret_int HV.out.symm, rfl⟩
theorem hex_cut (a : Nat) (ha : a < 16) : (⟨#[48, 49, 50, 51, 52, 53, 54, 55, 56, 57, 97, 98, 99, 100, 101, 102]⟩ : ByteArray).extract a (a + 1) = strB [digN a] := by
  have : ∀ a : Fin 16, (⟨#[48, 49, 50, 51, 52, 53, 54, 55, 56, 57, 97, 98, 99, 100, 101, 102]⟩ : ByteArray).extract a.val (a.val + 1) = strB [digN a.val] := by decide +kernel
  exact this ⟨a, ha⟩
theorem run_hex (a : Nat) (ha : a < 16) (w : World) : (Instr.sliceAt 9 (.string ⟨#[48, 49, 50, 51, 52, 53, 54, 55, 56, 57, 97, 98, 99, 100, 101, 102]⟩) (some (.int .u8 (a : Int))) (some (.int .u8 ((a : Int) + 1))) none).run Tryd.prog w = .ok (.string (strB [digN a])) w := by
  rw [← hex_cut a ha]
  have e1 : ((a : Int) + 1).toNat = a + 1 := by omega
  have e2 : (⟨#[48, 49, 50, 51, 52, 53, 54, 55, 56, 57, 97, 98, 99, 100, 101, 102]⟩ : ByteArray).size = 16 := rfl
  have e3 : (0 : Int) ≤ (a : Int) + 1 := by omega
  have e4 : (a : Int) + 1 ≤ 16 := by omega
  have e5 : (a : Int) ≤ (a : Int) + 1 := by omega
  simp [Instr.sliceAt, Instr.slice, run_underlying Tryd.underlying9, Instr.sliceBounds, Instr.sliceBound, asIntOf, e1, e2, e3, e4, e5, go_sem]
theorem strB_size (zs : List Int) : (strB zs).size = zs.length := by
  have := congrArg List.length (strB_list zs)
  simpa using this
theorem run_cat (x y : List Int) (h : x.length + y.length ≤ 1000000) (w : World) : (Op.stringOp .add (strB x) (strB y)).run Tryd.prog w = .ok (.string (strB (x ++ y))) w := by
  rw [strB_append]
  exact run_string_add_sum w _ _ (by rw [strB_size, strB_size]; omega)
theorem textL_next (h : List Int) (i : Nat) (hi : i < h.length) : textL (h.take (i + 1)) = textL (h.take i) ++ [digN (h.getD i 0 / 16)] ++ [digN (h.getD i 0 % 16)] := by
  rw [List.take_succ_eq_append_getElem hi, textL_append, List.append_assoc]
  simp [textL, hi]
set_option maxHeartbeats 1000000 in
theorem rtext_c (h : List Int) (hl : h.length = 32) (hh : ∀ z ∈ h, 0 ≤ z ∧ z < 256) (w : World) :
    Calls Tryd.prog 25 #[.agg (intsA .u8 h)] w fun e w' => e = .returned (.string (strB (textL h))) ∧ Below w.heap.size w w' := by
  go_enter Tryd.func25, Tryd.ntmps25
  go_wp2_with (with_reducible refine at_any ?_; refine at_dst 1 rfl ?_; refine wpList_box_ints rfl 26 (.tmp 0) rfl .u8 h rfl ?_; intro w1 hk1 hs1 hb1)
  have HK := hk1.out
  obtain ⟨g, hg⟩ : ∃ g, w.heap.size = g := ⟨_, rfl⟩
  have HW := Lib.hid hg
  rw [hg] at HK hb1 ⊢
  clear hk1 hs1 hg
  go_loopw [3, 4] (fun s v wr => ∃ i : Nat, i ≤ 32 ∧ v = .int .i64 i ∧ s = .string (strB (textL (h.take i))) ∧ BlkI wr g 26 .u8 h ∧ Below g w wr) (fun _ v _ => 32 - (intOf v).toNat)
  case atStart => exact ⟨0, by omega, rfl, rfl, HK, hb1⟩
  case round =>
    clear HK hb1
    obtain ⟨i, hi, rfl, rfl, hk, hb⟩ := hrel
    by_cases hlt : i < 32
    · have c0 := hk.cell (j := i) (by omega)
      have hz : 0 ≤ h.getD i 0 ∧ h.getD i 0 < 256 := by
        have h1 : i < h.length := by omega
        simp [h1]; exact hh _ (List.getElem_mem h1)
      have hnx := textL_next h i (by omega)
      obtain ⟨z, hze⟩ : ∃ z, h.getD i 0 = z := ⟨_, rfl⟩
      rw [hze] at c0 hz hnx
      obtain ⟨a, ha⟩ : ∃ a : Nat, z / 16 = (a : Int) := ⟨(z / 16).toNat, by omega⟩
      obtain ⟨b, hbb⟩ : ∃ b : Nat, z % 16 = (b : Int) := ⟨(z % 16).toNat, by omega⟩
      have a1 : a < 16 := by omega
      have b1 : b < 16 := by omega
      rw [ha, hbb] at hnx
      have x1 := hex_cut a a1
      have x2 := hex_cut b b1
      obtain ⟨Tx, hT⟩ : ∃ T, textL (h.take i) = T := ⟨_, rfl⟩
      rw [hT] at hnx ⊢
      have HNX := Lib.hid hnx
      have H1 := Lib.hid hk
      have H2 := Lib.hid hb
      have y1 := fun W => run_hex a a1 W
      have y2 := fun W => run_hex b b1 W
      have u1 : IntKind.u8.wrap ((a : Int) + 1) = (a : Int) + 1 := by rw [IntKind.wrap_u8]; omega
      have u2 : IntKind.u8.wrap ((b : Int) + 1) = (b : Int) + 1 := by rw [IntKind.wrap_u8]; omega
      have hTl : Tx.length ≤ 100 := by rw [← hT, textL_len, List.length_take]; omega
      have p1 := fun W => run_cat Tx [digN a] (by simp; omega) W
      have p2 := fun W => run_cat (Tx ++ [digN a]) [digN b] (by simp; omega) W
      rw [← hnx] at p2
      clear hnx hT hze hk hb x1 x2
      go_wp2
      go_quiet (fail)
      go_wp2
      go_quiet (fail)
      go_wp2
      go_roundw
      case rel => exact ⟨i + 1, by omega, by go_num, rfl, H1.out, by first | exact below_drewN H2.out _ | exact below_drewN (below_drewN H2.out _) _⟩
      case measure => simp [intOf]; omega
    · obtain rfl : i = 32 := by omega
      rw [show ((32 : Nat) : Int) = 32 from rfl]
      rw [List.take_of_length_le (by omega)]
      clear hk
      go_wp2
      go_ret
      exact ⟨rfl, by rw [HW.out]; exact hb⟩
end Go.Proofs.YtjdceadglfnnbaaDoor

/-
  What the landed list's calls return (Total, Owner, Positive, Without), and that memory is left as it was.
  Conditions: the arguments lie in their types' ranges; a list has at most 1,000,000 numbers.
-/
import Derived.Test.YtilccjjagdedaaaDoorScnM
import Derived.Test.YtilccjjagdedaaaDoorFenE
import Derived.Test.YtilccjjagdedaaaDoorSafA
set_option maxRecDepth 100000
set_option linter.unusedVariables false
set_option linter.unusedSimpArgs false
set_option linter.unusedSectionVars false
namespace Go.Proofs.YtilccjjagdedaaaDoor
open Go.ChangeShapes Go.WideShapes Go.ChangeAt Go.RowKit
section
variable (l : List Int) (hz : ∀ z ∈ l, 0 ≤ z ∧ z < 18446744073709551616) (A : Option Addr) (n c : Nat) (hn : n ≤ 1000000)
include hz hn
theorem q12tot_c (w : World) (hrd : Rd .u64 w w.heap.size A n l) : Calls Tryd.prog 8 #[.slice A n c] w fun e w' => e = .returned (.tuple #[.int .u64 (sumV l), .int .i64 (totE l)]) ∧ w = w' := by
  have HR := Lib.hid hrd
  have hnm : n ≤ maxLen := by simp only [maxLen]; omega
  have hto := fun W h => q9total_c l hz A n c hnm W h
  by_cases hs : sumL l < 9223372036854775808
  · have e := tot_ok hs
    rw [(sumV_ok hs).2] at hto
    rw [e.1]
    obtain ⟨x, hx⟩ : ∃ x, sumV l = x := ⟨_, rfl⟩
    rw [hx] at hto ⊢
    have HTO := Lib.hid hto
    clear hrd hz hto hs e hx hn hnm
    go_enter Tryd.func8, Tryd.ntmps8
    go_wp2_with (go_at_call 12; (with_reducible refine (HTO.out _ HR.out).mono ?_); rintro e _ ⟨rfl, rfl⟩)
    go_ret2
    exact ⟨rfl, rfl⟩
  · have e := tot_no hs
    rw [(sumV_no hs).1, (sumV_no hs).2] at hto
    rw [e.1, e.2]
    have HTO := Lib.hid hto
    clear hrd hz hto hs e hn hnm
    go_enter Tryd.func8, Tryd.ntmps8
    go_wp2_with (go_at_call 12; (with_reducible refine (HTO.out _ HR.out).mono ?_); rintro e _ ⟨rfl, rfl⟩)
    go_ret2
    exact ⟨rfl, rfl⟩
theorem q12total_c (w : World) (hrd : Rd .u64 w w.heap.size A n l) : Calls Tryd.prog 8 #[.slice A n c] w fun e w' => e = .returned (.tuple #[.int .u64 (sumV l), .int .i64 (totE l)]) ∧ Below w.heap.size w w' :=
  (q12tot_c l hz A n c hn w hrd).mono fun e w' h => by obtain ⟨h1, rfl⟩ := h; exact ⟨h1, Below.refl _ _⟩
set_option maxHeartbeats 2000000 in
theorem q12owner_c (t : Int) (t0 : 0 ≤ t) (t1 : t < 18446744073709551616) (w : World) (hrd : Rd .u64 w w.heap.size A n l) : Calls Tryd.prog 6 #[.int .u64 t, .slice A n c] w fun e w' => e = .returned (.tuple #[.int .i64 (scoV l t), .int .i64 (scoE l t)]) ∧ Below w.heap.size w w' := by
  have HR := Lib.hid hrd
  have hlen := hrd.len
  have hz0 : ∀ z ∈ l, 0 ≤ z := fun z h => (hz z h).1
  have hto := fun W h => q12tot_c l hz A n c hn W h
  by_cases hs : sumL l < 9223372036854775808
  · rw [(tot_ok hs).1, (tot_ok hs).2] at hto
    rw [(sco_ok t hs).1, (sco_ok t hs).2]
    by_cases ht : t < sumL l
    · obtain ⟨o, ho, e1, e2, e3, e4⟩ := own_at hz0 t0 ht
      rw [e1, e2]
      have HF : Hid (∀ p, p ≤ o → 0 ≤ preL l p ∧ preL l p ≤ t) := Lib.hid (fun p h => ⟨preL_nn hz0 p, Int.le_trans (preL_mono hz0 h) e3⟩)
      have HX : Hid (∀ p, p ≤ o → preL l (p + 1) = preL l p + l.getD p 0) := Lib.hid (fun p h => preL_next (by omega))
      have HZ : Hid (∀ p, p ≤ o → 0 ≤ l.getD p 0 ∧ l.getD p 0 < 18446744073709551616) := Lib.hid (fun p h => hz _ (getD_in (l := l) (k := p) (by omega)))
      have HE4 := Lib.hid e4
      have hon : (o : Int) < (n : Int) := by omega
      have hn6 : (n : Int) ≤ 1000000 := by omega
      obtain ⟨x, hx⟩ : ∃ x, sumL l = x := ⟨_, rfl⟩
      rw [hx] at hto ht
      have HTO := Lib.hid hto
      clear hrd hz hz0 hto hs hx hn e1 e2 e3 e4 ho hlen
      go_enter Tryd.func6, Tryd.ntmps6
      go_wp2_with (go_at_call 8; (with_reducible refine (HTO.out _ HR.out).mono ?_); rintro e _ ⟨rfl, rfl⟩)
      go_loopw [8, 9] (fun pp ll wr => ∃ p : Nat, p ≤ o ∧ pp = .int .i64 (p : Int) ∧ ll = .int .u64 (t - preL l p) ∧ w = wr) (fun pp _ _ => o - (intOf pp).toNat)
      case atStart => exact ⟨0, Nat.zero_le _, rfl, by rw [preL_zero, Int.sub_zero], by first | rfl | trivial⟩
      case round =>
        obtain ⟨p, hp, rfl, rfl, rfl⟩ := hrel
        have hpn : p < n := by omega
        have hpi : (p : Int) < (n : Int) := by omega
        obtain ⟨g, off, rfl, -, hc⟩ := HR.out.at_ (by omega)
        have hck := hc p hpn
        obtain ⟨z0, z1⟩ := HZ.out p hp
        obtain ⟨f0, f1⟩ := HF.out p hp
        have hnx := HX.out p hp
        by_cases hlt : p < o
        · have hf2 := (HF.out (p + 1) hlt).2
          obtain ⟨z, hzz⟩ : ∃ z, l.getD p 0 = z := ⟨_, rfl⟩
          rw [hzz] at hck z0 z1 hnx
          rw [hnx] at hf2
          have HNX := Lib.hid hnx
          obtain ⟨q, hq⟩ : ∃ q, preL l p = q := ⟨_, rfl⟩
          rw [hq] at HNX f0 f1 hf2 ⊢
          clear hc hzz hq hnx
          go_wp2
          go_roundw
          case rel => exact ⟨p + 1, by omega, by go_num, by rw [HNX.out]; go_num, by first | rfl | trivial⟩
          case measure => simp [intOf]; omega
        · obtain rfl : p = o := by omega
          have h4 := HE4.out
          rw [hnx] at h4
          obtain ⟨z, hzz⟩ : ∃ z, l.getD p 0 = z := ⟨_, rfl⟩
          rw [hzz] at hck z0 z1 h4
          obtain ⟨q, hq⟩ : ∃ q, preL l p = q := ⟨_, rfl⟩
          rw [hq] at f0 f1 h4 ⊢
          clear hc hzz hq hnx hlt
          go_wp2
          go_ret2
          exact ⟨rfl, Below.refl _ _⟩
    · have hno := own_no hz0 (t := t) (by omega)
      rw [hno.1, hno.2]
      obtain ⟨x, hx⟩ : ∃ x, sumL l = x := ⟨_, rfl⟩
      rw [hx] at hto ht
      have HTO := Lib.hid hto
      clear hrd hz hz0 hto hs hx hn hlen hno
      go_enter Tryd.func6, Tryd.ntmps6
      go_wp2_with (go_at_call 8; (with_reducible refine (HTO.out _ HR.out).mono ?_); rintro e _ ⟨rfl, rfl⟩)
      go_ret2
      exact ⟨rfl, Below.refl _ _⟩
  · rw [(tot_no hs).1, (tot_no hs).2] at hto
    rw [(sco_no t hs).1, (sco_no t hs).2]
    have HTO := Lib.hid hto
    clear hrd hz hz0 hto hs hn hlen
    go_enter Tryd.func6, Tryd.ntmps6
    go_wp2_with (go_at_call 8; (with_reducible refine (HTO.out _ HR.out).mono ?_); rintro e _ ⟨rfl, rfl⟩)
    go_ret2
    exact ⟨rfl, Below.refl _ _⟩
theorem q12pos_c (w : World) (hrd : Rd .u64 w w.heap.size A n l) : Calls Tryd.prog 10 #[.slice A n c] w fun e w' => e = .returned (.int .i64 (posL l : Nat)) ∧ Below w.heap.size w w' := by
  have HR := Lib.hid hrd
  have hlen := hrd.len
  have hnm : (n : Int) ≤ 1000000 := by omega
  have HZ : Hid (∀ k, k < n → 0 ≤ l.getD k 0 ∧ l.getD k 0 < 18446744073709551616) := Lib.hid (fun k h => hz _ (getD_in (l := l) (k := k) (by omega)))
  have HTK := Lib.hid (fun k (h : k < n) => posL_take (l := l) (k := k) (by omega))
  have HAL : Hid (l.take n = l) := Lib.hid (List.take_of_length_le (by omega))
  have HLE : Hid (∀ k, k ≤ n → posL (l.take k) ≤ k) := Lib.hid (fun k h => by have := posL_le (l.take k); rw [List.length_take] at this; omega)
  clear hrd hz hn hlen
  go_enter Tryd.func10, Tryd.ntmps10
  go_wp2
  go_loopw [3, 8] (fun pp ii wr => ∃ k : Nat, k ≤ n ∧ ii = .int .i64 (k : Int) ∧ pp = .int .i64 (posL (l.take k) : Nat) ∧ w = wr) (fun _ ii _ => n - (intOf ii).toNat)
  case atStart => exact ⟨0, by omega, rfl, rfl, by first | rfl | trivial⟩
  case round =>
    obtain ⟨k, hk, rfl, rfl, rfl⟩ := hrel
    by_cases hlt : k < n
    · obtain ⟨g, off, rfl, -, hc⟩ := HR.out.at_ (by omega)
      have hck := hc k hlt
      have hzk := HZ.out k hlt
      have htk := HTK.out k hlt
      have hle := HLE.out k hk
      have hlt2 : (k : Int) < (n : Int) := by omega
      obtain ⟨z, hzz⟩ : ∃ z, l.getD k 0 = z := ⟨_, rfl⟩
      rw [hzz] at hck hzk htk
      obtain ⟨p, hp⟩ : ∃ p, posL (l.take k) = p := ⟨_, rfl⟩
      rw [hp] at htk hle ⊢
      obtain ⟨z0, z1⟩ := hzk
      have hpk : (p : Int) ≤ (k : Int) := by omega
      by_cases hpos : 0 < z
      · rw [if_pos hpos] at htk
        have HNP := Lib.hid htk
        clear hc hzz hp htk hle
        go_wp2
        go_roundw
        case rel => exact ⟨k + 1, by omega, by go_num, by rw [HNP.out]; go_num, by first | rfl | trivial⟩
        case measure => simp [intOf]; omega
      · rw [if_neg hpos] at htk
        have HNP := Lib.hid htk
        clear hc hzz hp htk hle
        go_wp2
        go_roundw
        case rel => exact ⟨k + 1, by omega, by go_num, by rw [HNP.out]; rfl, by first | rfl | trivial⟩
        case measure => simp [intOf]; omega
    · obtain rfl : k = n := by omega
      rw [HAL.out]
      go_wp2
      go_ret
      exact ⟨rfl, Below.refl _ _⟩
set_option maxHeartbeats 4000000 in
theorem q12without_c (i : Int) (i0 : -9223372036854775808 ≤ i) (i1 : i < 9223372036854775808) (w : World) (hrd : Rd .u64 w w.heap.size A n l) : Calls Tryd.prog 9 #[.int .i64 i, .slice A n c] w (RetLst w (witL l i) (witE l i)) := by
  have HR := Lib.hid hrd
  have hlen := hrd.len
  have hn2 : (n : Int) ≤ 1000000 := by omega
  by_cases hin : 0 ≤ i ∧ i < n
  · obtain ⟨j0, j1⟩ := hin
    obtain ⟨k, rfl⟩ := Int.eq_ofNat_of_zero_le j0
    have hk : k < n := by omega
    have hl2 : (l.set k 0).length = n := by rw [List.length_set]; exact hlen
    have HN : Hid (n ≤ 100000000) := Lib.hid (by omega)
    have HLK : Hid (k < l.length) := Lib.hid (by omega)
    have HLN := Lib.hid hlen
    have HE := Lib.hid (wit_ok (l := l) (i := k) ⟨by omega, by rw [hlen]; exact j1⟩)
    have HEND : Hid (∀ A' c' w', Rd .u64 w' w'.heap.size A' n (l.set k 0) → n ≤ c' → c' ≤ maxLen → Below w.heap.size w w' → RetLst w (witL l k) (witE l k) (.returned (.tuple #[.slice A' n c', .int .i64 0])) w') := Lib.hid (fun A' c' w' h1 h2 h3 h4 => by rw [HE.out.1, HE.out.2]; refine ⟨A', c', by rw [Int.toNat_natCast, hl2], ?_⟩; rw [Int.toNat_natCast, hl2]; exact ⟨h1, h2, h3, h4⟩)
    clear hrd HE hlen hl2 hn i0 i1
    go_enter Tryd.func9, Tryd.ntmps9
    go_wp2_with (first
      | (go_at_call 13; (with_reducible refine (clone64_c l A n c HN.out _ HR.out).mono ?_); rintro e w7 ⟨v7, rfl, ho7, hb7⟩; obtain ⟨A7, c7, rfl, hc7, hm7⟩ := ho7.form; obtain ⟨g7, cur, rfl, hg7, hk7, hsz7, hat7⟩ := ho7.whole (Nat.lt_of_le_of_lt (Nat.zero_le _) HLK.out); rw [HLN.out] at ho7 hc7 hsz7; rw [HLN.out]; have HO7 := Lib.hid ho7; have HB7 := Lib.hid hb7; have HG7 := Lib.hid hg7; have HK7 := Lib.hid hk7; have HC7 := Lib.hid hc7; have HM7 := Lib.hid hm7; have HS7 := Lib.hid hsz7; clear ho7 hb7 hg7 hk7 hc7 hm7 hsz7 hat7)
      | (with_reducible refine at_any ?_; refine at_store 19 rfl ?_; refine wpList_store_cell rfl 22 (.tmp 19) (.const (.int .u64 0)) rfl g7 k rfl 22 cur HK7.out (.int .u64 0) rfl (Nat.lt_of_lt_of_le hk HS7.out) size_u64f rfl rfl ?_; intro w9 hk9 ho9; have HO9 := Lib.hid (own_set HO7.out HK7.out HLK.out HB7.out HG7.out hk9.out ho9); have HR9 := Lib.hid (OwnI.rd HO9.out.1 (len_set _ _ _ HLN.out))))
    go_ret2
    exact HEND.out _ _ _ HR9.out HC7.out HM7.out HO9.out.2
  · have HE := Lib.hid (wit_no (l := l) (i := i) (by rw [hlen]; exact hin))
    have HEMP : Hid (∀ w', Below w.heap.size w w' → RetLst w (witL l i) (witE l i) (.returned (.tuple #[.slice none 0 0, .int .i64 3])) w') := Lib.hid (fun w' hb => by rw [HE.out.1, HE.out.2]; exact ⟨none, 0, rfl, rd_nil _ _ _ _, Nat.le_refl _, by simp [maxLen], hb⟩)
    clear hrd hlen HE
    by_cases hi0 : i < 0
    · clear hin
      go_enter Tryd.func9, Tryd.ntmps9
      go_wp2
      go_ret2
      exact HEMP.out _ (Below.refl _ _)
    · have hi2 : (n : Int) ≤ i := by omega
      have hi3 : 0 ≤ i := by omega
      clear hin
      go_enter Tryd.func9, Tryd.ntmps9
      go_wp2
      go_ret2
      exact HEMP.out _ (Below.refl _ _)
end
end Go.Proofs.YtilccjjagdedaaaDoor

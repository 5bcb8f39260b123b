/-
  The lowest and the highest bit by the library's calls; its table, laid by the program's text.
  Conditions: the table reads, when the call begins, as the program's text lays it (the card ties that).
-/
import Derived.Test.YtilccjjagdedaaaDoorTzK
import Derived.Test.YtilccjjagdedaaaDoorShlB
import Derived.Test.YtilccjjagdedaaaDoorFenR
set_option maxRecDepth 100000
set_option linter.unusedVariables false
set_option linter.unusedSimpArgs false
namespace Go.Proofs.YtilccjjagdedaaaDoor
open Go.ChangeShapes Go.WideShapes Go.ChangeAt Go.RowKit
theorem TzT.at_ {w : World} (h : TzT w) : TabAt 1 Lib.deBruijn64tab w := by
  intro j hj
  have h1 := Lib.TabIs.cell h gTz j (by unfold tzTab; rw [List.length_map]; exact hj)
  rw [h1]
  congr 2
  unfold tzTab
  simp [List.getD, hj]
/-- What bits.TrailingZeros returns. -/
theorem tz_c (n : Nat) (h0 : n ≠ 0) (hn : n < 18446744073709551616) (w : World) (hT : TzT w) : Calls Tryd.prog 19 #[.int .u64 (n : Int)] w fun e w' => e = .returned (.int .i64 ((Lib.ctz 64 n : Nat) : Int)) ∧ w = w' :=
  (Any7.bits_TrailingZeros laysT27 n hn w (fun _ => hT.at_)).mono fun e w' h => ⟨h.1, h.2.symm⟩
theorem ctz_low (n : Nat) (h0 : n ≠ 0) (hn : n < 18446744073709551616) : 2 ^ Lib.ctz 64 n = lowN n ∧ Lib.ctz 64 n < 64 := by
  obtain ⟨h1, h2⟩ := Lib.lowest_bit 64 n h0 (by omega)
  exact ⟨by rw [← h1]; exact land_low 64 n h0 (by omega), h2⟩
/-- What bits.Len returns. -/
theorem len_c (n : Nat) (hn : n < 18446744073709551616) (w : World) : Calls Tryd.prog 21 #[.int .u64 (n : Int)] w fun e w' => e = .returned (.int .i64 ((Lib.bitLen n : Nat) : Int)) ∧ w = w' :=
  (Any.bits_Len laysL125 (n : Int) w (by omega) (by omega)).mono fun e w' h => ⟨by rw [h.1, Int.toNat_natCast], h.2.symm⟩
theorem bitLen_is (n : Nat) (h0 : n ≠ 0) (hn : n < 18446744073709551616) : ∃ k, Lib.bitLen n = k + 1 ∧ 2 ^ k ≤ n ∧ n < 2 ^ (k + 1) := by
  induction n using Nat.strongRecOn with
  | ind n ih =>
    have h1 := Lib.bitLen_half n h0 (by omega)
    by_cases h2 : n / 2 = 0
    · refine ⟨0, ?_, by omega, by omega⟩
      rw [h1, h2]
      rfl
    · obtain ⟨k, e1, e2, e3⟩ := ih (n / 2) (by omega) h2 (by omega)
      have e4 : 2 ^ (k + 1) = 2 * 2 ^ k := by rw [Nat.pow_succ, Nat.mul_comm]
      have e5 : 2 ^ (k + 1 + 1) = 2 * 2 ^ (k + 1) := by rw [Nat.pow_succ, Nat.mul_comm]
      exact ⟨k + 1, by rw [h1, e1, Nat.add_comm], by omega, by omega⟩
theorem bitLen_zero : Lib.bitLen 0 = 0 := rfl
/-! ### the table, laid by the program's text -/
abbrev laidT : List (String × DataW Unit) := [("math/bits.deBruijn32tab", Rows.laid_math_bits_deBruijn32tab), ("math/bits.deBruijn64tab", Rows.laid_math_bits_deBruijn64tab)]
theorem laidTz : (Rows.laid_math_bits_deBruijn64tab : DataW Unit) = Lib.tabData .u8 tzTab := by kernel_rfl
theorem tzT_of_laid {W : World} (h : laidMetH Tryd.prog laidT W) : TzT W := by
  rw [MakeChecks.laidMetH_plain _ _ _ (by kernel_rfl)] at h
  obtain ⟨ps, ⟨_, _, _, _, _, _, _, _, _, _, ⟨g0, t0, cs0, f0, p0, q0, hg0, ht0, hv0, hd0, _⟩, _⟩, _⟩ := h
  obtain rfl := Option.some.inj (gTz.symm.trans hg0)
  obtain rfl := Option.some.inj (tTz.symm.trans ht0)
  rw [laidTz] at hd0
  unfold TzT Lib.TabIs
  rw [hv0, ← Lib.cells_of_tab Tryd.underlying57 Tryd.underlying5 (by kernel_rfl) (by kernel_rfl) hd0]
/-- The heap that the program's own start leaves meets the condition. -/
theorem door_metT (os : Os) (args : Array Value) : laidMetH Tryd.prog laidT ((World.doorLaid Tryd.prog 400 os).forCall (fun _ _ => 0) ⟨#[], args, []⟩).memory :=
  laidMetH_of_parts3 (fuel := 8) (laidMet_of_run' 8 (by kernel_rfl) (by kernel_rfl)) (by kernel_rfl) (by kernel_rfl)
end Go.Proofs.YtilccjjagdedaaaDoor

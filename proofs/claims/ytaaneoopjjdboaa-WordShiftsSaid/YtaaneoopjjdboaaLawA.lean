/-
  The law of layer 1's fixed fact: the document's examples hold of package word.
  Conditions: none.
-/
import Derived.Test.YtaaneoopjjdboaaRefA
namespace Go.Proofs.Ytaaneoopjjdboaa
open Go.ChangeShapes Go.WideShapes Go.ChangeAt Go.RowKit
set_option linter.unusedVariables false

/-- Nothing that was there has turned. -/
def Fr (w w' : World) : Prop := Below w.heap.size w w' ∧ Grown w w'
theorem Fr.refl (w : World) : Fr w w := ⟨Below.refl _ _, Grown.refl _⟩
theorem grown_trans {a b c : World} (h : Grown a b) (k : Grown b c) : Grown a c :=
  ⟨World.keptBut_trans h.1 k.1, fun x => (k.2.1 x).trans (h.2.1 x), Nat.le_trans h.2.2 k.2.2⟩
theorem Fr.trans {a b c : World} (h : Fr a b) (k : Fr b c) : Fr a c :=
  ⟨h.1.trans (k.1.mono h.1.size), grown_trans h.2 k.2⟩

theorem info_u8 : ∃ f, Try.prog.info? 5 = some f ∧ f.size = 1 := by
  refine ⟨Try.prog.info? 5 |>.get!, by kernel_rfl, by kernel_rfl⟩
theorem cells_u8 : Try.prog.cellsOf 5 = 1 := by kernel_rfl
theorem cells_b8 : Try.prog.cellsOf 27 = 8 := by kernel_rfl
theorem eq_b4 (zs ys : List Int) (hz : zs.length = 4) (hy : ys.length = 4) (w : World) :
    (Op.equalIn 10000 28 (.agg (zs.map (Value.int .u8)).toArray) (.agg (ys.map (Value.int .u8)).toArray)).run Try.prog w = .ok (decide (zs = ys)) w := by
  obtain ⟨f, hi, hs⟩ := info_u8
  exact run_equal_ints Try.underlying28 Try.underlying5 hi hs cells_u8 zs ys hz hy w
theorem eq_b8 (zs ys : List Int) (hz : zs.length = 8) (hy : ys.length = 8) (w : World) :
    (Op.equalIn 10000 27 (.agg (zs.map (Value.int .u8)).toArray) (.agg (ys.map (Value.int .u8)).toArray)).run Try.prog w = .ok (decide (zs = ys)) w := by
  obtain ⟨f, hi, hs⟩ := info_u8
  exact run_equal_ints Try.underlying27 Try.underlying5 hi hs cells_u8 zs ys hz hy w
theorem ix_b8 (cs : Array Value) (i : Int) (v : Value) (i0 : 0 ≤ i) (i1 : i < 8) (hv : cs[i.toNat]? = some v) (w : World) : (Instr.index 27 (.agg cs) (.int .i64 i)).run Try.prog w = .ok v w := by
  obtain ⟨f, hi, hs⟩ := info_u8
  exact run_index_arr Try.underlying27 Try.underlying5 hi hs cs .i64 i v i0 (by omega) hv w

set_option maxRecDepth 100000 in
theorem alive_c (w : World) : Calls Try.prog 7 #[] w fun e w' => e = .returned (.bool true) ∧ Fr w w' := by
  have f1 : Wd.rotate 1 1 = 2147483648 := by decide
  have f2 : Wd.rotate 2147483648 (-1) = 1 := by decide
  have f3 : Wd.left 3 30 = 3221225472 := by decide
  have f4 : Wd.left 3 32 = 0 := by decide
  have f5 : Wd.right 5 1 = 2 := by decide
  have f6 : Wd.right 5 (-3) = 5 := by decide
  have f7 : ∀ W, (Op.equalIn 10000 28 (.agg (put4 258)) (.agg #[.int .u8 0, .int .u8 0, .int .u8 1, .int .u8 2])).run Try.prog W = .ok true W := fun W => eq_b4 [0, 0, 1, 2] [0, 0, 1, 2] rfl rfl W
  have f8 : get8 0 0 0 0 0 0 1 0 = 256 := by decide
  have f9 : Wd.bitsL 0 = 0 := by decide
  have f10 : Wd.bitsL 255 = 8 := by decide
  have f11 : Wd.get4 1 0 0 0 = 16777216 := by decide
  have f12 : ∀ W, (Instr.index 27 (.agg (put8 1)) (.int .i64 7)).run Try.prog W = .ok (.int .u8 1) W := fun W => ix_b8 (put8 1) 7 (.int .u8 1) (by decide) (by decide) rfl W
  go_enter Try.func7, Try.ntmps7
  go_wp2_with (first
    | (go_at_call 12; (with_reducible refine (rotate_c _ _ (by omega) (by omega) (by omega) (by omega) _).mono ?_); rintro e w' ⟨rfl, rfl⟩)
    | (go_at_call 8; (with_reducible refine (left_c _ _ (by omega) (by omega) (by omega) (by omega) _).mono ?_); rintro e w' ⟨rfl, rfl⟩)
    | (go_at_call 10; (with_reducible refine (right_c _ _ (by omega) (by omega) (by omega) (by omega) _).mono ?_); rintro e w' ⟨rfl, rfl⟩)
    | (go_at_call 22; (with_reducible refine (bits_i _ (by omega) (by omega) _).mono ?_); rintro e w' ⟨rfl, rfl⟩)
    | (go_at_call 18; (with_reducible refine (put32_c _ (by omega) (by omega) _).mono ?_); rintro e w1 ⟨rfl, hb1, hg1⟩)
    | (go_at_call 16; (with_reducible refine (get64_c 0 0 0 0 0 0 1 0 (by omega) (by omega) (by omega) (by omega) (by omega) (by omega) (by omega) (by omega) (by omega) (by omega) (by omega) (by omega) (by omega) (by omega) (by omega) (by omega) _).mono ?_); rintro e w2 ⟨rfl, hb2, hg2⟩)
    | (go_at_call 20; (with_reducible refine (get32_c 1 0 0 0 (by omega) (by omega) (by omega) (by omega) (by omega) (by omega) (by omega) (by omega) _).mono ?_); rintro e w3 ⟨rfl, hb3, hg3⟩)
    | (go_at_call 14; (with_reducible refine (put64_c _ (by omega) (by omega) _).mono ?_); rintro e w4 ⟨rfl, hb4, hg4⟩)
    | fail)
  go_ret
  exact ⟨rfl, (Fr.trans ⟨hb1, hg1⟩ (Fr.trans ⟨hb2, hg2⟩ (Fr.trans ⟨hb3, hg3⟩ ⟨hb4, hg4⟩)))⟩
end Go.Proofs.Ytaaneoopjjdboaa

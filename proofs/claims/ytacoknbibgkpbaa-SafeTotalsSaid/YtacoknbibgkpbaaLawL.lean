/-
  What stage 9's fixed fact returns.
  Conditions: none.
-/
import Derived.Test.YtacoknbibgkpbaaRefP
import Derived.Test.YtacoknbibgkpbaaSafA
set_option maxRecDepth 100000
set_option linter.unusedSimpArgs false
namespace Go.Proofs.Ytacoknbibgkpbaa
open Go.ChangeShapes Go.WideShapes Go.ChangeAt Go.RowKit
set_option linter.unusedVariables false
theorem rd_three (w : World) (e : TypeId) (k : IntKind) (x y z : Int) : Rd k (w.alloc (.cells #[.int k x, .int k y, .int k z] e)) (w.alloc (.cells #[.int k x, .int k y, .int k z] e)).heap.size (some ⟨w.heap.size, 0, none⟩) 3 [x, y, z] := by
  refine ⟨rfl, fun _ => ⟨w.heap.size, 0, rfl, (Blk.new w e #[.int k x, .int k y, .int k z]).lt, fun j hj => ?_⟩⟩
  have : j = 0 ∨ j = 1 ∨ j = 2 := by omega
  rcases this with rfl | rfl | rfl
  · rw [(Blk.new w e #[.int k x, .int k y, .int k z]).cell]; rfl
  · rw [(Blk.new w e #[.int k x, .int k y, .int k z]).cell]; rfl
  · rw [(Blk.new w e #[.int k x, .int k y, .int k z]).cell]; rfl
set_option maxHeartbeats 4000000 in
theorem alive9_c (w : World) : Calls Try.prog 7 #[] w fun e w' => e = .returned (.bool true) ∧ Below w.heap.size w w' := by
  have h1 := fun W => q9add_c 4611686018427387904 4611686018427387904 (by omega) (by omega) (by omega) (by omega) W
  rw [show addV 4611686018427387904 4611686018427387904 = 0 by kernel_rfl, show addO 4611686018427387904 4611686018427387904 = false by kernel_rfl] at h1
  have H1 := Lib.hid h1
  clear h1
  have h2 := fun W => q9add_c 4611686018427387904 4611686018427387903 (by omega) (by omega) (by omega) (by omega) W
  rw [show addV 4611686018427387904 4611686018427387903 = 9223372036854775807 by kernel_rfl, show addO 4611686018427387904 4611686018427387903 = true by kernel_rfl] at h2
  have H2 := Lib.hid h2
  clear h2
  have h3 := fun W => q9sub_c 7 5 (by omega) (by omega) (by omega) (by omega) W
  rw [show subV 7 5 = 2 by kernel_rfl, show subO 7 5 = true by kernel_rfl] at h3
  have H3 := Lib.hid h3
  clear h3
  have h4 := fun W => q9sub_c 5 7 (by omega) (by omega) (by omega) (by omega) W
  rw [show subV 5 7 = 0 by kernel_rfl, show subO 5 7 = false by kernel_rfl] at h4
  have H4 := Lib.hid h4
  clear h4
  have h5 := fun W => q9mul_c 3037000499 3037000499 (by omega) (by omega) (by omega) (by omega) W
  rw [show mulV 3037000499 3037000499 = 9223372030926249001 by kernel_rfl, show mulO 3037000499 3037000499 = true by kernel_rfl] at h5
  have H5 := Lib.hid h5
  clear h5
  have h6 := fun W => q9mul_c 4294967296 4294967296 (by omega) (by omega) (by omega) (by omega) W
  rw [show mulV 4294967296 4294967296 = 0 by kernel_rfl, show mulO 4294967296 4294967296 = false by kernel_rfl] at h6
  have H6 := Lib.hid h6
  clear h6
  have h7 := fun W (h : Rd .u64 W W.heap.size (some ⟨w.heap.size, 0, none⟩) 3 [1, 2, 3]) => q9total_c [1, 2, 3] (by decide) (some ⟨w.heap.size, 0, none⟩) 3 3 (by simp [maxLen]) W h
  rw [show sumV [1, 2, 3] = 6 by kernel_rfl, show sumO [1, 2, 3] = true by kernel_rfl] at h7
  have H7 := Lib.hid h7
  have h8 := fun W => q9total_c [] (by decide) none 0 0 (by simp [maxLen]) W Rd.none_
  rw [show sumV [] = 0 by kernel_rfl, show sumO [] = true by kernel_rfl] at h8
  have H8 := Lib.hid h8
  have h9 := fun W => q9fits_c 9223372036854775807 (by omega) (by omega) W
  rw [show decide ((9223372036854775807 : Int) < 9223372036854775808) = true by kernel_rfl] at h9
  have H9 := Lib.hid h9
  have h10 := fun W => q9fits_c 9223372036854775808 (by omega) (by omega) W
  rw [show decide ((9223372036854775808 : Int) < 9223372036854775808) = false by kernel_rfl] at h10
  have H10 := Lib.hid h10
  have HRT := Lib.hid (rd_three w 22 .u64 1 2 3)
  have HBL := Lib.hid ((Below.refl w.heap.size w).alloc (Nat.le_refl _) (.cells #[.int .u64 1, .int .u64 2, .int .u64 3] 22))
  clear h7 h8 h9 h10
  go_enter Try.func7, Try.ntmps7
  go_wp2_with (first
    | (go_at_call 8; (with_reducible refine (H1.out _).mono ?_); rintro e _ ⟨rfl, rfl⟩)
    | (go_at_call 8; (with_reducible refine (H2.out _).mono ?_); rintro e _ ⟨rfl, rfl⟩)
    | (go_at_call 10; (with_reducible refine (H3.out _).mono ?_); rintro e _ ⟨rfl, rfl⟩)
    | (go_at_call 10; (with_reducible refine (H4.out _).mono ?_); rintro e _ ⟨rfl, rfl⟩)
    | (go_at_call 12; (with_reducible refine (H5.out _).mono ?_); rintro e _ ⟨rfl, rfl⟩)
    | (go_at_call 12; (with_reducible refine (H6.out _).mono ?_); rintro e _ ⟨rfl, rfl⟩)
    | (go_at_call 15; (with_reducible refine (H7.out _ HRT.out).mono ?_); rintro e _ ⟨rfl, rfl⟩)
    | (go_at_call 15; (with_reducible refine (H8.out _).mono ?_); rintro e _ ⟨rfl, rfl⟩)
    | (go_at_call 14; (with_reducible refine (H9.out _).mono ?_); rintro e _ ⟨rfl, rfl⟩)
    | (go_at_call 14; (with_reducible refine (H10.out _).mono ?_); rintro e _ ⟨rfl, rfl⟩))
  go_ret
  exact ⟨rfl, HBL.out⟩
end Go.Proofs.Ytacoknbibgkpbaa

/-
  What stage 5's fixed fact returns.
  Conditions: none.
-/
import Derived.Test.YtjdceadglfnnbaaDoorShaA
set_option linter.unusedSimpArgs false
namespace Go.Proofs.YtjdceadglfnnbaaDoor
open Go.ChangeShapes Go.WideShapes Go.ChangeAt Go.RowKit
set_option linter.unusedVariables false
def abcH : List Int := [186, 120, 22, 191, 143, 1, 207, 234, 65, 65, 64, 222, 93, 174, 34, 35, 176, 3, 97, 163, 150, 23, 122, 156, 180, 16, 255, 97, 242, 0, 21, 173]
def abcB : ByteArray := ⟨#[98, 97, 55, 56, 49, 54, 98, 102, 56, 102, 48, 49, 99, 102, 101, 97, 52, 49, 52, 49, 52, 48, 100, 101, 53, 100, 97, 101, 50, 50, 50, 51, 98, 48, 48, 51, 54, 49, 97, 51, 57, 54, 49, 55, 55, 97, 57, 99, 98, 52, 49, 48, 102, 102, 54, 49, 102, 50, 48, 48, 49, 53, 97, 100]⟩
def zzB : ByteArray := ⟨#[122, 122]⟩
theorem abc_fin : finL startL [97, 98, 99] 3 = abcH := by kernel_rfl
theorem abc_sum : shaL [97, 98, 99] = abcH := by kernel_rfl
theorem abc_text : strB (textL abcH) = abcB := by kernel_rfl
theorem abc_ok : parseOk (bytesI abcB) = true := by kernel_rfl
theorem abc_parse : parseTo (bytesI abcB) 32 = abcH := by kernel_rfl
theorem zz_no : parseOk (bytesI zzB) = false := by kernel_rfl
def nilH : List Int := shaL []
theorem nil_text : ((strB (textL nilH)).extract 0 8) = (⟨#[101, 51, 98, 48, 99, 52, 52, 50]⟩ : ByteArray) := by kernel_rfl
theorem abcH_in : ∀ z ∈ abcH, 0 ≤ z ∧ z < 256 := by decide +kernel
theorem w1_S : nextS startL [] [97, 98] = startL := by kernel_rfl
theorem w1_R : nextR [] [97, 98] = [97, 98] := by kernel_rfl
theorem w2_S : nextS startL [97, 98] [99] = startL := by kernel_rfl
theorem w2_R : nextR [97, 98] [99] = [97, 98, 99] := by kernel_rfl
/-! ### rows that were just laid -/
theorem rd_new (w : World) (x : List Int) (m : Nat × Nat) : Rd .u8 (w.alloc (.cells (intsA .u8 x) 5 m)) (w.heap.size + 1) (some ⟨w.heap.size, 0, none⟩) x.length x :=
  ⟨rfl, fun _ => ⟨w.heap.size, 0, rfl, by omega, fun j hj => by
    rw [Nat.zero_add, cell_of_row _ _ _ _ _ m (heap_alloc_new w _)]
    exact intsA_at .u8 x j hj⟩⟩
theorem rows1 (w : World) (x : List Int) :
    RdRows ((w.alloc (.cells (intsA .u8 x) 5 (x.length, x.length + 1))).alloc (.cells #[.slice (some ⟨w.heap.size, 0, none⟩) x.length x.length] 29)) ((w.alloc (.cells (intsA .u8 x) 5 (x.length, x.length + 1))).alloc (.cells #[.slice (some ⟨w.heap.size, 0, none⟩) x.length x.length] 29)).heap.size (some ⟨w.heap.size + 1, 0, none⟩) 1 [⟨some ⟨w.heap.size, 0, none⟩, x.length, x.length, x⟩] := by
  have s1 : (w.alloc (.cells (intsA .u8 x) 5 (x.length, x.length + 1))).heap.size = w.heap.size + 1 := by simp
  have k1 := (rd_new w x (x.length, x.length + 1)).alloc (by rw [s1]; omega) (.cells #[.slice (some ⟨w.heap.size, 0, none⟩) x.length x.length] 29)
  have k2 := Blk.new (w.alloc (.cells (intsA .u8 x) 5 (x.length, x.length + 1))) 29 #[.slice (some ⟨w.heap.size, 0, none⟩) x.length x.length]
  rw [s1] at k2
  refine ⟨rfl, fun _ => ⟨_, 0, rfl, k2.lt, fun j r hj => ?_⟩, fun r hr => ?_⟩
  · match j, hj with
    | 0, hj => injection hj with hj; subst hj; rw [k2.cell]; rfl
  · obtain rfl := List.mem_singleton.1 hr
    exact ⟨k1.fit, Nat.le_refl _⟩
theorem rows2 (w : World) (x y : List Int) :
    RdRows (((w.alloc (.cells (intsA .u8 x) 5 (x.length, x.length + 1))).alloc (.cells (intsA .u8 y) 5 (y.length, y.length + 1))).alloc (.cells #[.slice (some ⟨w.heap.size, 0, none⟩) x.length x.length, .slice (some ⟨w.heap.size + 1, 0, none⟩) y.length y.length] 29)) (((w.alloc (.cells (intsA .u8 x) 5 (x.length, x.length + 1))).alloc (.cells (intsA .u8 y) 5 (y.length, y.length + 1))).alloc (.cells #[.slice (some ⟨w.heap.size, 0, none⟩) x.length x.length, .slice (some ⟨w.heap.size + 1, 0, none⟩) y.length y.length] 29)).heap.size (some ⟨w.heap.size + 1 + 1, 0, none⟩) 2 [⟨some ⟨w.heap.size, 0, none⟩, x.length, x.length, x⟩, ⟨some ⟨w.heap.size + 1, 0, none⟩, y.length, y.length, y⟩] := by
  have s1 : (w.alloc (.cells (intsA .u8 x) 5 (x.length, x.length + 1))).heap.size = w.heap.size + 1 := by simp
  have s2 : ((w.alloc (.cells (intsA .u8 x) 5 (x.length, x.length + 1))).alloc (.cells (intsA .u8 y) 5 (y.length, y.length + 1))).heap.size = w.heap.size + 1 + 1 := by simp
  have k1 := ((rd_new w x (x.length, x.length + 1)).alloc (by rw [s1]; omega) (.cells (intsA .u8 y) 5 (y.length, y.length + 1))).alloc (by rw [s2]; omega) (.cells #[.slice (some ⟨w.heap.size, 0, none⟩) x.length x.length, .slice (some ⟨w.heap.size + 1, 0, none⟩) y.length y.length] 29)
  have k2 := (rd_new (w.alloc (.cells (intsA .u8 x) 5 (x.length, x.length + 1))) y (y.length, y.length + 1)).alloc (by rw [s1, s2]; omega) (.cells #[.slice (some ⟨w.heap.size, 0, none⟩) x.length x.length, .slice (some ⟨w.heap.size + 1, 0, none⟩) y.length y.length] 29)
  have k3 := Blk.new ((w.alloc (.cells (intsA .u8 x) 5 (x.length, x.length + 1))).alloc (.cells (intsA .u8 y) 5 (y.length, y.length + 1))) 29 #[.slice (some ⟨w.heap.size, 0, none⟩) x.length x.length, .slice (some ⟨w.heap.size + 1, 0, none⟩) y.length y.length]
  rw [s1] at k2
  rw [s2] at k3
  refine ⟨rfl, fun _ => ⟨_, 0, rfl, k3.lt, fun j r hj => ?_⟩, fun r hr => ?_⟩
  · match j, hj with
    | 0, hj => injection hj with hj; subst hj; rw [k3.cell]; rfl
    | 1, hj => injection hj with hj; subst hj; rw [k3.cell]; rfl
  · simp only [List.mem_cons, List.not_mem_nil, or_false] at hr
    rcases hr with rfl | rfl
    · exact ⟨k1.fit, Nat.le_refl _⟩
    · exact ⟨k2.fit, Nat.le_refl _⟩
def RetAb (w : World) (zs : List Int) (r : Nat) (n : Int) (e : Ending) (w' : World) : Prop := ∃ A c, e = .returned (.tuple #[.agg (wrV startL A r c n), .int .i64 0]) ∧ Rd .u8 w' w'.heap.size A r zs ∧ r ≤ c ∧ Below w.heap.size w w'
theorem below_alloc3 {w w' : World} {a b c : Obj} (hb : Below ((w.alloc a).alloc b |>.alloc c).heap.size ((w.alloc a).alloc b |>.alloc c) w') : Below w.heap.size w w' := by
  have h : Below w.heap.size w ((w.alloc a).alloc b |>.alloc c) := (((Below.refl _ _).alloc (Nat.le_refl _) _).alloc (by simp) _).alloc (by simp; omega) _
  exact h.trans (hb.mono h.size)
theorem wr_ab (w : World) (hkst : Kst w) : Calls Tryd.prog 12 #[.agg (wrV startL none 0 0 0), .slice (some ⟨w.heap.size + 1 + 1, 0, none⟩) 2 2] (((w.alloc (.cells #[.int .u8 97] 5 (1, 2))).alloc (.cells #[.int .u8 98] 5 (1, 2))).alloc (.cells #[.slice (some ⟨w.heap.size, 0, none⟩) 1 1, .slice (some ⟨w.heap.size + 1, 0, none⟩) 1 1] 29)) (RetAb w [97, 98] 2 2) := by
  have hr := rows2 w [97] [98]
  obtain ⟨rs, hrs⟩ : ∃ rs : List Row, [⟨some ⟨w.heap.size, 0, none⟩, [(97 : Int)].length, [(97 : Int)].length, [97]⟩, ⟨some ⟨w.heap.size + 1, 0, none⟩, [(98 : Int)].length, [(98 : Int)].length, [98]⟩] = rs := ⟨_, rfl⟩
  rw [hrs] at hr
  have hj : joinL rs = [97, 98] := by rw [← hrs]; rfl
  have hk : RowsOk rs := by rw [← hrs]; exact ⟨by simp, by simp⟩
  have h := qwrite_c startL [] rfl startL_in none 0 0 0 (by omega) (Nat.le_refl _) (by omega) _ 2 2 rs rfl (by rw [hj]; simp) _ Rd.none_ (fun _ h => by cases h) hr (Nat.le_refl _) hk (((hkst.alloc _).alloc _).alloc _)
  rw [hj, w1_S, w1_R] at h
  refine h.mono ?_
  rintro e w' ⟨A, c, rfl, hrd, hc, hb⟩
  exact ⟨A, c, rfl, hrd, hc, below_alloc3 hb⟩
theorem wr_c (w : World) (A : Option Addr) (c : Nat) (hrd : Rd .u8 w w.heap.size A 2 [97, 98]) (hc : 2 ≤ c) (hkst : Kst w) : Calls Tryd.prog 12 #[.agg (wrV startL A 2 c 2), .slice (some ⟨w.heap.size + 1, 0, none⟩) 1 1] ((w.alloc (.cells #[.int .u8 99] 5 (1, 2))).alloc (.cells #[.slice (some ⟨w.heap.size, 0, none⟩) 1 1] 29)) (RetAb w [97, 98, 99] 3 3) := by
  have hr := rows1 w [99]
  have hb2 : Below w.heap.size w ((w.alloc (.cells #[.int .u8 99] 5 (1, 2))).alloc (.cells #[.slice (some ⟨w.heap.size, 0, none⟩) 1 1] 29)) := ((Below.refl _ _).alloc (Nat.le_refl _) _).alloc (by simp) _
  obtain ⟨rs, hrs⟩ : ∃ rs : List Row, [⟨some ⟨w.heap.size, 0, none⟩, [(99 : Int)].length, [(99 : Int)].length, [99]⟩] = rs := ⟨_, rfl⟩
  rw [hrs] at hr
  have hj : joinL rs = [99] := by rw [← hrs]; rfl
  have hk : RowsOk rs := by rw [← hrs]; exact ⟨by simp, by simp⟩
  have h := qwrite_c startL [97, 98] rfl startL_in A 2 c 2 (by omega) hc (by omega) _ 1 1 rs rfl (by rw [hj]; simp) _ ((hrd.below hb2).fit) (by decide) hr (Nat.le_refl _) hk (hkst.below hb2)
  rw [hj, w2_S, w2_R] at h
  refine h.mono ?_
  rintro e w' ⟨A', c', rfl, hrd', hc', hb⟩
  exact ⟨A', c', rfl, hrd', hc', hb2.trans (hb.mono hb2.size)⟩
end Go.Proofs.YtjdceadglfnnbaaDoor

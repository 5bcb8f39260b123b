/-
  What stage 5's fixed fact returns.
  Conditions: the table of constants holds what the program's text lays.
-/
import Derived.Test.YtjdceadglfnnbaaDoorLawF
import Derived.Lib.SlBytesConst
set_option linter.unusedSimpArgs false
namespace Go.Proofs.YtjdceadglfnnbaaDoor
open Go.ChangeShapes Go.WideShapes Go.ChangeAt Go.RowKit
set_option linter.unusedVariables false
def Z32 : List Int := List.replicate 32 0
theorem size_abc : (Tryd.prog.info? 26).map (·.size) = some abcH.length := size_hash
theorem size_z32 : (Tryd.prog.info? 26).map (·.size) = some Z32.length := size_hash
theorem zero_h32 : ∀ W, (zeroValue 26).run Tryd.prog W = .ok (.agg (intsA .u8 Z32)) W := zero_hash
theorem len_za : Z32.length = abcH.length := rfl
theorem zsize (A : Option Addr) (r c : Nat) (n : Int) : (wrV Z8 none 0 0 0).size = (wrV startL A r c n).size := by rw [wrV_size _ rfl, wrV_size _ rfl]
theorem fin_abc (w : World) (A : Option Addr) (c : Nat) (hrd : Rd .u8 w w.heap.size A 3 [97, 98, 99]) (hc : 3 ≤ c) (hkst : Kst w) : Calls Tryd.prog 14 #[.agg (wrV startL A 3 c 3)] w fun e w' => e = .returned (.tuple #[.agg (intsA .u8 abcH), .int .i64 0]) ∧ Below w.heap.size w w' := by
  have h := qfin_c startL [97, 98, 99] rfl startL_in A 3 c 3 (by omega) hc (by omega) rfl w hrd (by decide) hkst
  rwa [abc_fin] at h
theorem fin_no (w : World) : Calls Tryd.prog 14 #[.agg (wrV Z8 none 0 0 1)] w fun e w' => e = .returned (.tuple #[.agg (intsA .u8 Z32), .int .i64 1]) ∧ Below w.heap.size w w' :=
  qfin_no Z8 rfl none 0 0 1 (by omega) (by omega) (by omega) rfl w
theorem par_abc (w : World) : Calls Tryd.prog 22 #[.string ⟨#[98, 97, 55, 56, 49, 54, 98, 102, 56, 102, 48, 49, 99, 102, 101, 97, 52, 49, 52, 49, 52, 48, 100, 101, 53, 100, 97, 101, 50, 50, 50, 51, 98, 48, 48, 51, 54, 49, 97, 51, 57, 54, 49, 55, 55, 97, 57, 99, 98, 52, 49, 48, 102, 102, 54, 49, 102, 50, 48, 48, 49, 53, 97, 100]⟩] w fun e w' => e = .returned (.tuple #[.agg (intsA .u8 abcH), .int .i64 0]) ∧ Below w.heap.size w w' := by
  have h := qparse_c abcB (by decide +kernel) w
  rw [abc_ok, abc_parse] at h
  exact h
theorem par_zz (w : World) : Calls Tryd.prog 22 #[.string ⟨#[122, 122]⟩] w fun e w' => e = .returned (.tuple #[.agg (intsA .u8 Z32), .int .i64 2]) ∧ Below w.heap.size w w' := by
  have h := qparse_c zzB (by decide +kernel) w
  rw [zz_no] at h
  exact h
theorem run_build_bytes (w : World) : (Instr.build 36 #[(2, .int .u64 1)]).run Tryd.prog w = .ok (.agg #[.int .u32 0, .int .u32 0, .int .u32 0, .int .u32 0, .int .u32 0, .int .u32 0, .int .u32 0, .int .u32 0, .slice none 0 0, .int .u64 1]) w := by
  go_simp
theorem build_bytes {a : Act} {o : Oper} (w : World) (ho : o.op = .build 36 #[(2, .const (.int .u64 1))]) : (execOp a.eval o).run Tryd.prog w = .ok (.value (.agg (wrV Z8 none 0 0 1))) w := by
  unfold execOp
  simp only [ho, List.map_toArray, List.map_cons, List.map_nil]
  change ((Instr.build 36 #[(2, .int .u64 1)]) >>= fun v => pure (Next.value v)).run Tryd.prog w = _
  simp only [Sem.run_bind, run_build_bytes, Result.andThen_ok, Sem.run_pure]
  rfl
theorem cv1 (w : World) (z : Int) : (convert 29 29 (.slice (some ⟨w.heap.size, 0, none⟩) 1 1)).run Tryd.prog (w.alloc (.cells #[.int .u8 z] 5)) = .ok (.slice (some ⟨w.heap.size, 0, none⟩) 1 1) (w.alloc (.cells #[.int .u8 z] 5 (1, 2))) := Lib.run_convert_bytes_const w 29 5 #[.int .u8 z] 1 1 Tryd.underlying29 Tryd.underlying5
theorem cv2 (w : World) (o : Obj) (z : Int) : (convert 29 29 (.slice (some ⟨w.heap.size + 1, 0, none⟩) 1 1)).run Tryd.prog ((w.alloc o).alloc (.cells #[.int .u8 z] 5)) = .ok (.slice (some ⟨w.heap.size + 1, 0, none⟩) 1 1) ((w.alloc o).alloc (.cells #[.int .u8 z] 5 (1, 2))) := by
  have h := cv1 (w.alloc o) z
  rwa [show (w.alloc o).heap.size = w.heap.size + 1 by simp] at h
/-- What the last test keeps. -/
def A5 (w : World) (g1 g3 g5 g7 : Nat) (V1 V3 : Array Value) (A1 A3 : Option Addr) (w' : World) : Prop :=
  Blk w' g1 36 V1 ∧ Blk w' g3 36 V3 ∧ BlkI w' g5 26 .u8 abcH ∧ BlkI w' g7 26 .u8 abcH ∧ Rd .u8 w' w'.heap.size A1 2 [97, 98] ∧ Rd .u8 w' w'.heap.size A3 3 [97, 98, 99] ∧ Below w.heap.size w w'
section
variable {w w' w'' : World} {g1 g3 g5 g7 : Nat} {V1 V3 : Array Value} {A1 A3 : Option Addr}
theorem A5.below (h : A5 w g1 g3 g5 g7 V1 V3 A1 A3 w') (hb : Below w'.heap.size w' w'') : A5 w g1 g3 g5 g7 V1 V3 A1 A3 w'' := by
  obtain ⟨h1, h2, h3, h4, h5, h6, h7⟩ := h
  exact ⟨h1.below hb h1.lt, h2.below hb h2.lt, h3.below hb h3.lt, h4.below hb h4.lt, (h5.below hb).fit, (h6.below hb).fit, h7.trans (hb.mono h7.size)⟩
theorem A5.alloc (h : A5 w g1 g3 g5 g7 V1 V3 A1 A3 w') (o : Obj) : A5 w g1 g3 g5 g7 V1 V3 A1 A3 (w'.alloc o) := h.below ((Below.refl _ _).alloc (Nat.le_refl _) o)
theorem A5.drew (h : A5 w g1 g3 g5 g7 V1 V3 A1 A3 w') : A5 w g1 g3 g5 g7 V1 V3 A1 A3 w'.drew := by
  obtain ⟨h1, h2, h3, h4, h5, h6, h7⟩ := h
  exact ⟨h1, h2, h3, h4, h5, h6, h7.drew⟩
end
section
variable {P : Program} {ops : Array Oper} {Q : Exit → Act → World → Prop} {md : Region.Mode} {S : World → Prop} {fuel : Nat} {listed : Array Bool} {a : Act} {w : World}
theorem held_load_blk {oi : Oper} (i : Nat) (hi : ops[i]? = some oi) (hs : Region.noSelect ops = true) (hf : Region.free md ops listed i = true) (hr : (Region.ready md ops listed).contains i = true)
    (hQ2 : ∀ c a v w, Q (.panic c) (a.put oi.dst v) w → Q (.panic c) a w) (hw : Region.wanted oi (yielded ops a.tmps) = true)
    (ty : TypeId) (x : Operand) (ho : oi.op = .load ty x) (g : Nat) (hx : a.eval x = .pointer (some ⟨g, 0, none⟩)) (t : TypeId) (cs : Array Value) (hS : ∀ w, S w → Blk w g t cs)
    (d : TypeDesc) (hu : P.underlying ty = some d) (hd : d.isRow = true) (hz : (P.info? ty).map (·.size) = some cs.size) (hSw : S w)
    (h : wpAnyH P md ops Q S fuel (listed.setIfInBounds i true) (a.put oi.dst (.agg cs)) w) : wpAnyH P md ops Q S (fuel + 1) listed a w :=
  held_load_mid i hi hs hf hr hQ2 hw ty x ho g 0 hx cs.toList (fun w h => (hS w h).range) d hu hd (by rw [Array.length_toList]; exact hz) hSw (by rw [Array.toArray_toList]; exact h)
end
theorem txt_abc (w : World) : Calls Tryd.prog 24 #[.agg (intsA .u8 abcH)] w fun e w' => e = .returned (.string ⟨#[98, 97, 55, 56, 49, 54, 98, 102, 56, 102, 48, 49, 99, 102, 101, 97, 52, 49, 52, 49, 52, 48, 100, 101, 53, 100, 97, 101, 50, 50, 50, 51, 98, 48, 48, 51, 54, 49, 97, 51, 57, 54, 49, 55, 55, 97, 57, 99, 98, 52, 49, 48, 102, 102, 54, 49, 102, 50, 48, 48, 49, 53, 97, 100]⟩) ∧ Below w.heap.size w w' := by
  have h := qtext_c abcH rfl abcH_in w
  rw [abc_text] at h
  exact h
theorem eq_abc (w : World) : (Op.equalIn 10000 26 (.agg (intsA .u8 abcH)) (.agg (intsA .u8 abcH))).run Tryd.prog w = .ok true w := by
  obtain ⟨i0, hi, _, hs, _⟩ := info_parts info_u8'
  have := run_equal_ints Tryd.underlying26 Tryd.underlying5 hi hs (by kernel_rfl) abcH abcH rfl rfl w
  rwa [decide_eq_true rfl] at this
theorem cv3 (w : World) (x y z : Int) : (convert 29 29 (.slice (some ⟨w.heap.size, 0, none⟩) 3 3)).run Tryd.prog (w.alloc (.cells #[.int .u8 x, .int .u8 y, .int .u8 z] 5)) = .ok (.slice (some ⟨w.heap.size, 0, none⟩) 3 3) (w.alloc (.cells #[.int .u8 x, .int .u8 y, .int .u8 z] 5 (3, 4))) := Lib.run_convert_bytes_const w 29 5 #[.int .u8 x, .int .u8 y, .int .u8 z] 3 3 Tryd.underlying29 Tryd.underlying5
theorem cv4 (w : World) (x y : Int) : (convert 29 29 (.slice (some ⟨w.heap.size, 0, none⟩) 2 2)).run Tryd.prog (w.alloc (.cells #[.int .u8 x, .int .u8 y] 5)) = .ok (.slice (some ⟨w.heap.size, 0, none⟩) 2 2) (w.alloc (.cells #[.int .u8 x, .int .u8 y] 5 (2, 3))) := Lib.run_convert_bytes_const w 29 5 #[.int .u8 x, .int .u8 y] 2 2 Tryd.underlying29 Tryd.underlying5
theorem sum_abc (w : World) (hkst : Kst w) : Calls Tryd.prog 9 #[.slice (some ⟨w.heap.size + 1, 0, none⟩) 1 1] ((w.alloc (.cells #[.int .u8 97, .int .u8 98, .int .u8 99] 5 (3, 4))).alloc (.cells #[.slice (some ⟨w.heap.size, 0, none⟩) 3 3] 29)) fun e w' => e = .returned (.agg (intsA .u8 abcH)) ∧ Below w.heap.size w w' := by
  have hr := rows1 w [97, 98, 99]
  obtain ⟨rs, hrs⟩ : ∃ rs : List Row, [⟨some ⟨w.heap.size, 0, none⟩, [(97 : Int), 98, 99].length, [(97 : Int), 98, 99].length, [97, 98, 99]⟩] = rs := ⟨_, rfl⟩
  rw [hrs] at hr
  have hj : joinL rs = [97, 98, 99] := by rw [← hrs]; rfl
  have hk : RowsOk rs := by rw [← hrs]; exact ⟨by simp, by simp⟩
  have h := qsum_c _ 1 1 rs _ hr (Nat.le_refl _) hk ((hkst.alloc _).alloc _)
  rw [hj, abc_sum] at h
  refine h.mono ?_
  rintro e w' ⟨rfl, hb⟩
  have hb2 : Below w.heap.size w ((w.alloc (.cells #[.int .u8 97, .int .u8 98, .int .u8 99] 5 (3, 4))).alloc (.cells #[.slice (some ⟨w.heap.size, 0, none⟩) 3 3] 29)) := ((Below.refl _ _).alloc (Nat.le_refl _) _).alloc (by simp) _
  exact ⟨rfl, hb2.trans (hb.mono hb2.size)⟩
theorem cvU (w : World) (C : Array Value) (n c : Nat) (o : Obj) : (convert 29 29 (.slice (some ⟨w.heap.size, 0, none⟩) n c)).run Tryd.prog ((w.alloc (.cells C 5)).alloc o) = .ok (.slice (some ⟨w.heap.size, 0, none⟩) n c) ((w.alloc (.cells C 5 (C.size, C.size + 1))).alloc o) := by
  have hsh : ((w.alloc (.cells C 5)).alloc o).shape? w.heap.size = some (5, C.size) := by
    have : ((w.alloc (.cells C 5)).alloc o).heap[w.heap.size]? = some (.cells C 5) := by
      rw [heap_alloc_old _ _ (by simp), heap_alloc_new]
    unfold World.shape?
    rw [this]
  have hfr : ∀ (k : Nat), ((w.alloc (.cells C 5)).alloc o).freeze ⟨w.heap.size, k, none⟩ 1 = (w.alloc (.cells C 5 (k, k + 1))).alloc o := fun k => by
    have hm : ∀ (a : Array Obj) (x o : Obj) (f : Obj → Obj), ((a.push x).push o).modify a.size f = (a.push (f x)).push o := by
      intro a x o f
      apply Array.ext
      · simp
      · intro i h1 h2
        simp only [Array.getElem_modify, Array.getElem_push]
        by_cases h : a.size = i
        · subst h
          simp
        · by_cases h3 : i < a.size
          · simp [h, h3, Nat.lt_succ_of_lt h3]
          · have h4 : ¬ i < a.size + 1 := by omega
            simp [h, h3, h4]
    unfold World.freeze
    rw [if_neg (by decide)]
    show ({ (w.alloc (.cells C 5)).alloc o with heap := ((w.heap.push (.cells C 5)).push o).modify w.heap.size _ } : World) = _
    rw [hm]
    rfl
  simp [convert, run_underlying Tryd.underlying29, run_underlying Tryd.underlying5, markStringish, hsh]
  exact hfr _
theorem cvUa (w : World) (o : Obj) : (convert 29 29 (.slice (some ⟨w.heap.size, 0, none⟩) 2 2)).run Tryd.prog ((w.alloc (.cells #[.int .u8 97, .int .u8 98] 5)).alloc o) = .ok (.slice (some ⟨w.heap.size, 0, none⟩) 2 2) ((w.alloc (.cells #[.int .u8 97, .int .u8 98] 5 (2, 3))).alloc o) := cvU w #[.int .u8 97, .int .u8 98] 2 2 o
theorem cvUc (w : World) (o : Obj) : (convert 29 29 (.slice (some ⟨w.heap.size, 0, none⟩) 1 1)).run Tryd.prog ((w.alloc (.cells #[.int .u8 99] 5)).alloc o) = .ok (.slice (some ⟨w.heap.size, 0, none⟩) 1 1) ((w.alloc (.cells #[.int .u8 99] 5 (1, 2))).alloc o) := cvU w #[.int .u8 99] 1 1 o
theorem cv5 (w : World) (o : Obj) : (convert 29 29 (.slice (some ⟨w.heap.size + 1, 0, none⟩) 2 2)).run Tryd.prog ((w.alloc o).alloc (.cells #[.int .u8 97, .int .u8 98] 5)) = .ok (.slice (some ⟨w.heap.size + 1, 0, none⟩) 2 2) ((w.alloc o).alloc (.cells #[.int .u8 97, .int .u8 98] 5 (2, 3))) := by
  have h := cv4 (w.alloc o) 97 98
  rwa [show (w.alloc o).heap.size = w.heap.size + 1 by simp] at h
theorem rows2x (w : World) (x y : List Int) :
    RdRows (((w.alloc (.cells (intsA .u8 y) 5 (y.length, y.length + 1))).alloc (.cells (intsA .u8 x) 5 (x.length, x.length + 1))).alloc (.cells #[.slice (some ⟨w.heap.size + 1, 0, none⟩) x.length x.length, .slice (some ⟨w.heap.size, 0, none⟩) y.length y.length] 29)) (((w.alloc (.cells (intsA .u8 y) 5 (y.length, y.length + 1))).alloc (.cells (intsA .u8 x) 5 (x.length, x.length + 1))).alloc (.cells #[.slice (some ⟨w.heap.size + 1, 0, none⟩) x.length x.length, .slice (some ⟨w.heap.size, 0, none⟩) y.length y.length] 29)).heap.size (some ⟨w.heap.size + 1 + 1, 0, none⟩) 2 [⟨some ⟨w.heap.size + 1, 0, none⟩, x.length, x.length, x⟩, ⟨some ⟨w.heap.size, 0, none⟩, y.length, y.length, y⟩] := by
  have s1 : (w.alloc (.cells (intsA .u8 y) 5 (y.length, y.length + 1))).heap.size = w.heap.size + 1 := by simp
  have s2 : ((w.alloc (.cells (intsA .u8 y) 5 (y.length, y.length + 1))).alloc (.cells (intsA .u8 x) 5 (x.length, x.length + 1))).heap.size = w.heap.size + 1 + 1 := by simp
  have k1 := ((rd_new w y (y.length, y.length + 1)).alloc (by rw [s1]; omega) (.cells (intsA .u8 x) 5 (x.length, x.length + 1))).alloc (by rw [s2]; omega) (.cells #[.slice (some ⟨w.heap.size + 1, 0, none⟩) x.length x.length, .slice (some ⟨w.heap.size, 0, none⟩) y.length y.length] 29)
  have k2 := (rd_new (w.alloc (.cells (intsA .u8 y) 5 (y.length, y.length + 1))) x (x.length, x.length + 1)).alloc (by rw [s1, s2]; omega) (.cells #[.slice (some ⟨w.heap.size + 1, 0, none⟩) x.length x.length, .slice (some ⟨w.heap.size, 0, none⟩) y.length y.length] 29)
  have k3 := Blk.new ((w.alloc (.cells (intsA .u8 y) 5 (y.length, y.length + 1))).alloc (.cells (intsA .u8 x) 5 (x.length, x.length + 1))) 29 #[.slice (some ⟨w.heap.size + 1, 0, none⟩) x.length x.length, .slice (some ⟨w.heap.size, 0, none⟩) y.length y.length]
  rw [s1] at k2
  rw [s2] at k3
  refine ⟨rfl, fun _ => ⟨_, 0, rfl, k3.lt, fun j r hj => ?_⟩, fun r hr => ?_⟩
  · match j, hj with
    | 0, hj => injection hj with hj; subst hj; rw [k3.cell]; rfl
    | 1, hj => injection hj with hj; subst hj; rw [k3.cell]; rfl
  · simp only [List.mem_cons, List.not_mem_nil, or_false] at hr
    rcases hr with rfl | rfl
    · exact ⟨k2.fit, Nat.le_refl _⟩
    · exact ⟨k1.fit, Nat.le_refl _⟩
theorem sum_c_ab (w : World) (hkst : Kst w) : Calls Tryd.prog 9 #[.slice (some ⟨w.heap.size + 1 + 1, 0, none⟩) 2 2] (((w.alloc (.cells #[.int .u8 99] 5 (1, 2))).alloc (.cells #[.int .u8 97, .int .u8 98] 5 (2, 3))).alloc (.cells #[.slice (some ⟨w.heap.size + 1, 0, none⟩) 2 2, .slice (some ⟨w.heap.size, 0, none⟩) 1 1] 29)) fun e w' => e = .returned (.agg (intsA .u8 abcH)) ∧ Below w.heap.size w w' := by
  have hr := rows2x w [97, 98] [99]
  obtain ⟨rs, hrs⟩ : ∃ rs : List Row, [⟨some ⟨w.heap.size + 1, 0, none⟩, [(97 : Int), 98].length, [(97 : Int), 98].length, [97, 98]⟩, ⟨some ⟨w.heap.size, 0, none⟩, [(99 : Int)].length, [(99 : Int)].length, [99]⟩] = rs := ⟨_, rfl⟩
  rw [hrs] at hr
  have hj : joinL rs = [97, 98, 99] := by rw [← hrs]; rfl
  have hk : RowsOk rs := by rw [← hrs]; exact ⟨by simp, by simp⟩
  have h := qsum_c _ 2 2 rs _ hr (Nat.le_refl _) hk (((hkst.alloc _).alloc _).alloc _)
  rw [hj, abc_sum] at h
  refine h.mono ?_
  rintro e w' ⟨rfl, hb⟩
  exact ⟨rfl, below_alloc3 hb⟩
theorem sum_ab_c (w : World) (hkst : Kst w) : Calls Tryd.prog 9 #[.slice (some ⟨w.heap.size + 1 + 1, 0, none⟩) 2 2] (((w.alloc (.cells #[.int .u8 97, .int .u8 98] 5 (2, 3))).alloc (.cells #[.int .u8 99] 5 (1, 2))).alloc (.cells #[.slice (some ⟨w.heap.size, 0, none⟩) 2 2, .slice (some ⟨w.heap.size + 1, 0, none⟩) 1 1] 29)) fun e w' => e = .returned (.agg (intsA .u8 abcH)) ∧ Below w.heap.size w w' := by
  have hr := rows2 w [97, 98] [99]
  obtain ⟨rs, hrs⟩ : ∃ rs : List Row, [⟨some ⟨w.heap.size, 0, none⟩, [(97 : Int), 98].length, [(97 : Int), 98].length, [97, 98]⟩, ⟨some ⟨w.heap.size + 1, 0, none⟩, [(99 : Int)].length, [(99 : Int)].length, [99]⟩] = rs := ⟨_, rfl⟩
  rw [hrs] at hr
  have hj : joinL rs = [97, 98, 99] := by rw [← hrs]; rfl
  have hk : RowsOk rs := by rw [← hrs]; exact ⟨by simp, by simp⟩
  have h := qsum_c _ 2 2 rs _ hr (Nat.le_refl _) hk (((hkst.alloc _).alloc _).alloc _)
  rw [hj, abc_sum] at h
  refine h.mono ?_
  rintro e w' ⟨rfl, hb⟩
  exact ⟨rfl, below_alloc3 hb⟩
theorem sum_nil (w : World) (hkst : Kst w) : Calls Tryd.prog 9 #[.slice none 0 0] w fun e w' => e = .returned (.agg (intsA .u8 nilH)) ∧ Below w.heap.size w w' :=
  qsum_c none 0 0 [] w ⟨rfl, fun h => absurd h (by omega), fun _ h => by cases h⟩ (Nat.le_refl _) ⟨by simp, fun _ h => by cases h⟩ hkst
def nilT : ByteArray := strB (textL nilH)
theorem txt_nil (w : World) : Calls Tryd.prog 24 #[.agg (intsA .u8 nilH)] w fun e w' => e = .returned (.string nilT) ∧ Below w.heap.size w w' :=
  qtext_c nilH (shaL_len _) (shaL_in _) w
theorem cut_nil (w : World) : (Instr.sliceAt 9 (.string nilT) none (some (.int .i64 8)) none).run Tryd.prog w = .ok (.string ⟨#[101, 51, 98, 48, 99, 52, 52, 50]⟩) w := by
  have e1 : nilT.size = 64 := by unfold nilT; rw [strB_size, textL_len, show nilH.length = 32 from shaL_len _]
  have e2 : nilT.extract 0 8 = (⟨#[101, 51, 98, 48, 99, 52, 52, 50]⟩ : ByteArray) := nil_text
  simp [Instr.sliceAt, Instr.slice, run_underlying Tryd.underlying9, Instr.sliceBounds, Instr.sliceBound, asIntOf, e1, go_sem]
  exact e2
def regOps (n : Nat) : Code → Option (Array Oper)
  | .region i ops _ => if i = n then some ops else none
  | .seq a b => (regOps n a).orElse fun _ => regOps n b
  | .cond _ a b => (regOps n a).orElse fun _ => regOps n b
  | .block _ b => regOps n b
  | .loop b => regOps n b
  | .scope b => regOps n b
  | _ => none
noncomputable def ops7 : Array Oper := (Tryd.f7.body.bind (regOps 7)).getD #[]
def listed51 : Array Bool := (List.replicate 51 true ++ List.replicate 26 false).toArray
theorem wpAnyH_turn {P : Program} {md : Region.Mode} {ops ops' : Array Oper} {Q : Exit → Act → World → Prop} {S : World → Prop} {fuel fuel' : Nat} {listed listed' : Array Bool} {a : Act} {w : World} (ho : ops = ops') (hf : fuel = fuel') (hl : listed = listed') (h : wpAnyH P md ops' Q S fuel' listed' a w) : wpAnyH P md ops Q S fuel listed a w := by subst ho hf hl; exact h
theorem frame125 (t : Array Value) (h : t.size = 125) : t = #[t.getD 0 undef, t.getD 1 undef, t.getD 2 undef, t.getD 3 undef, t.getD 4 undef, t.getD 5 undef, t.getD 6 undef, t.getD 7 undef, t.getD 8 undef, t.getD 9 undef, t.getD 10 undef, t.getD 11 undef, t.getD 12 undef, t.getD 13 undef, t.getD 14 undef, t.getD 15 undef, t.getD 16 undef, t.getD 17 undef, t.getD 18 undef, t.getD 19 undef, t.getD 20 undef, t.getD 21 undef, t.getD 22 undef, t.getD 23 undef, t.getD 24 undef, t.getD 25 undef, t.getD 26 undef, t.getD 27 undef, t.getD 28 undef, t.getD 29 undef, t.getD 30 undef, t.getD 31 undef, t.getD 32 undef, t.getD 33 undef, t.getD 34 undef, t.getD 35 undef, t.getD 36 undef, t.getD 37 undef, t.getD 38 undef, t.getD 39 undef, t.getD 40 undef, t.getD 41 undef, t.getD 42 undef, t.getD 43 undef, t.getD 44 undef, t.getD 45 undef, t.getD 46 undef, t.getD 47 undef, t.getD 48 undef, t.getD 49 undef, t.getD 50 undef, t.getD 51 undef, t.getD 52 undef, t.getD 53 undef, t.getD 54 undef, t.getD 55 undef, t.getD 56 undef, t.getD 57 undef, t.getD 58 undef, t.getD 59 undef, t.getD 60 undef, t.getD 61 undef, t.getD 62 undef, t.getD 63 undef, t.getD 64 undef, t.getD 65 undef, t.getD 66 undef, t.getD 67 undef, t.getD 68 undef, t.getD 69 undef, t.getD 70 undef, t.getD 71 undef, t.getD 72 undef, t.getD 73 undef, t.getD 74 undef, t.getD 75 undef, t.getD 76 undef, t.getD 77 undef, t.getD 78 undef, t.getD 79 undef, t.getD 80 undef, t.getD 81 undef, t.getD 82 undef, t.getD 83 undef, t.getD 84 undef, t.getD 85 undef, t.getD 86 undef, t.getD 87 undef, t.getD 88 undef, t.getD 89 undef, t.getD 90 undef, t.getD 91 undef, t.getD 92 undef, t.getD 93 undef, t.getD 94 undef, t.getD 95 undef, t.getD 96 undef, t.getD 97 undef, t.getD 98 undef, t.getD 99 undef, t.getD 100 undef, t.getD 101 undef, t.getD 102 undef, t.getD 103 undef, t.getD 104 undef, t.getD 105 undef, t.getD 106 undef, t.getD 107 undef, t.getD 108 undef, t.getD 109 undef, t.getD 110 undef, t.getD 111 undef, t.getD 112 undef, t.getD 113 undef, t.getD 114 undef, t.getD 115 undef, t.getD 116 undef, t.getD 117 undef, t.getD 118 undef, t.getD 119 undef, t.getD 120 undef, t.getD 121 undef, t.getD 122 undef, t.getD 123 undef, t.getD 124 undef] := by
  have e : t.toList = (List.range 125).map fun i => t.getD i undef := by
    apply List.ext_getElem?
    intro i
    rcases Nat.lt_or_ge i 125 with hi | hi
    · rw [List.getElem?_map, List.getElem?_range hi, Option.map_some, Array.getElem?_toList, Array.getElem?_eq_getElem (by omega)]
      simp [Array.getD, h, hi]
    · rw [List.getElem?_eq_none (by simp; omega), List.getElem?_eq_none (by simp; omega)]
  have e2 : t = ((List.range 125).map fun i => t.getD i undef).toArray := by rw [← e]
  exact e2.trans (by kernel_rfl)
set_option maxRecDepth 100000 in
set_option maxHeartbeats 4000000 in
theorem alive_tail (w w23 : World) (hkst : Kst w) (g1 g3 g5 g7 : Nat) (A1 A3 : Option Addr) (c1 c3 : Nat) (hc1 : 2 ≤ c1) (hc3 : 3 ≤ c3) (V1 V3 : Array Value) (hV1 : wrV startL A1 2 c1 2 = V1) (hV3 : wrV startL A3 3 c3 3 = V3) (Q : Exit → Act → World → Prop)
    (hP : ∀ c a d v w, Q (.panic c) (Act.put a d v) w → Q (.panic c) a w) (hQ : ∀ (a' : Act) (w' : World), A5 w g1 g3 g5 g7 V1 V3 A1 A3 w' → a'.tmps.getD 0 undef = .bool true → a'.defers = [] → Q .normal a' w')
    (a : Act) (hsz : a.tmps.size = 125) (hd : a.defers = []) (h1 : a.tmps.getD 1 undef = .pointer (some ⟨g1, 0, none⟩)) (h3' : a.tmps.getD 3 undef = .pointer (some ⟨g3, 0, none⟩)) (h99 : a.tmps.getD 99 undef = .bool true) (h3 : A5 w g1 g3 g5 g7 V1 V3 A1 A3 w23) :
    wpAnyH Tryd.prog .any ops7 Q (A5 w g1 g3 g5 g7 V1 V3 A1 A3) 26 listed51 a w23 := by
  obtain ⟨t, ds⟩ := a
  dsimp only at hsz hd h1 h3' h99
  subst hd
  rw [frame125 t hsz]
  obtain ⟨u, hu⟩ : ∃ u : Nat → Value, ∀ i, t.getD i undef = u i := ⟨_, fun _ => rfl⟩
  simp only [hu] at h1 h3' h99 ⊢
  rw [h1, h3', h99]
  have SN := sum_nil
  have TN := txt_nil
  have CN := cut_nil
  have RV := fun W => qrightw_c startL rfl A3 3 c3 3 (by omega) (by omega) (by omega) W
  have RN := fun W => qrightw_c Z8 rfl none 0 0 1 (by omega) (by omega) (by omega) W
  rw [show rightB 3 3 = true from rfl, hV3] at RV
  rw [show rightB 0 1 = false from rfl] at RN
  have SV1 := Lib.hid (sizedW startL rfl A1 2 c1 2)
  have SV3 := Lib.hid (sizedW startL rfl A3 3 c3 3)
  have S33 := Lib.hid (fun W h => qsamew_c startL startL [97, 98, 99] [97, 98, 99] rfl rfl A3 A3 3 3 c3 c3 hc3 hc3 3 3 W h h (by decide) (by decide))
  have S31 := Lib.hid (fun W h h' => qsamew_c startL startL [97, 98, 99] [97, 98] rfl rfl A3 A1 3 2 c3 c1 hc3 hc1 3 2 W h h' (by decide) (by decide))
  rw [show sameB startL startL [97, 98, 99] [97, 98, 99] 3 3 = true by decide +kernel] at S33
  rw [show sameB startL startL [97, 98, 99] [97, 98] 3 2 = false by decide +kernel] at S31
  rw [hV1] at SV1 S31
  rw [hV3] at SV3 S33 S31
  clear hV1 hV3 hu h1 h3' h99 hsz
  simp only [ops7, Tryd.f7, regOps, Option.bind_some, Option.getD_some, Option.orElse, if_true, if_false, reduceIte, Nat.reduceEqDiff]
  refine wpAnyH_ready (rs := [51]) (by kernel_rfl) (by decide) ?_
  refine AllReadyH.cons rfl (fun K hK => ?_) AllReadyH.nil
  go_simp
  refine (SN _ (hkst.below h3.2.2.2.2.2.2)).mono ?_
  rintro e w24 ⟨rfl, hbw24⟩
  refine hK.out _ _ (h3.below hbw24) (fun h4 => ?_)
  clear hK K
  try simp only [Act.put, List.setIfInBounds_toArray, List.set_cons_zero, List.set_cons_succ]
  refine wpAnyH_ready (rs := [52]) (by kernel_rfl) (by decide) ?_
  refine AllReadyH.cons rfl (fun K hK => ?_) AllReadyH.nil
  go_simp
  refine (TN _).mono ?_
  rintro e w25 ⟨rfl, hbw25⟩
  refine hK.out _ _ (h4.below hbw25) (fun h5 => ?_)
  clear hK K
  try simp only [Act.put, List.setIfInBounds_toArray, List.set_cons_zero, List.set_cons_succ]
  refine held_val 53 rfl (by kernel_rfl) (by kernel_rfl) (by kernel_rfl) (fun c a v w => hP c a _ v w) (by kernel_rfl) (.string ⟨#[101, 51, 98, 48, 99, 52, 52, 50]⟩) (fun W h => by have q := CN W; go_simp) h5 ?_
  try simp only [Act.put, List.setIfInBounds_toArray, List.set_cons_zero, List.set_cons_succ]
  refine held_val 54 rfl (by kernel_rfl) (by kernel_rfl) (by kernel_rfl) (fun c a v w => hP c a _ v w) (by kernel_rfl) (.bool true) (fun W h => by go_simp) h5 ?_
  try simp only [Act.put, List.setIfInBounds_toArray, List.set_cons_zero, List.set_cons_succ]
  refine held_val 55 rfl (by kernel_rfl) (by kernel_rfl) (by kernel_rfl) (fun c a v w => hP c a _ v w) (by kernel_rfl) (.bool true) (fun W h => by go_simp) h5 ?_
  try simp only [Act.put, List.setIfInBounds_toArray, List.set_cons_zero, List.set_cons_succ]
  refine held_val 56 rfl (by kernel_rfl) (by kernel_rfl) (by kernel_rfl) (fun c a v w => hP c a _ v w) (by kernel_rfl) (.bool true) (fun W h => by go_simp) h5 ?_
  try simp only [Act.put, List.setIfInBounds_toArray, List.set_cons_zero, List.set_cons_succ]
  refine held_load_blk 57 rfl (by kernel_rfl) (by kernel_rfl) (by kernel_rfl) (fun c a v w => hP c a _ v w) (by kernel_rfl) 36 (.tmp 3) rfl g3 (by kernel_rfl) 36 V3 (fun _ h => h.2.1) _ Tryd.underlying36 rfl SV3.out h5 ?_
  try simp only [Act.put, List.setIfInBounds_toArray, List.set_cons_zero, List.set_cons_succ]
  refine wpAnyH_ready (rs := [58]) (by kernel_rfl) (by decide) ?_
  refine AllReadyH.cons rfl (fun K hK => ?_) AllReadyH.nil
  go_simp
  refine (RV _).mono ?_
  rintro e w26 ⟨rfl, hbw26⟩
  refine hK.out _ _ (h5.below hbw26) (fun h6 => ?_)
  clear hK K
  try simp only [Act.put, List.setIfInBounds_toArray, List.set_cons_zero, List.set_cons_succ]
  refine held_val 59 rfl (by kernel_rfl) (by kernel_rfl) (by kernel_rfl) (fun c a v w => hP c a _ v w) (by kernel_rfl) (.bool true) (fun W h => by go_simp) h6 ?_
  try simp only [Act.put, List.setIfInBounds_toArray, List.set_cons_zero, List.set_cons_succ]
  refine held_val 60 rfl (by kernel_rfl) (by kernel_rfl) (by kernel_rfl) (fun c a v w => hP c a _ v w) (by kernel_rfl) (.bool true) (fun W h => by go_simp) h6 ?_
  try simp only [Act.put, List.setIfInBounds_toArray, List.set_cons_zero, List.set_cons_succ]
  refine held_val 61 rfl (by kernel_rfl) (by kernel_rfl) (by kernel_rfl) (fun c a v w => hP c a _ v w) (by kernel_rfl) (.agg (wrV Z8 none 0 0 1)) (fun W h => build_bytes W rfl) h6 ?_
  try simp only [Act.put, List.setIfInBounds_toArray, List.set_cons_zero, List.set_cons_succ]
  refine wpAnyH_ready (rs := [62]) (by kernel_rfl) (by decide) ?_
  refine AllReadyH.cons rfl (fun K hK => ?_) AllReadyH.nil
  go_simp
  refine (RN _).mono ?_
  rintro e w27 ⟨rfl, hbw27⟩
  refine hK.out _ _ (h6.below hbw27) (fun h7 => ?_)
  clear hK K
  try simp only [Act.put, List.setIfInBounds_toArray, List.set_cons_zero, List.set_cons_succ]
  refine held_val 63 rfl (by kernel_rfl) (by kernel_rfl) (by kernel_rfl) (fun c a v w => hP c a _ v w) (by kernel_rfl) (.bool true) (fun W h => by go_simp) h7 ?_
  try simp only [Act.put, List.setIfInBounds_toArray, List.set_cons_zero, List.set_cons_succ]
  refine held_val 64 rfl (by kernel_rfl) (by kernel_rfl) (by kernel_rfl) (fun c a v w => hP c a _ v w) (by kernel_rfl) (.bool true) (fun W h => by go_simp) h7 ?_
  try simp only [Act.put, List.setIfInBounds_toArray, List.set_cons_zero, List.set_cons_succ]
  refine held_val 65 rfl (by kernel_rfl) (by kernel_rfl) (by kernel_rfl) (fun c a v w => hP c a _ v w) (by kernel_rfl) (.bool true) (fun W h => by go_simp) h7 ?_
  try simp only [Act.put, List.setIfInBounds_toArray, List.set_cons_zero, List.set_cons_succ]
  refine held_load_blk 66 rfl (by kernel_rfl) (by kernel_rfl) (by kernel_rfl) (fun c a v w => hP c a _ v w) (by kernel_rfl) 36 (.tmp 3) rfl g3 (by kernel_rfl) 36 V3 (fun _ h => h.2.1) _ Tryd.underlying36 rfl SV3.out h7 ?_
  try simp only [Act.put, List.setIfInBounds_toArray, List.set_cons_zero, List.set_cons_succ]
  refine held_load_blk 67 rfl (by kernel_rfl) (by kernel_rfl) (by kernel_rfl) (fun c a v w => hP c a _ v w) (by kernel_rfl) 36 (.tmp 3) rfl g3 (by kernel_rfl) 36 V3 (fun _ h => h.2.1) _ Tryd.underlying36 rfl SV3.out h7 ?_
  try simp only [Act.put, List.setIfInBounds_toArray, List.set_cons_zero, List.set_cons_succ]
  refine wpAnyH_ready (rs := [68]) (by kernel_rfl) (by decide) ?_
  refine AllReadyH.cons rfl (fun K hK => ?_) AllReadyH.nil
  go_simp
  refine (S33.out _ h7.2.2.2.2.2.1).mono ?_
  rintro e w28 ⟨rfl, hbw28⟩
  refine hK.out _ _ (h7.below hbw28) (fun h8 => ?_)
  clear hK K
  try simp only [Act.put, List.setIfInBounds_toArray, List.set_cons_zero, List.set_cons_succ]
  refine held_val 69 rfl (by kernel_rfl) (by kernel_rfl) (by kernel_rfl) (fun c a v w => hP c a _ v w) (by kernel_rfl) (.bool true) (fun W h => by go_simp) h8 ?_
  try simp only [Act.put, List.setIfInBounds_toArray, List.set_cons_zero, List.set_cons_succ]
  refine held_val 70 rfl (by kernel_rfl) (by kernel_rfl) (by kernel_rfl) (fun c a v w => hP c a _ v w) (by kernel_rfl) (.bool true) (fun W h => by go_simp) h8 ?_
  try simp only [Act.put, List.setIfInBounds_toArray, List.set_cons_zero, List.set_cons_succ]
  refine held_load_blk 71 rfl (by kernel_rfl) (by kernel_rfl) (by kernel_rfl) (fun c a v w => hP c a _ v w) (by kernel_rfl) 36 (.tmp 3) rfl g3 (by kernel_rfl) 36 V3 (fun _ h => h.2.1) _ Tryd.underlying36 rfl SV3.out h8 ?_
  try simp only [Act.put, List.setIfInBounds_toArray, List.set_cons_zero, List.set_cons_succ]
  refine held_load_blk 72 rfl (by kernel_rfl) (by kernel_rfl) (by kernel_rfl) (fun c a v w => hP c a _ v w) (by kernel_rfl) 36 (.tmp 1) rfl g1 (by kernel_rfl) 36 V1 (fun _ h => h.1) _ Tryd.underlying36 rfl SV1.out h8 ?_
  try simp only [Act.put, List.setIfInBounds_toArray, List.set_cons_zero, List.set_cons_succ]
  refine wpAnyH_ready (rs := [73]) (by kernel_rfl) (by decide) ?_
  refine AllReadyH.cons rfl (fun K hK => ?_) AllReadyH.nil
  go_simp
  refine (S31.out _ h8.2.2.2.2.2.1 h8.2.2.2.2.1).mono ?_
  rintro e w29 ⟨rfl, hbw29⟩
  refine hK.out _ _ (h8.below hbw29) (fun h9 => ?_)
  clear hK K
  try simp only [Act.put, List.setIfInBounds_toArray, List.set_cons_zero, List.set_cons_succ]
  refine held_val 74 rfl (by kernel_rfl) (by kernel_rfl) (by kernel_rfl) (fun c a v w => hP c a _ v w) (by kernel_rfl) (.bool true) (fun W h => by go_simp) h9 ?_
  refine held_val 75 rfl (by kernel_rfl) (by kernel_rfl) (by kernel_rfl) (fun c a v w => hP c a _ v w) (by kernel_rfl) (.bool true) (fun W h => by go_simp) h9 ?_
  refine held_val 76 rfl (by kernel_rfl) (by kernel_rfl) (by kernel_rfl) (fun c a v w => hP c a _ v w) (by kernel_rfl) (.bool true) (fun W h => by go_simp) h9 ?_
  refine wpAnyH_done (by kernel_rfl) ?_ _
  exact hQ _ _ h9 (by kernel_rfl) (by kernel_rfl)

set_option maxRecDepth 100000 in
set_option maxHeartbeats 8000000 in
theorem alive5_c (w : World) (hkst : Kst w) : Calls Tryd.prog 7 #[] w fun e w' => e = .returned (.bool true) ∧ Below w.heap.size w w' := by
  have HKST := Lib.hid hkst
  clear hkst
  go_enter Tryd.func7, Tryd.ntmps7
  go_wp2_with (first
    | (go_at_call 20; (with_reducible refine (qnew_c w).mono ?_); rintro e w1 ⟨rfl, hb1⟩; have bl1 := Lib.hid hb1; have x1 := cv1 w1 97; have x2 := cv2 w1 (.cells #[.int .u8 97] 5 (1, 2)) 98)
    | (go_at_call 12; (with_reducible refine (wr_ab w1 (HKST.out.below bl1.out)).mono ?_); rintro e w2 ⟨A1, c1, rfl, hr2, hc1, hb2⟩; have bl2 := Lib.hid (bl1.out.trans (hb2.mono bl1.out.size)); have rd2 := Lib.hid hr2; clear hr2 x1 x2)
    | (with_reducible refine at_any ?_; refine at_dst 1 rfl ?_; refine wpList_alloc_any rfl 36 rfl (wrV Z8 none 0 0 0) zero_wr ?_; intro w3 k3' hs3 hb3; have bl3 := Lib.hid (bl2.out.trans (hb3.mono bl2.out.size)); have rd3' := Lib.hid (rd2.out.below hb3))
    | (with_reducible refine at_any ?_; refine at_store 1 rfl ?_; refine wpList_store_any rfl 36 (.tmp 1) (.tmp 21) rfl w2.heap.size rfl 36 (wrV Z8 none 0 0 0) (wrV startL A1 2 c1 2) k3'.out rfl (zsize _ _ _ _) (sizedW startL rfl _ _ _ _) (wrV_ones _ _ _ _ _) ?_; intro w4 k1 hs4 hb4 ho4; have bl4 := Lib.hid (bl3.out.trans (hb4 _ bl2.out.size)); have rd4 := Lib.hid ((rd3'.out.below (hb4 _ (Nat.le_refl _))).fit); have x3 := cv1 w4 99)
    | (with_reducible refine at_any ?_; refine at_dst 24 rfl ?_; refine wpList_load_blk rfl 36 (.tmp 1) rfl w2.heap.size rfl 36 (wrV startL A1 2 c1 2) k1.out _ Tryd.underlying36 rfl (sizedW startL rfl _ _ _ _) ?_)
    | (go_at_call 12; (with_reducible refine (wr_c w4 A1 c1 rd4.out hc1 (HKST.out.below bl4.out)).mono ?_); rintro e w5 ⟨A3, c3, rfl, hr5, hc3, hb5⟩; have bl5 := Lib.hid (bl4.out.trans (hb5.mono bl4.out.size)); have rd5 := Lib.hid hr5; have ra5 := Lib.hid ((rd4.out.below hb5).fit); have k1a := Lib.hid (k1.out.below hb5 k1.out.lt); clear hr5 x3)
    | (with_reducible refine at_any ?_; refine at_dst 3 rfl ?_; refine wpList_alloc_any rfl 36 rfl (wrV Z8 none 0 0 0) zero_wr ?_; intro w6 k6' hs6 hb6; have bl6 := Lib.hid (bl5.out.trans (hb6.mono bl5.out.size)); have rd6' := Lib.hid (rd5.out.below hb6); have ra6' := Lib.hid (ra5.out.below hb6); have k1b := Lib.hid (k1a.out.below hb6 k1a.out.lt))
    | (with_reducible refine at_any ?_; refine at_store 3 rfl ?_; refine wpList_store_any rfl 36 (.tmp 3) (.tmp 29) rfl w5.heap.size rfl 36 (wrV Z8 none 0 0 0) (wrV startL A3 3 c3 3) k6'.out rfl (zsize _ _ _ _) (sizedW startL rfl _ _ _ _) (wrV_ones _ _ _ _ _) ?_; intro w7 k3 hs7 hb7 ho7; have bl7 := Lib.hid (bl6.out.trans (hb7 _ bl5.out.size)); have rd7 := Lib.hid ((rd6'.out.below (hb7 _ (Nat.le_refl _))).fit); have ra7 := Lib.hid ((ra6'.out.below (hb7 _ (Nat.le_refl _))).fit); have k1c := Lib.hid (k1b.out.below (hb7 _ (Nat.le_refl _)) k1a.out.lt))
    | (with_reducible refine at_any ?_; refine at_dst 32 rfl ?_; refine wpList_load_blk rfl 36 (.tmp 3) rfl w5.heap.size rfl 36 (wrV startL A3 3 c3 3) k3.out _ Tryd.underlying36 rfl (sizedW startL rfl _ _ _ _) ?_)
    | (go_at_call 14; (with_reducible refine (fin_abc w7 A3 c3 rd7.out hc3 (HKST.out.below bl7.out)).mono ?_); rintro e w8 ⟨rfl, hb8⟩; have bl8 := Lib.hid (bl7.out.trans (hb8.mono bl7.out.size)); have rd8 := Lib.hid ((rd7.out.below hb8).fit); have ra8 := Lib.hid ((ra7.out.below hb8).fit); have k1d := Lib.hid (k1c.out.below hb8 k1c.out.lt); have k3d := Lib.hid (k3.out.below hb8 k3.out.lt))
    | (with_reducible refine at_any ?_; refine at_dst 5 rfl ?_; refine wpList_alloc_ints rfl 26 rfl .u8 Z32 zero_h32 ?_; intro w9 k9' hs9 hb9; have bl9 := Lib.hid (bl8.out.trans (hb9.mono bl8.out.size)); have rd9' := Lib.hid (rd8.out.below hb9); have ra9' := Lib.hid (ra8.out.below hb9); have k1e := Lib.hid (k1d.out.below hb9 k1d.out.lt); have k3e := Lib.hid (k3d.out.below hb9 k3d.out.lt))
    | (with_reducible refine at_any ?_; refine at_store 5 rfl ?_; refine wpList_store_ints rfl 26 (.tmp 5) (.tmp 34) rfl w8.heap.size rfl 26 .u8 Z32 abcH k9'.out rfl len_za size_abc ?_; intro w10 k5 hs10 hb10 ho10; have bl10 := Lib.hid (bl9.out.trans (hb10 _ bl8.out.size)); have rd10 := Lib.hid ((rd9'.out.below (hb10 _ (Nat.le_refl _))).fit); have ra10 := Lib.hid ((ra9'.out.below (hb10 _ (Nat.le_refl _))).fit); have k1f := Lib.hid (k1e.out.below (hb10 _ (Nat.le_refl _)) k1d.out.lt); have k3f := Lib.hid (k3e.out.below (hb10 _ (Nat.le_refl _)) k3d.out.lt))
    | (go_at_call 22; (with_reducible refine (par_abc w10).mono ?_); rintro e w11 ⟨rfl, hb11⟩; have bl11 := Lib.hid (bl10.out.trans (hb11.mono bl10.out.size)); have rd11 := Lib.hid ((rd10.out.below hb11).fit); have ra11 := Lib.hid ((ra10.out.below hb11).fit); have k1g := Lib.hid (k1f.out.below hb11 k1f.out.lt); have k3g := Lib.hid (k3f.out.below hb11 k3f.out.lt); have k5g := Lib.hid (k5.out.below hb11 k5.out.lt))
    | (with_reducible refine at_any ?_; refine at_dst 7 rfl ?_; refine wpList_alloc_ints rfl 26 rfl .u8 Z32 zero_h32 ?_; intro w12 k12' hs12 hb12; have bl12 := Lib.hid (bl11.out.trans (hb12.mono bl11.out.size)); have rd12' := Lib.hid (rd11.out.below hb12); have ra12' := Lib.hid (ra11.out.below hb12); have k1h := Lib.hid (k1g.out.below hb12 k1g.out.lt); have k3h := Lib.hid (k3g.out.below hb12 k3g.out.lt); have k5h := Lib.hid (k5g.out.below hb12 k5g.out.lt))
    | (with_reducible refine at_any ?_; refine at_store 7 rfl ?_; refine wpList_store_ints rfl 26 (.tmp 7) (.tmp 38) rfl w11.heap.size rfl 26 .u8 Z32 abcH k12'.out rfl len_za size_abc ?_; intro w13 k7 hs13 hb13 ho13; have bl13 := Lib.hid (bl12.out.trans (hb13 _ bl11.out.size)); have rd13 := Lib.hid ((rd12'.out.below (hb13 _ (Nat.le_refl _))).fit); have ra13 := Lib.hid ((ra12'.out.below (hb13 _ (Nat.le_refl _))).fit); have k1i := Lib.hid (k1h.out.below (hb13 _ (Nat.le_refl _)) k1g.out.lt); have k3i := Lib.hid (k3h.out.below (hb13 _ (Nat.le_refl _)) k3g.out.lt); have k5i := Lib.hid (k5h.out.below (hb13 _ (Nat.le_refl _)) k5g.out.lt))
    | (go_at_call 22; (with_reducible refine (par_zz w13).mono ?_); rintro e w14 ⟨rfl, hb14⟩; have bl14 := Lib.hid (bl13.out.trans (hb14.mono bl13.out.size)); have rd14 := Lib.hid ((rd13.out.below hb14).fit); have ra14 := Lib.hid ((ra13.out.below hb14).fit); have k1j := Lib.hid (k1i.out.below hb14 k1i.out.lt); have k3j := Lib.hid (k3i.out.below hb14 k3i.out.lt); have k5j := Lib.hid (k5i.out.below hb14 k5i.out.lt); have k7j := Lib.hid (k7.out.below hb14 k7.out.lt))
    | (with_reducible refine at_any ?_; refine at_dst 9 rfl ?_; refine wpList_alloc_ints rfl 26 rfl .u8 Z32 zero_h32 ?_; intro w15 k15' hs15 hb15; have bl15 := Lib.hid (bl14.out.trans (hb15.mono bl14.out.size)); have rd15' := Lib.hid (rd14.out.below hb15); have ra15' := Lib.hid (ra14.out.below hb15); have k1k := Lib.hid (k1j.out.below hb15 k1j.out.lt); have k3k := Lib.hid (k3j.out.below hb15 k3j.out.lt); have k5k := Lib.hid (k5j.out.below hb15 k5j.out.lt); have k7k := Lib.hid (k7j.out.below hb15 k7j.out.lt))
    | (with_reducible refine at_any ?_; refine at_store 9 rfl ?_; refine wpList_store_ints rfl 26 (.tmp 9) (.tmp 42) rfl w14.heap.size rfl 26 .u8 Z32 Z32 k15'.out rfl rfl size_z32 ?_; intro w16 k9 hs16 hb16 ho16; have bl16 := Lib.hid (bl15.out.trans (hb16 _ bl14.out.size)); have rd16 := Lib.hid ((rd15'.out.below (hb16 _ (Nat.le_refl _))).fit); have ra16 := Lib.hid ((ra15'.out.below (hb16 _ (Nat.le_refl _))).fit); have k1l := Lib.hid (k1k.out.below (hb16 _ (Nat.le_refl _)) k1j.out.lt); have k3l := Lib.hid (k3k.out.below (hb16 _ (Nat.le_refl _)) k3j.out.lt); have k5l := Lib.hid (k5k.out.below (hb16 _ (Nat.le_refl _)) k5j.out.lt); have k7l := Lib.hid (k7k.out.below (hb16 _ (Nat.le_refl _)) k7j.out.lt))
    | (with_reducible refine at_any ?_; refine at_dst 45 rfl ?_; refine wpList_val rfl (.agg (wrV Z8 none 0 0 1)) (build_bytes _ rfl) ?_)
    | (go_at_call 14; (with_reducible refine (fin_no w16).mono ?_); rintro e w17 ⟨rfl, hb17⟩; have bl17 := Lib.hid (bl16.out.trans (hb17.mono bl16.out.size)); have rd17 := Lib.hid ((rd16.out.below hb17).fit); have ra17 := Lib.hid ((ra16.out.below hb17).fit); have k1m := Lib.hid (k1l.out.below hb17 k1l.out.lt); have k3m := Lib.hid (k3l.out.below hb17 k3l.out.lt); have k5m := Lib.hid (k5l.out.below hb17 k5l.out.lt); have k7m := Lib.hid (k7l.out.below hb17 k7l.out.lt))
    | (with_reducible refine at_any ?_; refine at_dst 11 rfl ?_; refine wpList_alloc_ints rfl 26 rfl .u8 Z32 zero_h32 ?_; intro w18 k18' hs18 hb18; have bl18 := Lib.hid (bl17.out.trans (hb18.mono bl17.out.size)); have rd18' := Lib.hid (rd17.out.below hb18); have ra18' := Lib.hid (ra17.out.below hb18); have k1n := Lib.hid (k1m.out.below hb18 k1m.out.lt); have k3n := Lib.hid (k3m.out.below hb18 k3m.out.lt); have k5n := Lib.hid (k5m.out.below hb18 k5m.out.lt); have k7n := Lib.hid (k7m.out.below hb18 k7m.out.lt))
    | (with_reducible refine at_any ?_; refine at_store 11 rfl ?_; refine wpList_store_ints rfl 26 (.tmp 11) (.tmp 47) rfl w17.heap.size rfl 26 .u8 Z32 Z32 k18'.out rfl rfl size_z32 ?_; intro w19 k11 hs19 hb19 ho19; have bl19 := Lib.hid (bl18.out.trans (hb19 _ bl17.out.size)); have rd19 := Lib.hid ((rd18'.out.below (hb19 _ (Nat.le_refl _))).fit); have ra19 := Lib.hid ((ra18'.out.below (hb19 _ (Nat.le_refl _))).fit); have k1o := Lib.hid (k1n.out.below (hb19 _ (Nat.le_refl _)) k1m.out.lt); have k3o := Lib.hid (k3n.out.below (hb19 _ (Nat.le_refl _)) k3m.out.lt); have k5o := Lib.hid (k5n.out.below (hb19 _ (Nat.le_refl _)) k5m.out.lt); have k7o := Lib.hid (k7n.out.below (hb19 _ (Nat.le_refl _)) k7m.out.lt)))
  have HA : A5 w w2.heap.size w5.heap.size w8.heap.size w11.heap.size (wrV startL A1 2 c1 2) (wrV startL A3 3 c3 3) A1 A3 w19 := ⟨k1o.out, k3o.out, k5o.out, k7o.out, ra19.out, rd19.out, bl19.out⟩
  obtain ⟨g1, hg1⟩ : ∃ g, w2.heap.size = g := ⟨_, rfl⟩
  obtain ⟨g3, hg3⟩ : ∃ g, w5.heap.size = g := ⟨_, rfl⟩
  obtain ⟨g5, hg5⟩ : ∃ g, w8.heap.size = g := ⟨_, rfl⟩
  obtain ⟨g7, hg7⟩ : ∃ g, w11.heap.size = g := ⟨_, rfl⟩
  obtain ⟨g9, hg9⟩ : ∃ g, w14.heap.size = g := ⟨_, rfl⟩
  obtain ⟨g11, hg11⟩ : ∃ g, w17.heap.size = g := ⟨_, rfl⟩
  obtain ⟨V1, hV1⟩ : ∃ V, wrV startL A1 2 c1 2 = V := ⟨_, rfl⟩
  obtain ⟨V3, hV3⟩ : ∃ V, wrV startL A3 3 c3 3 = V := ⟨_, rfl⟩
  rw [hg1, hg3, hg5, hg7, hV1, hV3] at HA
  rw [hg1, hg3, hg5, hg7, hg9, hg11, hV1, hV3]
  have TX := txt_abc
  have EH := eq_abc
  have HV1 := Lib.hid hV1
  have HV3 := Lib.hid hV3
  have HC1 := Lib.hid hc1
  have HC3 := Lib.hid hc3
  clear hg1 hg3 hg5 hg7 hg9 hg11 hV1 hV3 hc1 hc3 hb1 bl1 hb2 bl2 hb3 bl3 hb4 bl4 hb5 bl5 hb6 bl6 hb7 bl7 hb8 bl8 hb9 bl9 hb10 bl10 hb11 bl11 hb12 bl12 hb13 bl13 hb14 bl14 hb15 bl15 hb16 bl16 hb17 bl17 hb18 bl18 hb19 bl19 hs3 hs4 hs6 hs7 hs9 hs10 hs12 hs13 hs15 hs16 hs18 hs19 ho4 ho7 ho10 ho13 ho16 ho19 rd2 rd3' rd4 rd5 ra5 rd6' ra6' rd7 ra7 rd8 ra8 rd9' ra9' rd10 ra10 rd11 ra11 rd12' ra12' rd13 ra13 rd14 ra14 rd15' ra15' rd16 ra16 rd17 ra17 rd18' ra18' rd19 ra19 k3' k1 k1a k6' k1b k3 k1c k1d k3d k9' k1e k3e k5 k1f k3f k1g k3g k5g k12' k1h k3h k5h k7 k1i k3i k5i k1j k3j k5j k7j k15' k1k k3k k5k k7k k9 k1l k3l k5l k7l k1m k3m k5m k7m k18' k1n k3n k5n k7n k11 k1o k3o k5o k7o
  refine wp_region_held_drew (S := A5 w g1 g3 g5 g7 V1 V3 A1 A3) (by kernel_rfl) (HA.drew) (fun h0 => ?_)
  refine held_val 0 rfl (by kernel_rfl) (by kernel_rfl) (by kernel_rfl) (fun _ _ _ _ h => h) (by kernel_rfl) (.int .i64 0) (fun W h => by go_simp) h0 ?_
  try simp only [Act.put, List.setIfInBounds_toArray, List.set_cons_zero, List.set_cons_succ]
  refine held_val 1 rfl (by kernel_rfl) (by kernel_rfl) (by kernel_rfl) (fun _ _ _ _ h => h) (by kernel_rfl) (.bool true) (fun W h => by go_simp) h0 ?_
  try simp only [Act.put, List.setIfInBounds_toArray, List.set_cons_zero, List.set_cons_succ]
  refine held_val 2 rfl (by kernel_rfl) (by kernel_rfl) (by kernel_rfl) (fun _ _ _ _ h => h) (by kernel_rfl) (.bool true) (fun W h => by go_simp) h0 ?_
  try simp only [Act.put, List.setIfInBounds_toArray, List.set_cons_zero, List.set_cons_succ]
  refine held_val 3 rfl (by kernel_rfl) (by kernel_rfl) (by kernel_rfl) (fun _ _ _ _ h => h) (by kernel_rfl) (.int .i64 0) (fun W h => by go_simp) h0 ?_
  try simp only [Act.put, List.setIfInBounds_toArray, List.set_cons_zero, List.set_cons_succ]
  refine held_val 4 rfl (by kernel_rfl) (by kernel_rfl) (by kernel_rfl) (fun _ _ _ _ h => h) (by kernel_rfl) (.bool true) (fun W h => by go_simp) h0 ?_
  try simp only [Act.put, List.setIfInBounds_toArray, List.set_cons_zero, List.set_cons_succ]
  refine held_val 5 rfl (by kernel_rfl) (by kernel_rfl) (by kernel_rfl) (fun _ _ _ _ h => h) (by kernel_rfl) (.bool true) (fun W h => by go_simp) h0 ?_
  try simp only [Act.put, List.setIfInBounds_toArray, List.set_cons_zero, List.set_cons_succ]
  refine held_val 6 rfl (by kernel_rfl) (by kernel_rfl) (by kernel_rfl) (fun _ _ _ _ h => h) (by kernel_rfl) (.bool true) (fun W h => by go_simp) h0 ?_
  try simp only [Act.put, List.setIfInBounds_toArray, List.set_cons_zero, List.set_cons_succ]
  refine held_val 7 rfl (by kernel_rfl) (by kernel_rfl) (by kernel_rfl) (fun _ _ _ _ h => h) (by kernel_rfl) (.int .i64 0) (fun W h => by go_simp) h0 ?_
  try simp only [Act.put, List.setIfInBounds_toArray, List.set_cons_zero, List.set_cons_succ]
  refine held_val 8 rfl (by kernel_rfl) (by kernel_rfl) (by kernel_rfl) (fun _ _ _ _ h => h) (by kernel_rfl) (.bool true) (fun W h => by go_simp) h0 ?_
  try simp only [Act.put, List.setIfInBounds_toArray, List.set_cons_zero, List.set_cons_succ]
  refine held_val 9 rfl (by kernel_rfl) (by kernel_rfl) (by kernel_rfl) (fun _ _ _ _ h => h) (by kernel_rfl) (.bool true) (fun W h => by go_simp) h0 ?_
  try simp only [Act.put, List.setIfInBounds_toArray, List.set_cons_zero, List.set_cons_succ]
  refine held_val 10 rfl (by kernel_rfl) (by kernel_rfl) (by kernel_rfl) (fun _ _ _ _ h => h) (by kernel_rfl) (.bool true) (fun W h => by go_simp) h0 ?_
  try simp only [Act.put, List.setIfInBounds_toArray, List.set_cons_zero, List.set_cons_succ]
  refine held_val 11 rfl (by kernel_rfl) (by kernel_rfl) (by kernel_rfl) (fun _ _ _ _ h => h) (by kernel_rfl) (.int .i64 0) (fun W h => by go_simp) h0 ?_
  try simp only [Act.put, List.setIfInBounds_toArray, List.set_cons_zero, List.set_cons_succ]
  refine held_val 12 rfl (by kernel_rfl) (by kernel_rfl) (by kernel_rfl) (fun _ _ _ _ h => h) (by kernel_rfl) (.bool true) (fun W h => by go_simp) h0 ?_
  try simp only [Act.put, List.setIfInBounds_toArray, List.set_cons_zero, List.set_cons_succ]
  refine held_val 13 rfl (by kernel_rfl) (by kernel_rfl) (by kernel_rfl) (fun _ _ _ _ h => h) (by kernel_rfl) (.bool true) (fun W h => by go_simp) h0 ?_
  try simp only [Act.put, List.setIfInBounds_toArray, List.set_cons_zero, List.set_cons_succ]
  refine held_val 14 rfl (by kernel_rfl) (by kernel_rfl) (by kernel_rfl) (fun _ _ _ _ h => h) (by kernel_rfl) (.bool true) (fun W h => by go_simp) h0 ?_
  try simp only [Act.put, List.setIfInBounds_toArray, List.set_cons_zero, List.set_cons_succ]
  refine held_val 15 rfl (by kernel_rfl) (by kernel_rfl) (by kernel_rfl) (fun _ _ _ _ h => h) (by kernel_rfl) (.int .i64 2) (fun W h => by go_simp) h0 ?_
  try simp only [Act.put, List.setIfInBounds_toArray, List.set_cons_zero, List.set_cons_succ]
  refine held_val 16 rfl (by kernel_rfl) (by kernel_rfl) (by kernel_rfl) (fun _ _ _ _ h => h) (by kernel_rfl) (.bool true) (fun W h => by go_simp) h0 ?_
  try simp only [Act.put, List.setIfInBounds_toArray, List.set_cons_zero, List.set_cons_succ]
  refine held_val 17 rfl (by kernel_rfl) (by kernel_rfl) (by kernel_rfl) (fun _ _ _ _ h => h) (by kernel_rfl) (.bool true) (fun W h => by go_simp) h0 ?_
  try simp only [Act.put, List.setIfInBounds_toArray, List.set_cons_zero, List.set_cons_succ]
  refine held_val 18 rfl (by kernel_rfl) (by kernel_rfl) (by kernel_rfl) (fun _ _ _ _ h => h) (by kernel_rfl) (.bool true) (fun W h => by go_simp) h0 ?_
  try simp only [Act.put, List.setIfInBounds_toArray, List.set_cons_zero, List.set_cons_succ]
  refine held_val 19 rfl (by kernel_rfl) (by kernel_rfl) (by kernel_rfl) (fun _ _ _ _ h => h) (by kernel_rfl) (.int .i64 1) (fun W h => by go_simp) h0 ?_
  try simp only [Act.put, List.setIfInBounds_toArray, List.set_cons_zero, List.set_cons_succ]
  refine held_val 20 rfl (by kernel_rfl) (by kernel_rfl) (by kernel_rfl) (fun _ _ _ _ h => h) (by kernel_rfl) (.bool true) (fun W h => by go_simp) h0 ?_
  try simp only [Act.put, List.setIfInBounds_toArray, List.set_cons_zero, List.set_cons_succ]
  refine held_val 21 rfl (by kernel_rfl) (by kernel_rfl) (by kernel_rfl) (fun _ _ _ _ h => h) (by kernel_rfl) (.bool true) (fun W h => by go_simp) h0 ?_
  try simp only [Act.put, List.setIfInBounds_toArray, List.set_cons_zero, List.set_cons_succ]
  refine held_val 22 rfl (by kernel_rfl) (by kernel_rfl) (by kernel_rfl) (fun _ _ _ _ h => h) (by kernel_rfl) (.bool true) (fun W h => by go_simp) h0 ?_
  try simp only [Act.put, List.setIfInBounds_toArray, List.set_cons_zero, List.set_cons_succ]
  refine held_load 23 rfl (by kernel_rfl) (by kernel_rfl) (by kernel_rfl) (fun _ _ _ _ h => h) (by kernel_rfl) 26 (.tmp 5) rfl g5 (by kernel_rfl) 26 .u8 abcH (fun _ h => h.2.2.1) _ Tryd.underlying26 rfl size_abc h0 ?_
  try simp only [Act.put, List.setIfInBounds_toArray, List.set_cons_zero, List.set_cons_succ]
  refine wpAnyH_ready (rs := [24]) (by kernel_rfl) (by decide) ?_
  refine AllReadyH.cons rfl (fun K hK => ?_) AllReadyH.nil
  go_simp
  refine (TX _).mono ?_
  rintro e w21 ⟨rfl, hbw21⟩
  refine hK.out _ _ (h0.below hbw21) (fun h1 => ?_)
  clear hK K
  try simp only [Act.put, List.setIfInBounds_toArray, List.set_cons_zero, List.set_cons_succ]
  refine held_val 25 rfl (by kernel_rfl) (by kernel_rfl) (by kernel_rfl) (fun _ _ _ _ h => h) (by kernel_rfl) (.bool true) (fun W h => by go_simp) h1 ?_
  try simp only [Act.put, List.setIfInBounds_toArray, List.set_cons_zero, List.set_cons_succ]
  refine held_val 26 rfl (by kernel_rfl) (by kernel_rfl) (by kernel_rfl) (fun _ _ _ _ h => h) (by kernel_rfl) (.bool true) (fun W h => by go_simp) h1 ?_
  try simp only [Act.put, List.setIfInBounds_toArray, List.set_cons_zero, List.set_cons_succ]
  refine held_val 27 rfl (by kernel_rfl) (by kernel_rfl) (by kernel_rfl) (fun _ _ _ _ h => h) (by kernel_rfl) (.bool true) (fun W h => by go_simp) h1 ?_
  try simp only [Act.put, List.setIfInBounds_toArray, List.set_cons_zero, List.set_cons_succ]
  refine held_load 28 rfl (by kernel_rfl) (by kernel_rfl) (by kernel_rfl) (fun _ _ _ _ h => h) (by kernel_rfl) 26 (.tmp 5) rfl g5 (by kernel_rfl) 26 .u8 abcH (fun _ h => h.2.2.1) _ Tryd.underlying26 rfl size_abc h1 ?_
  try simp only [Act.put, List.setIfInBounds_toArray, List.set_cons_zero, List.set_cons_succ]
  refine held_load 29 rfl (by kernel_rfl) (by kernel_rfl) (by kernel_rfl) (fun _ _ _ _ h => h) (by kernel_rfl) 26 (.tmp 7) rfl g7 (by kernel_rfl) 26 .u8 abcH (fun _ h => h.2.2.2.1) _ Tryd.underlying26 rfl size_abc h1 ?_
  try simp only [Act.put, List.setIfInBounds_toArray, List.set_cons_zero, List.set_cons_succ]
  refine held_val 30 rfl (by kernel_rfl) (by kernel_rfl) (by kernel_rfl) (fun _ _ _ _ h => h) (by kernel_rfl) (.bool true) (fun W h => by go_simp) h1 ?_
  try simp only [Act.put, List.setIfInBounds_toArray, List.set_cons_zero, List.set_cons_succ]
  refine held_val 31 rfl (by kernel_rfl) (by kernel_rfl) (by kernel_rfl) (fun _ _ _ _ h => h) (by kernel_rfl) (.bool true) (fun W h => by go_simp) h1 ?_
  try simp only [Act.put, List.setIfInBounds_toArray, List.set_cons_zero, List.set_cons_succ]
  refine held_val 32 rfl (by kernel_rfl) (by kernel_rfl) (by kernel_rfl) (fun _ _ _ _ h => h) (by kernel_rfl) (.bool true) (fun W h => by go_simp) h1 ?_
  try simp only [Act.put, List.setIfInBounds_toArray, List.set_cons_zero, List.set_cons_succ]
  refine held_load 37 rfl (by kernel_rfl) (by kernel_rfl) (by kernel_rfl) (fun _ _ _ _ h => h) (by kernel_rfl) 26 (.tmp 5) rfl g5 (by kernel_rfl) 26 .u8 abcH (fun _ h => h.2.2.1) _ Tryd.underlying26 rfl size_abc h1 ?_
  try simp only [Act.put, List.setIfInBounds_toArray, List.set_cons_zero, List.set_cons_succ]
  have x4 := cv3 w21 97 98 99
  refine wpAnyH_ready (rs := [33]) (by kernel_rfl) (by decide) ?_
  refine AllReadyH.cons rfl (fun K hK => ?_) AllReadyH.nil
  go_simp
  refine hK.out _ _ (h1.alloc _) (fun _ => ?_)
  clear hK K
  try simp only [Act.put, List.setIfInBounds_toArray, List.set_cons_zero, List.set_cons_succ]
  refine wpAnyH_ready (rs := [34]) (by kernel_rfl) (by decide) ?_
  refine AllReadyH.cons rfl (fun K hK => ?_) AllReadyH.nil
  go_simp
  refine hK.out _ _ (h1.alloc _) (fun _ => ?_)
  clear hK K
  try simp only [Act.put, List.setIfInBounds_toArray, List.set_cons_zero, List.set_cons_succ]
  refine wpAnyH_ready (rs := [35]) (by kernel_rfl) (by decide) ?_
  refine AllReadyH.cons rfl (fun K hK => ?_) AllReadyH.nil
  go_simp
  refine hK.out _ _ ((h1.alloc _).alloc _) (fun _ => ?_)
  clear hK K
  try simp only [Act.put, List.setIfInBounds_toArray, List.set_cons_zero, List.set_cons_succ]
  clear x4
  refine wpAnyH_ready (rs := [36]) (by kernel_rfl) (by decide) ?_
  refine AllReadyH.cons rfl (fun K hK => ?_) AllReadyH.nil
  go_simp
  refine (sum_abc w21 (HKST.out.below h1.2.2.2.2.2.2)).mono ?_
  rintro e w22 ⟨rfl, hbw22⟩
  refine hK.out _ _ (h1.below hbw22) (fun h2 => ?_)
  clear hK K
  try simp only [Act.put, List.setIfInBounds_toArray, List.set_cons_zero, List.set_cons_succ]
  refine held_val 38 rfl (by kernel_rfl) (by kernel_rfl) (by kernel_rfl) (fun _ _ _ _ h => h) (by kernel_rfl) (.bool true) (fun W h => by go_simp) h2 ?_
  try simp only [Act.put, List.setIfInBounds_toArray, List.set_cons_zero, List.set_cons_succ]
  refine held_val 39 rfl (by kernel_rfl) (by kernel_rfl) (by kernel_rfl) (fun _ _ _ _ h => h) (by kernel_rfl) (.bool true) (fun W h => by go_simp) h2 ?_
  try simp only [Act.put, List.setIfInBounds_toArray, List.set_cons_zero, List.set_cons_succ]
  refine held_val 40 rfl (by kernel_rfl) (by kernel_rfl) (by kernel_rfl) (fun _ _ _ _ h => h) (by kernel_rfl) (.bool true) (fun W h => by go_simp) h2 ?_
  try simp only [Act.put, List.setIfInBounds_toArray, List.set_cons_zero, List.set_cons_succ]
  refine held_load 47 rfl (by kernel_rfl) (by kernel_rfl) (by kernel_rfl) (fun _ _ _ _ h => h) (by kernel_rfl) 26 (.tmp 5) rfl g5 (by kernel_rfl) 26 .u8 abcH (fun _ h => h.2.2.1) _ Tryd.underlying26 rfl size_abc h2 ?_
  try simp only [Act.put, List.setIfInBounds_toArray, List.set_cons_zero, List.set_cons_succ]
  refine wpAnyH_ready (rs := [41, 43]) (by kernel_rfl) (by decide) ?_
  refine AllReadyH.cons rfl (fun K hK => ?_) (AllReadyH.cons rfl (fun K hK => ?_) AllReadyH.nil)
  · go_simp
    refine hK.out _ _ (h2.alloc _) (fun _ => ?_)
    clear hK K
    try simp only [Act.put, List.setIfInBounds_toArray, List.set_cons_zero, List.set_cons_succ]
    refine wpAnyH_ready (rs := [42, 43]) (by kernel_rfl) (by decide) ?_
    refine AllReadyH.cons rfl (fun K hK => ?_) (AllReadyH.cons rfl (fun K hK => ?_) AllReadyH.nil)
    · have x := cv4 w22 97 98
      go_simp
      clear x
      refine hK.out _ _ (h2.alloc _) (fun _ => ?_)
      clear hK K
      try simp only [Act.put, List.setIfInBounds_toArray, List.set_cons_zero, List.set_cons_succ]
      refine wpAnyH_ready (rs := [43]) (by kernel_rfl) (by decide) ?_
      refine AllReadyH.cons rfl (fun K hK => ?_) AllReadyH.nil
      go_simp
      refine hK.out _ _ ((h2.alloc _).alloc _) (fun _ => ?_)
      clear hK K
      try simp only [Act.put, List.setIfInBounds_toArray, List.set_cons_zero, List.set_cons_succ]
      refine wpAnyH_ready (rs := [44]) (by kernel_rfl) (by decide) ?_
      refine AllReadyH.cons rfl (fun K hK => ?_) AllReadyH.nil
      have x := cv2 w22 (.cells #[.int .u8 97, .int .u8 98] 5 (2, 3)) 99
      go_simp
      clear x
      refine hK.out _ _ ((h2.alloc _).alloc _) (fun _ => ?_)
      clear hK K
      try simp only [Act.put, List.setIfInBounds_toArray, List.set_cons_zero, List.set_cons_succ]
      refine wpAnyH_ready (rs := [45]) (by kernel_rfl) (by decide) ?_
      refine AllReadyH.cons rfl (fun K hK => ?_) AllReadyH.nil
      go_simp
      refine hK.out _ _ (((h2.alloc _).alloc _).alloc _) (fun _ => ?_)
      clear hK K
      try simp only [Act.put, List.setIfInBounds_toArray, List.set_cons_zero, List.set_cons_succ]
      refine wpAnyH_ready (rs := [46]) (by kernel_rfl) (by decide) ?_
      refine AllReadyH.cons rfl (fun K hK => ?_) AllReadyH.nil
      go_simp
      refine (sum_ab_c w22 (HKST.out.below h2.2.2.2.2.2.2)).mono ?_
      rintro e w23 ⟨rfl, hbw23⟩
      refine hK.out _ _ (h2.below hbw23) (fun h3 => ?_)
      clear hK K
      try simp only [Act.put, List.setIfInBounds_toArray, List.set_cons_zero, List.set_cons_succ]
      refine held_val 48 rfl (by kernel_rfl) (by kernel_rfl) (by kernel_rfl) (fun _ _ _ _ h => h) (by kernel_rfl) (.bool true) (fun W h => by go_simp) h3 ?_
      try simp only [Act.put, List.setIfInBounds_toArray, List.set_cons_zero, List.set_cons_succ]
      refine held_val 49 rfl (by kernel_rfl) (by kernel_rfl) (by kernel_rfl) (fun _ _ _ _ h => h) (by kernel_rfl) (.bool true) (fun W h => by go_simp) h3 ?_
      try simp only [Act.put, List.setIfInBounds_toArray, List.set_cons_zero, List.set_cons_succ]
      refine held_val 50 rfl (by kernel_rfl) (by kernel_rfl) (by kernel_rfl) (fun _ _ _ _ h => h) (by kernel_rfl) (.bool true) (fun W h => by go_simp) h3 ?_
      try simp only [Act.put, List.setIfInBounds_toArray, List.set_cons_zero, List.set_cons_succ]
      refine wpAnyH_turn (by kernel_rfl) (by kernel_rfl) (by kernel_rfl) (alive_tail w w23 HKST.out g1 g3 g5 g7 A1 A3 c1 c3 HC1.out HC3.out V1 V3 HV1.out HV3.out _ (fun _ _ d _ _ h => by cases d <;> exact h) (fun a' w' hA' h0' hd' => ?_) _ (by kernel_rfl) (by kernel_rfl) (by kernel_rfl) (by kernel_rfl) (by kernel_rfl) h3)
      go_wp2
      have h0'' : a'.tmps[0]?.getD undef = .bool true := by rw [← h0', Array.getD_eq_getD_getElem?]
      exact bodyPost_ret (v := .bool true) (by simp [results, Tryd.results7, h0'', go_sem]) hd' ⟨rfl, hA'.2.2.2.2.2.2⟩
    · go_simp
      refine hK.out _ _ ((h2.alloc _).alloc _) (fun _ => ?_)
      clear hK K
      try simp only [Act.put, List.setIfInBounds_toArray, List.set_cons_zero, List.set_cons_succ]
      refine wpAnyH_ready (rs := [42, 44]) (by kernel_rfl) (by decide) ?_
      refine AllReadyH.cons rfl (fun K hK => ?_) (AllReadyH.cons rfl (fun K hK => ?_) AllReadyH.nil)
      · have x := cvUa w22 (.cells #[.int .u8 99] 5)
        go_simp
        clear x
        refine hK.out _ _ ((h2.alloc _).alloc _) (fun _ => ?_)
        clear hK K
        try simp only [Act.put, List.setIfInBounds_toArray, List.set_cons_zero, List.set_cons_succ]
        refine wpAnyH_ready (rs := [44]) (by kernel_rfl) (by decide) ?_
        refine AllReadyH.cons rfl (fun K hK => ?_) AllReadyH.nil
        have x := cv2 w22 (.cells #[.int .u8 97, .int .u8 98] 5 (2, 3)) 99
        go_simp
        clear x
        refine hK.out _ _ ((h2.alloc _).alloc _) (fun _ => ?_)
        clear hK K
        try simp only [Act.put, List.setIfInBounds_toArray, List.set_cons_zero, List.set_cons_succ]
        refine wpAnyH_ready (rs := [45]) (by kernel_rfl) (by decide) ?_
        refine AllReadyH.cons rfl (fun K hK => ?_) AllReadyH.nil
        go_simp
        refine hK.out _ _ (((h2.alloc _).alloc _).alloc _) (fun _ => ?_)
        clear hK K
        try simp only [Act.put, List.setIfInBounds_toArray, List.set_cons_zero, List.set_cons_succ]
        refine wpAnyH_ready (rs := [46]) (by kernel_rfl) (by decide) ?_
        refine AllReadyH.cons rfl (fun K hK => ?_) AllReadyH.nil
        go_simp
        refine (sum_ab_c w22 (HKST.out.below h2.2.2.2.2.2.2)).mono ?_
        rintro e w23 ⟨rfl, hbw23⟩
        refine hK.out _ _ (h2.below hbw23) (fun h3 => ?_)
        clear hK K
        try simp only [Act.put, List.setIfInBounds_toArray, List.set_cons_zero, List.set_cons_succ]
        refine held_val 48 rfl (by kernel_rfl) (by kernel_rfl) (by kernel_rfl) (fun _ _ _ _ h => h) (by kernel_rfl) (.bool true) (fun W h => by go_simp) h3 ?_
        try simp only [Act.put, List.setIfInBounds_toArray, List.set_cons_zero, List.set_cons_succ]
        refine held_val 49 rfl (by kernel_rfl) (by kernel_rfl) (by kernel_rfl) (fun _ _ _ _ h => h) (by kernel_rfl) (.bool true) (fun W h => by go_simp) h3 ?_
        try simp only [Act.put, List.setIfInBounds_toArray, List.set_cons_zero, List.set_cons_succ]
        refine held_val 50 rfl (by kernel_rfl) (by kernel_rfl) (by kernel_rfl) (fun _ _ _ _ h => h) (by kernel_rfl) (.bool true) (fun W h => by go_simp) h3 ?_
        try simp only [Act.put, List.setIfInBounds_toArray, List.set_cons_zero, List.set_cons_succ]
        refine wpAnyH_turn (by kernel_rfl) (by kernel_rfl) (by kernel_rfl) (alive_tail w w23 HKST.out g1 g3 g5 g7 A1 A3 c1 c3 HC1.out HC3.out V1 V3 HV1.out HV3.out _ (fun _ _ d _ _ h => by cases d <;> exact h) (fun a' w' hA' h0' hd' => ?_) _ (by kernel_rfl) (by kernel_rfl) (by kernel_rfl) (by kernel_rfl) (by kernel_rfl) h3)
        go_wp2
        have h0'' : a'.tmps[0]?.getD undef = .bool true := by rw [← h0', Array.getD_eq_getD_getElem?]
        exact bodyPost_ret (v := .bool true) (by simp [results, Tryd.results7, h0'', go_sem]) hd' ⟨rfl, hA'.2.2.2.2.2.2⟩
      · have x := cv2 w22 (.cells #[.int .u8 97, .int .u8 98] 5) 99
        go_simp
        clear x
        refine hK.out _ _ ((h2.alloc _).alloc _) (fun _ => ?_)
        clear hK K
        try simp only [Act.put, List.setIfInBounds_toArray, List.set_cons_zero, List.set_cons_succ]
        refine wpAnyH_ready (rs := [42]) (by kernel_rfl) (by decide) ?_
        refine AllReadyH.cons rfl (fun K hK => ?_) AllReadyH.nil
        have x := cvUa w22 (.cells #[.int .u8 99] 5 (1, 2))
        go_simp
        clear x
        refine hK.out _ _ ((h2.alloc _).alloc _) (fun _ => ?_)
        clear hK K
        try simp only [Act.put, List.setIfInBounds_toArray, List.set_cons_zero, List.set_cons_succ]
        refine wpAnyH_ready (rs := [45]) (by kernel_rfl) (by decide) ?_
        refine AllReadyH.cons rfl (fun K hK => ?_) AllReadyH.nil
        go_simp
        refine hK.out _ _ (((h2.alloc _).alloc _).alloc _) (fun _ => ?_)
        clear hK K
        try simp only [Act.put, List.setIfInBounds_toArray, List.set_cons_zero, List.set_cons_succ]
        refine wpAnyH_ready (rs := [46]) (by kernel_rfl) (by decide) ?_
        refine AllReadyH.cons rfl (fun K hK => ?_) AllReadyH.nil
        go_simp
        refine (sum_ab_c w22 (HKST.out.below h2.2.2.2.2.2.2)).mono ?_
        rintro e w23 ⟨rfl, hbw23⟩
        refine hK.out _ _ (h2.below hbw23) (fun h3 => ?_)
        clear hK K
        try simp only [Act.put, List.setIfInBounds_toArray, List.set_cons_zero, List.set_cons_succ]
        refine held_val 48 rfl (by kernel_rfl) (by kernel_rfl) (by kernel_rfl) (fun _ _ _ _ h => h) (by kernel_rfl) (.bool true) (fun W h => by go_simp) h3 ?_
        try simp only [Act.put, List.setIfInBounds_toArray, List.set_cons_zero, List.set_cons_succ]
        refine held_val 49 rfl (by kernel_rfl) (by kernel_rfl) (by kernel_rfl) (fun _ _ _ _ h => h) (by kernel_rfl) (.bool true) (fun W h => by go_simp) h3 ?_
        try simp only [Act.put, List.setIfInBounds_toArray, List.set_cons_zero, List.set_cons_succ]
        refine held_val 50 rfl (by kernel_rfl) (by kernel_rfl) (by kernel_rfl) (fun _ _ _ _ h => h) (by kernel_rfl) (.bool true) (fun W h => by go_simp) h3 ?_
        try simp only [Act.put, List.setIfInBounds_toArray, List.set_cons_zero, List.set_cons_succ]
        refine wpAnyH_turn (by kernel_rfl) (by kernel_rfl) (by kernel_rfl) (alive_tail w w23 HKST.out g1 g3 g5 g7 A1 A3 c1 c3 HC1.out HC3.out V1 V3 HV1.out HV3.out _ (fun _ _ d _ _ h => by cases d <;> exact h) (fun a' w' hA' h0' hd' => ?_) _ (by kernel_rfl) (by kernel_rfl) (by kernel_rfl) (by kernel_rfl) (by kernel_rfl) h3)
        go_wp2
        have h0'' : a'.tmps[0]?.getD undef = .bool true := by rw [← h0', Array.getD_eq_getD_getElem?]
        exact bodyPost_ret (v := .bool true) (by simp [results, Tryd.results7, h0'', go_sem]) hd' ⟨rfl, hA'.2.2.2.2.2.2⟩
  · go_simp
    refine hK.out _ _ (h2.alloc _) (fun _ => ?_)
    clear hK K
    try simp only [Act.put, List.setIfInBounds_toArray, List.set_cons_zero, List.set_cons_succ]
    refine wpAnyH_ready (rs := [41, 44]) (by kernel_rfl) (by decide) ?_
    refine AllReadyH.cons rfl (fun K hK => ?_) (AllReadyH.cons rfl (fun K hK => ?_) AllReadyH.nil)
    · go_simp
      refine hK.out _ _ ((h2.alloc _).alloc _) (fun _ => ?_)
      clear hK K
      try simp only [Act.put, List.setIfInBounds_toArray, List.set_cons_zero, List.set_cons_succ]
      refine wpAnyH_ready (rs := [42, 44]) (by kernel_rfl) (by decide) ?_
      refine AllReadyH.cons rfl (fun K hK => ?_) (AllReadyH.cons rfl (fun K hK => ?_) AllReadyH.nil)
      · have x := cv5 w22 (.cells #[.int .u8 99] 5)
        go_simp
        clear x
        refine hK.out _ _ ((h2.alloc _).alloc _) (fun _ => ?_)
        clear hK K
        try simp only [Act.put, List.setIfInBounds_toArray, List.set_cons_zero, List.set_cons_succ]
        refine wpAnyH_ready (rs := [44]) (by kernel_rfl) (by decide) ?_
        refine AllReadyH.cons rfl (fun K hK => ?_) AllReadyH.nil
        have x := cvUc w22 (.cells #[.int .u8 97, .int .u8 98] 5 (2, 3))
        go_simp
        clear x
        refine hK.out _ _ ((h2.alloc _).alloc _) (fun _ => ?_)
        clear hK K
        try simp only [Act.put, List.setIfInBounds_toArray, List.set_cons_zero, List.set_cons_succ]
        refine wpAnyH_ready (rs := [45]) (by kernel_rfl) (by decide) ?_
        refine AllReadyH.cons rfl (fun K hK => ?_) AllReadyH.nil
        go_simp
        refine hK.out _ _ (((h2.alloc _).alloc _).alloc _) (fun _ => ?_)
        clear hK K
        try simp only [Act.put, List.setIfInBounds_toArray, List.set_cons_zero, List.set_cons_succ]
        refine wpAnyH_ready (rs := [46]) (by kernel_rfl) (by decide) ?_
        refine AllReadyH.cons rfl (fun K hK => ?_) AllReadyH.nil
        go_simp
        refine (sum_c_ab w22 (HKST.out.below h2.2.2.2.2.2.2)).mono ?_
        rintro e w23 ⟨rfl, hbw23⟩
        refine hK.out _ _ (h2.below hbw23) (fun h3 => ?_)
        clear hK K
        try simp only [Act.put, List.setIfInBounds_toArray, List.set_cons_zero, List.set_cons_succ]
        refine held_val 48 rfl (by kernel_rfl) (by kernel_rfl) (by kernel_rfl) (fun _ _ _ _ h => h) (by kernel_rfl) (.bool true) (fun W h => by go_simp) h3 ?_
        try simp only [Act.put, List.setIfInBounds_toArray, List.set_cons_zero, List.set_cons_succ]
        refine held_val 49 rfl (by kernel_rfl) (by kernel_rfl) (by kernel_rfl) (fun _ _ _ _ h => h) (by kernel_rfl) (.bool true) (fun W h => by go_simp) h3 ?_
        try simp only [Act.put, List.setIfInBounds_toArray, List.set_cons_zero, List.set_cons_succ]
        refine held_val 50 rfl (by kernel_rfl) (by kernel_rfl) (by kernel_rfl) (fun _ _ _ _ h => h) (by kernel_rfl) (.bool true) (fun W h => by go_simp) h3 ?_
        try simp only [Act.put, List.setIfInBounds_toArray, List.set_cons_zero, List.set_cons_succ]
        refine wpAnyH_turn (by kernel_rfl) (by kernel_rfl) (by kernel_rfl) (alive_tail w w23 HKST.out g1 g3 g5 g7 A1 A3 c1 c3 HC1.out HC3.out V1 V3 HV1.out HV3.out _ (fun _ _ d _ _ h => by cases d <;> exact h) (fun a' w' hA' h0' hd' => ?_) _ (by kernel_rfl) (by kernel_rfl) (by kernel_rfl) (by kernel_rfl) (by kernel_rfl) h3)
        go_wp2
        have h0'' : a'.tmps[0]?.getD undef = .bool true := by rw [← h0', Array.getD_eq_getD_getElem?]
        exact bodyPost_ret (v := .bool true) (by simp [results, Tryd.results7, h0'', go_sem]) hd' ⟨rfl, hA'.2.2.2.2.2.2⟩
      · have x := cvUc w22 (.cells #[.int .u8 97, .int .u8 98] 5)
        go_simp
        clear x
        refine hK.out _ _ ((h2.alloc _).alloc _) (fun _ => ?_)
        clear hK K
        try simp only [Act.put, List.setIfInBounds_toArray, List.set_cons_zero, List.set_cons_succ]
        refine wpAnyH_ready (rs := [42]) (by kernel_rfl) (by decide) ?_
        refine AllReadyH.cons rfl (fun K hK => ?_) AllReadyH.nil
        have x := cv5 w22 (.cells #[.int .u8 99] 5 (1, 2))
        go_simp
        clear x
        refine hK.out _ _ ((h2.alloc _).alloc _) (fun _ => ?_)
        clear hK K
        try simp only [Act.put, List.setIfInBounds_toArray, List.set_cons_zero, List.set_cons_succ]
        refine wpAnyH_ready (rs := [45]) (by kernel_rfl) (by decide) ?_
        refine AllReadyH.cons rfl (fun K hK => ?_) AllReadyH.nil
        go_simp
        refine hK.out _ _ (((h2.alloc _).alloc _).alloc _) (fun _ => ?_)
        clear hK K
        try simp only [Act.put, List.setIfInBounds_toArray, List.set_cons_zero, List.set_cons_succ]
        refine wpAnyH_ready (rs := [46]) (by kernel_rfl) (by decide) ?_
        refine AllReadyH.cons rfl (fun K hK => ?_) AllReadyH.nil
        go_simp
        refine (sum_c_ab w22 (HKST.out.below h2.2.2.2.2.2.2)).mono ?_
        rintro e w23 ⟨rfl, hbw23⟩
        refine hK.out _ _ (h2.below hbw23) (fun h3 => ?_)
        clear hK K
        try simp only [Act.put, List.setIfInBounds_toArray, List.set_cons_zero, List.set_cons_succ]
        refine held_val 48 rfl (by kernel_rfl) (by kernel_rfl) (by kernel_rfl) (fun _ _ _ _ h => h) (by kernel_rfl) (.bool true) (fun W h => by go_simp) h3 ?_
        try simp only [Act.put, List.setIfInBounds_toArray, List.set_cons_zero, List.set_cons_succ]
        refine held_val 49 rfl (by kernel_rfl) (by kernel_rfl) (by kernel_rfl) (fun _ _ _ _ h => h) (by kernel_rfl) (.bool true) (fun W h => by go_simp) h3 ?_
        try simp only [Act.put, List.setIfInBounds_toArray, List.set_cons_zero, List.set_cons_succ]
        refine held_val 50 rfl (by kernel_rfl) (by kernel_rfl) (by kernel_rfl) (fun _ _ _ _ h => h) (by kernel_rfl) (.bool true) (fun W h => by go_simp) h3 ?_
        try simp only [Act.put, List.setIfInBounds_toArray, List.set_cons_zero, List.set_cons_succ]
        refine wpAnyH_turn (by kernel_rfl) (by kernel_rfl) (by kernel_rfl) (alive_tail w w23 HKST.out g1 g3 g5 g7 A1 A3 c1 c3 HC1.out HC3.out V1 V3 HV1.out HV3.out _ (fun _ _ d _ _ h => by cases d <;> exact h) (fun a' w' hA' h0' hd' => ?_) _ (by kernel_rfl) (by kernel_rfl) (by kernel_rfl) (by kernel_rfl) (by kernel_rfl) h3)
        go_wp2
        have h0'' : a'.tmps[0]?.getD undef = .bool true := by rw [← h0', Array.getD_eq_getD_getElem?]
        exact bodyPost_ret (v := .bool true) (by simp [results, Tryd.results7, h0'', go_sem]) hd' ⟨rfl, hA'.2.2.2.2.2.2⟩
    · have x := cv1 w22 99
      go_simp
      clear x
      refine hK.out _ _ (h2.alloc _) (fun _ => ?_)
      clear hK K
      try simp only [Act.put, List.setIfInBounds_toArray, List.set_cons_zero, List.set_cons_succ]
      refine wpAnyH_ready (rs := [41]) (by kernel_rfl) (by decide) ?_
      refine AllReadyH.cons rfl (fun K hK => ?_) AllReadyH.nil
      go_simp
      refine hK.out _ _ ((h2.alloc _).alloc _) (fun _ => ?_)
      clear hK K
      try simp only [Act.put, List.setIfInBounds_toArray, List.set_cons_zero, List.set_cons_succ]
      refine wpAnyH_ready (rs := [42]) (by kernel_rfl) (by decide) ?_
      refine AllReadyH.cons rfl (fun K hK => ?_) AllReadyH.nil
      have x := cv5 w22 (.cells #[.int .u8 99] 5 (1, 2))
      go_simp
      clear x
      refine hK.out _ _ ((h2.alloc _).alloc _) (fun _ => ?_)
      clear hK K
      try simp only [Act.put, List.setIfInBounds_toArray, List.set_cons_zero, List.set_cons_succ]
      refine wpAnyH_ready (rs := [45]) (by kernel_rfl) (by decide) ?_
      refine AllReadyH.cons rfl (fun K hK => ?_) AllReadyH.nil
      go_simp
      refine hK.out _ _ (((h2.alloc _).alloc _).alloc _) (fun _ => ?_)
      clear hK K
      try simp only [Act.put, List.setIfInBounds_toArray, List.set_cons_zero, List.set_cons_succ]
      refine wpAnyH_ready (rs := [46]) (by kernel_rfl) (by decide) ?_
      refine AllReadyH.cons rfl (fun K hK => ?_) AllReadyH.nil
      go_simp
      refine (sum_c_ab w22 (HKST.out.below h2.2.2.2.2.2.2)).mono ?_
      rintro e w23 ⟨rfl, hbw23⟩
      refine hK.out _ _ (h2.below hbw23) (fun h3 => ?_)
      clear hK K
      try simp only [Act.put, List.setIfInBounds_toArray, List.set_cons_zero, List.set_cons_succ]
      refine held_val 48 rfl (by kernel_rfl) (by kernel_rfl) (by kernel_rfl) (fun _ _ _ _ h => h) (by kernel_rfl) (.bool true) (fun W h => by go_simp) h3 ?_
      try simp only [Act.put, List.setIfInBounds_toArray, List.set_cons_zero, List.set_cons_succ]
      refine held_val 49 rfl (by kernel_rfl) (by kernel_rfl) (by kernel_rfl) (fun _ _ _ _ h => h) (by kernel_rfl) (.bool true) (fun W h => by go_simp) h3 ?_
      try simp only [Act.put, List.setIfInBounds_toArray, List.set_cons_zero, List.set_cons_succ]
      refine held_val 50 rfl (by kernel_rfl) (by kernel_rfl) (by kernel_rfl) (fun _ _ _ _ h => h) (by kernel_rfl) (.bool true) (fun W h => by go_simp) h3 ?_
      try simp only [Act.put, List.setIfInBounds_toArray, List.set_cons_zero, List.set_cons_succ]
      refine wpAnyH_turn (by kernel_rfl) (by kernel_rfl) (by kernel_rfl) (alive_tail w w23 HKST.out g1 g3 g5 g7 A1 A3 c1 c3 HC1.out HC3.out V1 V3 HV1.out HV3.out _ (fun _ _ d _ _ h => by cases d <;> exact h) (fun a' w' hA' h0' hd' => ?_) _ (by kernel_rfl) (by kernel_rfl) (by kernel_rfl) (by kernel_rfl) (by kernel_rfl) h3)
      go_wp2
      have h0'' : a'.tmps[0]?.getD undef = .bool true := by rw [← h0', Array.getD_eq_getD_getElem?]
      exact bodyPost_ret (v := .bool true) (by simp [results, Tryd.results7, h0'', go_sem]) hd' ⟨rfl, hA'.2.2.2.2.2.2⟩
end Go.Proofs.YtjdceadglfnnbaaDoor

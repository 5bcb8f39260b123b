/-
  What the program's sha.begin returns, and that it leaves memory as it was.
  Conditions: the arguments lie in their types' ranges; the rest is short.
-/
import Derived.Test.YtdnjnbeoioicfaaDoorShaM
import Derived.Test.YtdnjnbeoioicfaaDoorShaJ
set_option linter.unusedSimpArgs false
namespace Go.Proofs.YtdnjnbeoioicfaaDoor
open Go.ChangeShapes Go.WideShapes Go.ChangeAt Go.RowKit
set_option linter.unusedVariables false
theorem run_build_wg (s0 s1 s2 s3 s4 s5 s6 s7 : Int) (A : Option Addr) (r c : Nat) (n : Int) (w : World) :
    (Instr.build 71 #[(0, .agg #[.int .u32 s0, .int .u32 s1, .int .u32 s2, .int .u32 s3, .int .u32 s4, .int .u32 s5, .int .u32 s6, .int .u32 s7, .slice A r c, .int .u64 n])]).run Tryd.prog w = .ok (.agg #[.int .u32 s0, .int .u32 s1, .int .u32 s2, .int .u32 s3, .int .u32 s4, .int .u32 s5, .int .u32 s6, .int .u32 s7, .slice A r c, .int .u64 n]) w := by
  go_simp
theorem build_wg {a : Act} {o : Oper} {x : Operand} (w : World) (s : List Int) (hl : s.length = 8) (A : Option Addr) (r c : Nat) (n : Int) (ho : o.op = .build 71 #[(0, x)]) (hx : a.eval x = .agg (wrV s A r c n)) :
    (execOp a.eval o).run Tryd.prog w = .ok (.value (.agg (wrV s A r c n))) w := by
  obtain ⟨s0, s1, s2, s3, s4, s5, s6, s7, rfl⟩ : ∃ a b d e f p q u, s = [a, b, d, e, f, p, q, u] := ⟨_, _, _, _, _, _, _, _, list8 s hl⟩
  have h := run_build_wg s0 s1 s2 s3 s4 s5 s6 s7 A r c n w
  unfold execOp
  simp only [ho, List.map_toArray, List.map_cons, List.map_nil, hx]
  change ((Instr.build 71 #[(0, .agg #[.int .u32 s0, .int .u32 s1, .int .u32 s2, .int .u32 s3, .int .u32 s4, .int .u32 s5, .int .u32 s6, .int .u32 s7, .slice A r c, .int .u64 n])]) >>= fun v => pure (Next.value v)).run Tryd.prog w = _
  simp only [Sem.run_bind, h, Result.andThen_ok, Sem.run_pure]
  rfl
theorem size_sl : (Tryd.prog.info? 29).map (·.size) = some 1 := by kernel_rfl
/-- A pointer to a writer that writes is handed back. -/
def RetP (w : World) (s r : List Int) (n : Int) (e : Ending) (w' : World) : Prop := ∃ g A c, e = .returned (.pointer (some ⟨g, 0, none⟩)) ∧ Wrt w g A c s r n w'
set_option maxHeartbeats 1000000 in
theorem qbegin_c (s rest : List Int) (hl : s.length = 8) (A : Option Addr) (r c : Nat) (n : Int) (hr : r ≤ 64) (hrc : r ≤ c) (w : World) (hrd : Rd .u8 w w.heap.size A r rest) :
    Calls Tryd.prog 28 #[.agg (wrV s A r c n)] w (RetP w s rest n) := by
  obtain ⟨i0, hi, hz0, hz1, hzb⟩ := info_parts info_u8'
  have hmk : ∀ W, (Instr.makeSlice 29 (.int .i64 (r : Int)) (.int .i64 64)).run Tryd.prog W = .ok (.slice (some ⟨W.heap.size, 0, none⟩) r 64) (W.alloc (.cells (intsA .u8 (List.replicate 64 0)) 5)) := fun W => run_make_cap (P := Tryd.prog) 29 5 i0 .u8 Tryd.underlying29 hi hz0 hz1 hzb r 64 hr (by omega) W
  obtain ⟨L, hL⟩ : ∃ L : List Int, List.replicate 64 0 = L := ⟨_, rfl⟩
  have HLL := Lib.hid (show L.length = 64 by rw [← hL]; simp)
  rw [hL] at hmk
  have HC8 := Lib.hid (wrV_rest s hl A r c n)
  have HV8 := Lib.hid (fun A' => wrV_set8 s hl A A' r c r 64 n)
  have SV := Lib.hid (wrV_size s hl A r c n)
  have SW := Lib.hid (fun A' => sizedW s hl A' r 64 n)
  have HBG := Lib.hid (fun (a : Act) (o : Oper) (x : Operand) W A' => build_wg (a := a) (o := o) (x := x) W s hl A' r 64 n)
  have HRD := Lib.hid hrd
  have HLR := Lib.hid hrd.len
  obtain ⟨V, hV⟩ : ∃ V, wrV s A r c n = V := ⟨_, rfl⟩
  rw [hV] at HC8 HV8 SV ⊢
  clear hL hV hrd hi hz0 hz1 hzb
  go_enter Tryd.func28, Tryd.ntmps28
  go_wp2_with (first
    | (with_reducible refine at_any ?_; refine at_dst 1 rfl ?_; refine wpList_box_any rfl 60 (.tmp 0) rfl V rfl ?_; intro w1 hk1 hs1 hb1; have c8 := hk1.out.cell 8; rw [HC8.out] at c8; have d8 := (hk1.out.alloc (.cells (intsA .u8 L) 5)).cell 8; rw [HC8.out] at d8)
    | (with_reducible refine at_any ?_; refine at_dst 11 rfl ?_; refine wpList_copy_ints rfl (.tmp 8) (.tmp 10) 29 29 rfl 5 Tryd.underlying29 size_u8h _ _ _ _ _ _ rfl rfl w1.heap.size 0 .u8 L 5 (BlkI.new _ _ _ _) r (by omega) w.heap.size rest ((HRD.out.below hb1).alloc hb1.size _) (fun _ => rfl) (by rw [HLL.out]; omega) w1.heap.size w1 ((Below.refl _ _).alloc (Nat.le_refl _) _) (Nat.le_refl _) ?_; intro w7 HK7 hb7; have hk7 := Lib.hid (hk1.out.below hb7 hk1.out.lt); have bl7 := Lib.hid (hb1.trans (hb7.mono hb1.size)))
    | (with_reducible refine at_any ?_; refine at_store 13 rfl ?_; refine wpList_store_cell rfl 29 (.tmp 13) (.tmp 12) rfl w.heap.size 8 rfl 60 V hk7.out (.slice (some ⟨w1.heap.size, 0, none⟩) r 64) rfl (by rw [SV.out]; omega) size_sl rfl rfl ?_; intro w8 hk8 ho8; rw [HV8.out] at hk8)
    | (with_reducible refine at_any ?_; refine at_dst 14 rfl ?_; refine wpList_load_blk rfl 60 (.tmp 1) rfl w.heap.size rfl 60 (wrV s (some ⟨w1.heap.size, 0, none⟩) r 64 n) hk8.out _ Tryd.underlying60 rfl (SW.out _) ?_)
    | (with_reducible refine at_any ?_; refine at_dst 15 rfl ?_; refine wpList_val rfl (.agg (wrV s (some ⟨w1.heap.size, 0, none⟩) r 64 n)) (HBG.out _ _ _ _ _ rfl rfl) ?_)
    | (with_reducible refine at_any ?_; refine at_dst 16 rfl ?_; refine wpList_box_any rfl 71 (.tmp 15) rfl (wrV s (some ⟨w1.heap.size, 0, none⟩) r 64 n) rfl ?_; intro w9 hk9 hs9 hb9))
  go_ret
  have h1 : w.heap.size < w1.heap.size := by have := hs1.out; omega
  have hk8b : BlkI w8 w1.heap.size 5 .u8 (splice L 0 rest) := Blk.only HK7.out ho8 (by omega)
  have hk9b := hk8b.below hb9 hk8b.lt
  have bl8 : Below w.heap.size w w8 := bl7.out.trans (ho8.below (Nat.le_refl _) bl7.out.size)
  have hsl : (splice L 0 rest).length = 64 := by rw [length_splice _ _ _ (by rw [HLL.out, HLR.out]; omega), HLL.out]
  have hst : (splice L 0 rest).take rest.length = rest := by unfold splice; simp
  have hO : OwnI w9 w.heap.size 5 .u8 (.slice (some ⟨w1.heap.size, 0, none⟩) rest.length 64) rest := OwnI.of_blk hk9b (by omega) (by rw [HLR.out]; exact hr) (by simp [maxLen]) hsl hst
  refine ⟨w8.heap.size, some ⟨w1.heap.size, 0, none⟩, 64, rfl, ?_, hO, bl8.trans (hb9.mono bl8.size), bl8.size⟩
  rw [HLR.out]
  exact hk9.out
end Go.Proofs.YtdnjnbeoioicfaaDoor

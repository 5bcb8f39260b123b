/-
  Texts of this claim, joined: SrcM, EqA, NedP, UniP, UniM, LedN, GrtR, StrmA, RefM, RefN, LedM, RefNd, RefO, LedR. What each shows, and its conditions, stand at its own head.
-/
import Derived.Test.YtepclbmcacdhlaaGreatDoorGb
import Derived.Deep.QuietTactic
import Derived.BigQuiet
/-
  Sources as values and in memory: their cells, made, stored in part, handed back.
  Conditions: those that each theorem names.
-/
set_option maxRecDepth 100000
set_option linter.unusedVariables false
set_option linter.unusedSimpArgs false
namespace Go.Proofs.YtepclbmcacdhlaaGreatDoor
open Go.ChangeShapes Go.WideShapes Go.ChangeAt Go.RowKit
def srcV (s : Src) (A : Option Addr) (c : Nat) : Array Value := ([Value.int .i64 s.kind, .slice A s.tape.length c, .int .u64 s.bits] ++ (s.seed.map (Value.int .u8) ++ [Value.int .u64 s.dom, .int .u64 s.at_])).toArray
theorem srcV_size (s : Src) (hl : s.seed.length = 32) (A : Option Addr) (c : Nat) : (srcV s A c).size = 37 := by simp [srcV, hl]
theorem srcV_ones (s : Src) (A : Option Addr) (c : Nat) : (srcV s A c).all (·.oneCell') = true := all_oneCell_toArray (by
  intro u hu
  rcases List.mem_append.1 hu with h | h
  · simp only [List.mem_cons, List.not_mem_nil, or_false] at h
    rcases h with h | h | h <;> subst h <;> rfl
  · rcases List.mem_append.1 h with h | h
    · exact ints_one .u8 s.seed u h
    · simp only [List.mem_cons, List.not_mem_nil, or_false] at h
      rcases h with h | h <;> subst h <;> rfl)
theorem srcV_kind (s : Src) (A : Option Addr) (c : Nat) : (srcV s A c)[0]? = some (.int .i64 s.kind) := rfl
theorem srcV_tape (s : Src) (A : Option Addr) (c : Nat) : (srcV s A c)[1]? = some (.slice A s.tape.length c) := rfl
theorem srcV_bits (s : Src) (A : Option Addr) (c : Nat) : (srcV s A c)[2]? = some (.int .u64 s.bits) := rfl
theorem srcV_dom (s : Src) (hl : s.seed.length = 32) (A : Option Addr) (c : Nat) : (srcV s A c)[35]? = some (.int .u64 s.dom) := by
  unfold srcV
  rw [List.getElem?_toArray, List.getElem?_append_right (by simp), List.getElem?_append_right (by simp [hl])]
  simp [hl]
theorem srcV_at (s : Src) (hl : s.seed.length = 32) (A : Option Addr) (c : Nat) : (srcV s A c)[36]? = some (.int .u64 s.at_) := by
  unfold srcV
  rw [List.getElem?_toArray, List.getElem?_append_right (by simp), List.getElem?_append_right (by simp [hl])]
  simp [hl]
theorem srcV_seed {w : World} {g : Nat} {t : TypeId} {s : Src} {A : Option Addr} {c : Nat} (h : Blk w g t (srcV s A c)) : w.rangeAt g 3 (s.seed.map (Value.int .u8)) := by
  intro j v hv
  rw [h.cell]
  unfold srcV
  rw [List.getElem?_toArray, List.getElem?_append_right (by simp)]
  have hj : j < (s.seed.map (Value.int .u8)).length := by
    rcases Nat.lt_or_ge j (s.seed.map (Value.int .u8)).length with h1 | h1
    · exact h1
    · rw [List.getElem?_eq_none h1] at hv; cases hv
  rw [show 3 + j - [Value.int .i64 s.kind, .slice A s.tape.length c, .int .u64 s.bits].length = j by simp, List.getElem?_append_left hj]
  exact hv
theorem srcV_set (s : Src) (hl : s.seed.length = 32) (A : Option Addr) (c : Nat) (n : Int) : (srcV s A c).setIfInBounds 36 (.int .u64 n) = srcV (s.to n) A c := by
  unfold srcV Src.to
  rw [List.setIfInBounds_toArray]
  congr 1
  rw [List.set_append_right _ _ (by simp), List.set_append_right _ _ (by simp [hl])]
  simp [hl]
theorem size_src : (Tryz.prog.info? 28).map (·.size) = some 37 := by kernel_rfl
theorem zero_src : ∀ W, (zeroValue 28).run Tryz.prog W = .ok (.agg (srcV Src.zero none 0)) W := (zero_of_info (n := 37) (by kernel_rfl)).1
theorem sizedS (s : Src) (hl : s.seed.length = 32) (A : Option Addr) (c : Nat) : (Tryz.prog.info? 28).map (·.size) = some (srcV s A c).size := by rw [srcV_size s hl]; exact size_src
theorem srcV_same (a b : Src) (ha : a.seed.length = 32) (hb : b.seed.length = 32) (A B : Option Addr) (c d : Nat) : (srcV a A c).size = (srcV b B d).size := by rw [srcV_size a ha, srcV_size b hb]
theorem run_build_src0 (w : World) : (Instr.build 28 #[]).run Tryz.prog w = .ok (.agg #[.int .i64 0, .slice none 0 0, .int .u64 0, .int .u8 0, .int .u8 0, .int .u8 0, .int .u8 0, .int .u8 0, .int .u8 0, .int .u8 0, .int .u8 0, .int .u8 0, .int .u8 0, .int .u8 0, .int .u8 0, .int .u8 0, .int .u8 0, .int .u8 0, .int .u8 0, .int .u8 0, .int .u8 0, .int .u8 0, .int .u8 0, .int .u8 0, .int .u8 0, .int .u8 0, .int .u8 0, .int .u8 0, .int .u8 0, .int .u8 0, .int .u8 0, .int .u8 0, .int .u8 0, .int .u8 0, .int .u8 0, .int .u64 0, .int .u64 0]) w := by
  go_simp
theorem build_src0 {a : Act} {o : Oper} (w : World) (ho : o.op = .build 28 #[]) : (execOp a.eval o).run Tryz.prog w = .ok (.value (.agg (srcV Src.zero none 0))) w := by
  unfold execOp
  simp only [ho, List.map_toArray, List.map_nil]
  change ((Instr.build 28 #[]) >>= fun v => pure (Next.value v)).run Tryz.prog w = _
  simp only [Sem.run_bind, run_build_src0, Result.andThen_ok, Sem.run_pure]
  rfl
theorem run_build_src1 (A : Option Addr) (n c : Nat) (b : Int) (w : World) : (Instr.build 28 #[(0, .int .i64 1), (1, .slice A n c), (2, .int .u64 b)]).run Tryz.prog w = .ok (.agg #[.int .i64 1, .slice A n c, .int .u64 b, .int .u8 0, .int .u8 0, .int .u8 0, .int .u8 0, .int .u8 0, .int .u8 0, .int .u8 0, .int .u8 0, .int .u8 0, .int .u8 0, .int .u8 0, .int .u8 0, .int .u8 0, .int .u8 0, .int .u8 0, .int .u8 0, .int .u8 0, .int .u8 0, .int .u8 0, .int .u8 0, .int .u8 0, .int .u8 0, .int .u8 0, .int .u8 0, .int .u8 0, .int .u8 0, .int .u8 0, .int .u8 0, .int .u8 0, .int .u8 0, .int .u8 0, .int .u8 0, .int .u64 0, .int .u64 0]) w := by
  go_simp
def Src.tapeOf (zs : List Int) (b : Int) : Src := ⟨1, zs, b, List.replicate 32 0, 0, 0⟩
def Src.strm (s : List Int) (d : Int) : Src := ⟨2, [], 0, s, d, 0⟩
theorem build_src1 {a : Act} {o : Oper} {x y z : Operand} (w : World) (A : Option Addr) (c : Nat) (zs : List Int) (b : Int) (ho : o.op = .build 28 #[(0, x), (1, y), (2, z)]) (hx : a.eval x = .int .i64 1) (hy : a.eval y = .slice A zs.length c) (hz : a.eval z = .int .u64 b) :
    (execOp a.eval o).run Tryz.prog w = .ok (.value (.agg (srcV (Src.tapeOf zs b) A c))) w := by
  unfold execOp
  simp only [ho, List.map_toArray, List.map_cons, List.map_nil, hx, hy, hz]
  change ((Instr.build 28 #[(0, .int .i64 1), (1, .slice A zs.length c), (2, .int .u64 b)]) >>= fun v => pure (Next.value v)).run Tryz.prog w = _
  simp only [Sem.run_bind, run_build_src1, Result.andThen_ok, Sem.run_pure]
  rfl
theorem run_build_src2 (s0 s1 s2 s3 s4 s5 s6 s7 s8 s9 s10 s11 s12 s13 s14 s15 s16 s17 s18 s19 s20 s21 s22 s23 s24 s25 s26 s27 s28 s29 s30 s31 d : Int) (w : World) : (Instr.build 28 #[(0, .int .i64 2), (3, .agg #[.int .u8 s0, .int .u8 s1, .int .u8 s2, .int .u8 s3, .int .u8 s4, .int .u8 s5, .int .u8 s6, .int .u8 s7, .int .u8 s8, .int .u8 s9, .int .u8 s10, .int .u8 s11, .int .u8 s12, .int .u8 s13, .int .u8 s14, .int .u8 s15, .int .u8 s16, .int .u8 s17, .int .u8 s18, .int .u8 s19, .int .u8 s20, .int .u8 s21, .int .u8 s22, .int .u8 s23, .int .u8 s24, .int .u8 s25, .int .u8 s26, .int .u8 s27, .int .u8 s28, .int .u8 s29, .int .u8 s30, .int .u8 s31]), (4, .int .u64 d)]).run Tryz.prog w = .ok (.agg #[.int .i64 2, .slice none 0 0, .int .u64 0, .int .u8 s0, .int .u8 s1, .int .u8 s2, .int .u8 s3, .int .u8 s4, .int .u8 s5, .int .u8 s6, .int .u8 s7, .int .u8 s8, .int .u8 s9, .int .u8 s10, .int .u8 s11, .int .u8 s12, .int .u8 s13, .int .u8 s14, .int .u8 s15, .int .u8 s16, .int .u8 s17, .int .u8 s18, .int .u8 s19, .int .u8 s20, .int .u8 s21, .int .u8 s22, .int .u8 s23, .int .u8 s24, .int .u8 s25, .int .u8 s26, .int .u8 s27, .int .u8 s28, .int .u8 s29, .int .u8 s30, .int .u8 s31, .int .u64 d, .int .u64 0]) w := by
  go_simp
theorem list32 (s : List Int) (hl : s.length = 32) : s = [s.getD 0 0, s.getD 1 0, s.getD 2 0, s.getD 3 0, s.getD 4 0, s.getD 5 0, s.getD 6 0, s.getD 7 0, s.getD 8 0, s.getD 9 0, s.getD 10 0, s.getD 11 0, s.getD 12 0, s.getD 13 0, s.getD 14 0, s.getD 15 0, s.getD 16 0, s.getD 17 0, s.getD 18 0, s.getD 19 0, s.getD 20 0, s.getD 21 0, s.getD 22 0, s.getD 23 0, s.getD 24 0, s.getD 25 0, s.getD 26 0, s.getD 27 0, s.getD 28 0, s.getD 29 0, s.getD 30 0, s.getD 31 0] := by
  match s, hl with
  | [s0, s1, s2, s3, s4, s5, s6, s7, s8, s9, s10, s11, s12, s13, s14, s15, s16, s17, s18, s19, s20, s21, s22, s23, s24, s25, s26, s27, s28, s29, s30, s31], _ => rfl
theorem build_src2 {a : Act} {o : Oper} {x y z : Operand} (w : World) (s : List Int) (hl : s.length = 32) (d : Int) (ho : o.op = .build 28 #[(0, x), (3, y), (4, z)]) (hx : a.eval x = .int .i64 2) (hy : a.eval y = .agg (intsA .u8 s)) (hz : a.eval z = .int .u64 d) :
    (execOp a.eval o).run Tryz.prog w = .ok (.value (.agg (srcV (Src.strm s d) none 0))) w := by
  rw [list32 s hl] at hy ⊢
  have h := run_build_src2 (s.getD 0 0) (s.getD 1 0) (s.getD 2 0) (s.getD 3 0) (s.getD 4 0) (s.getD 5 0) (s.getD 6 0) (s.getD 7 0) (s.getD 8 0) (s.getD 9 0) (s.getD 10 0) (s.getD 11 0) (s.getD 12 0) (s.getD 13 0) (s.getD 14 0) (s.getD 15 0) (s.getD 16 0) (s.getD 17 0) (s.getD 18 0) (s.getD 19 0) (s.getD 20 0) (s.getD 21 0) (s.getD 22 0) (s.getD 23 0) (s.getD 24 0) (s.getD 25 0) (s.getD 26 0) (s.getD 27 0) (s.getD 28 0) (s.getD 29 0) (s.getD 30 0) (s.getD 31 0) d w
  unfold execOp
  simp only [ho, List.map_toArray, List.map_cons, List.map_nil, hx, hy, hz]
  change ((Instr.build 28 #[(0, .int .i64 2), (3, .agg #[.int .u8 (s.getD 0 0), .int .u8 (s.getD 1 0), .int .u8 (s.getD 2 0), .int .u8 (s.getD 3 0), .int .u8 (s.getD 4 0), .int .u8 (s.getD 5 0), .int .u8 (s.getD 6 0), .int .u8 (s.getD 7 0), .int .u8 (s.getD 8 0), .int .u8 (s.getD 9 0), .int .u8 (s.getD 10 0), .int .u8 (s.getD 11 0), .int .u8 (s.getD 12 0), .int .u8 (s.getD 13 0), .int .u8 (s.getD 14 0), .int .u8 (s.getD 15 0), .int .u8 (s.getD 16 0), .int .u8 (s.getD 17 0), .int .u8 (s.getD 18 0), .int .u8 (s.getD 19 0), .int .u8 (s.getD 20 0), .int .u8 (s.getD 21 0), .int .u8 (s.getD 22 0), .int .u8 (s.getD 23 0), .int .u8 (s.getD 24 0), .int .u8 (s.getD 25 0), .int .u8 (s.getD 26 0), .int .u8 (s.getD 27 0), .int .u8 (s.getD 28 0), .int .u8 (s.getD 29 0), .int .u8 (s.getD 30 0), .int .u8 (s.getD 31 0)]), (4, .int .u64 d)]) >>= fun v => pure (Next.value v)).run Tryz.prog w = _
  simp only [Sem.run_bind, h, Result.andThen_ok, Sem.run_pure]
  rfl
/-- A row of the call's own lies apart from a block of other things. -/
theorem OwnI.apart {w : World} {base g n c : Nat} {e t : TypeId} {k : IntKind} {A : Option Addr} {zs : List Int} {cs : Array Value} (h : OwnI w base e k (.slice A n c) zs) (hb : Blk w g t cs) (hne : e ≠ t) : ∀ b off, 0 < n → A = some ⟨b, off, none⟩ → b ≠ g := by
  intro b off hn hA
  rcases h.2 with ⟨h1, h2⟩ | ⟨g', cap, cur, h1, h2, h3, h4⟩
  · injection h1 with e1 e2 e3
    omega
  · injection h1 with e1 e2 e3
    rw [hA] at e1
    injection e1 with e1
    injection e1 with e1 e4
    subst e1
    rintro rfl
    unfold Blk at hb
    rw [h3] at hb
    injection hb with hb
    injection hb with _ h5
    exact hne h5
theorem size_u64s : (Tryz.prog.info? 24).map (·.size) = some 1 := by kernel_rfl
theorem pow2_le (n : Nat) (h : n ≤ 63) : (2 : Int) ^ n ≤ 9223372036854775808 := by
  have h1 : (2 : Int) ^ n ≤ 2 ^ 63 := by
    have h2 : 2 ^ n ≤ 2 ^ 63 := Nat.pow_le_pow_right (by omega) h
    exact_mod_cast h2
  omega
theorem right_div (x : Int) (q : Nat) (h : q ≤ 7) : Wd.right x (q : Int) = x / 2 ^ q := by
  unfold Wd.right
  rcases Nat.eq_zero_or_pos q with h0 | h0
  · subst h0
    simp
  · rw [if_neg (by omega), if_neg (by omega), Int.toNat_natCast]
/-- What was handed back has its tape where it was, or in memory of its own. -/
def Sep (w : World) (A A' : Option Addr) : Prop := A' = A ∨ ∀ b off, A' = some ⟨b, off, none⟩ → w.heap.size ≤ b
def RetTake (w : World) (s : Src) (k : Int) (A : Option Addr) (e : Ending) (w' : World) : Prop :=
  ∃ A' c', e = .returned (.tuple #[.int .u64 (takeV s k), .agg (srcV (takeS s k) A' c'), .int .i64 (takeE s k)]) ∧ Rd .u8 w' w'.heap.size A' s.tape.length s.tape ∧ s.tape.length ≤ c' ∧ c' ≤ maxLen ∧ Sep w A A' ∧ Below w.heap.size w w'
def RetStrm (w : World) (s : List Int) (d : Int) (e : Ending) (w' : World) : Prop := ∃ A' c', e = .returned (.agg (srcV (Src.strm s d) A' c')) ∧ c' ≤ maxLen ∧ Below w.heap.size w w'
def RetTape (w : World) (zs : List Int) (b : Int) (e : Ending) (w' : World) : Prop :=
  if b ≤ 8 * (zs.length : Int) then ∃ A' c', e = .returned (.tuple #[.agg (srcV (Src.tapeOf zs b) A' c'), .int .i64 0]) ∧ Rd .u8 w' w'.heap.size A' zs.length zs ∧ zs.length ≤ c' ∧ c' ≤ maxLen ∧ Below w.heap.size w w'
  else e = .returned (.tuple #[.agg (srcV Src.zero none 0), .int .i64 1]) ∧ Below w.heap.size w w'
/-- Two blocks of sources of the call's own, the second one newer. -/
def Src2 (w : World) (g2 g5 : Nat) (V Z : Array Value) : World → Prop := Fx [.blk g5 28 Z, .blk g2 28 V, .bel w]
section
variable {w w1 w2 : World} {g2 g5 : Nat} {V Z X : Array Value}
theorem Src2.below (h : Src2 w g2 g5 V Z w1) (hb : Below w1.heap.size w1 w2) : Src2 w g2 g5 V Z w2 := Fx.below h hb
theorem Src2.drew (h : Src2 w g2 g5 V Z w1) : Src2 w g2 g5 V Z w1.drew := Fx.drew h
theorem Src2.snd (h : Src2 w g2 g5 V Z w1) : Blk w1 g5 28 Z := h.1
theorem Src2.fst (h : Src2 w g2 g5 V Z w1) : Blk w1 g2 28 V := h.2.1
theorem Src2.bel (h : Src2 w g2 g5 V Z w1) : Below w.heap.size w w1 := h.2.2.1
theorem Src2.keep (h : Src2 w g2 g5 V Z w1) : Fx [.blk g2 28 V, .bel w] w1 := h.2
theorem Src2.old (h : Src2 w g2 g5 V Z w1) : Fx [.blk g5 28 Z] w1 := ⟨h.1, trivial⟩
theorem Src2.mk (h : Fx [.blk g2 28 V, .bel w] w1) (h2 : Blk w1 g5 28 Z) : Src2 w g2 g5 V Z w1 := ⟨h2, h⟩
/-- The first one is written in part. -/
theorem Src2.only (h : Src2 w g2 g5 V Z w1) (h0 : w.heap.size ≤ g2) (h1 : g2 < g5) (hk : Blk w2 g2 28 X) (ho : Only g2 w1 w2) : Src2 w g2 g5 X Z w2 :=
  ⟨Blk.only h.1 ho (Nat.ne_of_gt h1), hk, Below.trans h.bel (ho.below h0 h.bel.size), trivial⟩
end
section
variable {P : Program} {w : World} {ops : Array Oper} {rest : List Oper} {o : Oper} {a : Act} {Q : Exit → Act → World → Prop}
/-- A row is loaded behind a guard that holds. -/
theorem wpList_load_gdb (hw : Region.wanted o (yielded ops a.tmps) = true) (ty : TypeId) (x : Operand) (ho : o.op = .load ty x) (g : Nat) (hx : a.eval x = .pointer (some ⟨g, 0, none⟩)) (t : TypeId) (cs : Array Value) (hb : Blk w g t cs)
    (d : TypeDesc) (hu : P.underlying ty = some d) (hd : d.isRow = true) (hi : (P.info? ty).map (·.size) = some cs.size)
    (h : wpList P ops Q rest (a.put o.dst (.agg cs)) w) : wpList P ops Q (o :: rest) a w :=
  wpList_step fun K hK => by
    rw [if_pos hw]
    exact wp_load_mid ty x ho g 0 hx cs.toList d hb.range hu hd (by rw [Array.length_toList]; exact hi) (hK _ _ h)
/-- The same of integers that lie within a row. -/
theorem wpList_load_gdo (hw : Region.wanted o (yielded ops a.tmps) = true) (ty : TypeId) (x : Operand) (ho : o.op = .load ty x) (g off : Nat) (hx : a.eval x = .pointer (some ⟨g, off, none⟩)) (k : IntKind) (zs : List Int) (hb : w.rangeAt g off (zs.map (Value.int k)))
    (d : TypeDesc) (hu : P.underlying ty = some d) (hd : d.isRow = true) (hi : (P.info? ty).map (·.size) = some zs.length)
    (h : wpList P ops Q rest (a.put o.dst (.agg (intsA k zs))) w) : wpList P ops Q (o :: rest) a w :=
  wpList_step fun K hK => by
    rw [if_pos hw]
    exact wp_load_mid ty x ho g off hx (zs.map (Value.int k)) d hb hu hd (by rw [List.length_map]; exact hi) (hK _ _ h)
/-- A row out of memory, between two values. -/
theorem bodyPost_mid {fn : Func} {R : Ending → World → Prop} (p0 p p1 : Tmp) (ty : TypeId) (h : fn.results = #[.tmp p0, .cell p ty, .tmp p1]) (g : Nat) (ht : a.tmps.getD p undef = .pointer (some ⟨g, 0, none⟩)) (v0 v1 : Value) (h0 : a.tmps.getD p0 undef = v0) (h1 : a.tmps.getD p1 undef = v1) (t : TypeId) (cs : Array Value) (hb : Blk w g t cs)
    (d : TypeDesc) (hu : P.underlying ty = some d) (hd : d.isRow = true) (hi : (P.info? ty).map (·.size) = some cs.size) (hdf : a.defers = []) (hR : R (.returned (.tuple #[v0, .agg cs, v1])) w) : bodyPost P fn R .ret a w := by
  refine bodyPost_ret (v := .tuple #[v0, .agg cs, v1]) ?_ hdf hR
  have hl := run_loadVar_mid (P := P) w g 0 ty cs.toList d hb.range hu hd (by rw [Array.length_toList]; exact hi)
  have ht' : a.tmps[p]?.getD undef = .pointer (some ⟨g, 0, none⟩) := by rw [← ht, Array.getD_eq_getD_getElem?]
  have h0' : a.tmps[p0]?.getD undef = v0 := by rw [← h0, Array.getD_eq_getD_getElem?]
  have h1' : a.tmps[p1]?.getD undef = v1 := by rw [← h1, Array.getD_eq_getD_getElem?]
  simp only [results, h]
  simp [ht', h0', h1', asAddr, hl]
end
end Go.Proofs.YtepclbmcacdhlaaGreatDoor
/-
  == of two hashes by value; small matters that laws share.
  Conditions: those that each theorem names.
-/
set_option maxRecDepth 100000
set_option linter.unusedVariables false
set_option linter.unusedSimpArgs false
namespace Go.Proofs.YtepclbmcacdhlaaGreatDoor
open Go.ChangeShapes Go.WideShapes Go.ChangeAt Go.RowKit
theorem Rd.to {k : IntKind} {w w' : World} {n : Nat} {A : Option Addr} {zs : List Int} (h : Rd k w w.heap.size A n zs) (hb : Below w.heap.size w w') : Rd k w' w'.heap.size A n zs := (h.below hb).mono hb.size
theorem eq_hash (zs ys : List Int) (hz : zs.length = 32) (hy : ys.length = 32) (w : World) : (Op.equalIn 10000 26 (.agg (intsA .u8 zs)) (.agg (intsA .u8 ys))).run Tryz.prog w = .ok (decide (zs = ys)) w := by
  obtain ⟨i0, hi, _, hs, _⟩ := info_parts info_u8'
  exact run_equal_ints Tryz.underlying26 Tryz.underlying5 hi hs (by kernel_rfl) zs ys hz hy w
theorem same_hash (zs : List Int) (hz : zs.length = 32) (w : World) : (Op.equalIn 10000 26 (.agg (intsA .u8 zs)) (.agg (intsA .u8 zs))).run Tryz.prog w = .ok true w := by
  have := eq_hash zs zs hz hz w
  rwa [decide_eq_true rfl] at this
theorem u8b {l : List Int} (h : ∀ z ∈ l, (Lit.int .u8 z).wf = true) : ∀ z ∈ l, 0 ≤ z ∧ z < 256 := fun z hz => by have := bounds_u8 (h z hz); omega
end Go.Proofs.YtepclbmcacdhlaaGreatDoor
/-
  How many bits an attempt takes, in plain Lean.
  Conditions: those that each theorem names.
-/
set_option maxRecDepth 100000
set_option linter.unusedVariables false
set_option linter.unusedSimpArgs false
namespace Go.Proofs.YtepclbmcacdhlaaGreatDoor
/-- How many bits an attempt takes. -/
def needN (n : Int) : Nat := if n = 0 then 0 else Wd.bitsL (n - 1).toNat
theorem needN_le (n : Int) (h0 : 0 ≤ n) (h1 : n < 18446744073709551616) : needN n ≤ 64 := by
  unfold needN
  split
  · omega
  · exact Wd.bitsL_le _ (by omega)
end Go.Proofs.YtepclbmcacdhlaaGreatDoor
/-
  Draws below a bound in plain Lean: attempt by attempt; which attempt draws; how many tapes draw which number.
  Conditions: those that each theorem names.
-/
set_option maxRecDepth 100000
set_option linter.unusedVariables false
set_option linter.unusedSimpArgs false
namespace Go.Proofs.YtepclbmcacdhlaaGreatDoor
/-- What is drawn by so many attempts of k bits: the number, the source, the error. -/
def drawGo (k : Nat) (n : Int) : Nat → Src → Int × Src × Int
  | 0, s => (0, s, 9)
  | m + 1, s => if takeE s k = 0 then (if takeV s k < n then (takeV s k, takeS s k, 0) else drawGo k n m (takeS s k)) else (0, s, takeE s k)
def drawB (s : Src) (n a : Int) : Bool := rightS s && decide (1 ≤ n ∧ n < 9223372036854775808 ∧ 1 ≤ a ∧ a ≤ 64)
def drawR (s : Src) (n a : Int) : Int × Src × Int := if drawB s n a = true then drawGo (needN n) n a.toNat s else (0, s, 1)
def drawV (s : Src) (n a : Int) : Int := (drawR s n a).1
def drawT (s : Src) (n a : Int) : Src := (drawR s n a).2.1
def drawE (s : Src) (n a : Int) : Int := (drawR s n a).2.2
theorem drawGo_zero (k : Nat) (n : Int) (s : Src) : drawGo k n 0 s = (0, s, 9) := rfl
theorem drawGo_err {k : Nat} {n : Int} {m : Nat} {s : Src} (h : takeE s k ≠ 0) : drawGo k n (m + 1) s = (0, s, takeE s k) := by rw [drawGo, if_neg h]
theorem drawGo_hit {k : Nat} {n : Int} {m : Nat} {s : Src} (h : takeE s k = 0) (hx : takeV s k < n) : drawGo k n (m + 1) s = (takeV s k, takeS s k, 0) := by rw [drawGo, if_pos h, if_pos hx]
theorem drawGo_miss {k : Nat} {n : Int} {m : Nat} {s : Src} (h : takeE s k = 0) (hx : ¬ takeV s k < n) : drawGo k n (m + 1) s = drawGo k n m (takeS s k) := by rw [drawGo, if_pos h, if_neg hx]
theorem takeS_to {s : Src} {k : Nat} (h : takeE s k = 0) : takeS s k = s.to (s.at_ + k) := by unfold takeS; rw [if_pos h]
theorem to_to (s : Src) (m n : Int) : (s.to m).to n = s.to n := rfl
theorem to_self (s : Src) : s.to s.at_ = s := rfl
theorem drawGo_src (k : Nat) (n : Int) : ∀ (m : Nat) (s : Src), ∃ p, (drawGo k n m s).2.1 = s.to p
  | 0, s => ⟨s.at_, rfl⟩
  | m + 1, s => by
    by_cases h : takeE s k = 0
    · by_cases hx : takeV s k < n
      · rw [drawGo_hit h hx]; exact ⟨_, takeS_to h⟩
      · rw [drawGo_miss h hx, takeS_to h]
        obtain ⟨p, hp⟩ := drawGo_src k n m (s.to (s.at_ + k))
        exact ⟨p, by rw [hp, to_to]⟩
    · rw [drawGo_err h]; exact ⟨s.at_, rfl⟩
theorem drawGo_ok (k : Nat) (n : Int) : ∀ (m : Nat) (s : Src), s.Ok → (drawGo k n m s).2.1.Ok
  | 0, s, ok => ok
  | m + 1, s, ok => by
    by_cases h : takeE s k = 0
    · by_cases hx : takeV s k < n
      · rw [drawGo_hit h hx]; exact takeS_ok ok k
      · rw [drawGo_miss h hx]; exact drawGo_ok k n m _ (takeS_ok ok k)
    · rw [drawGo_err h]; exact ok
theorem drawGo_val (k : Nat) (n : Int) : ∀ (m : Nat) (s : Src), 0 ≤ (drawGo k n m s).1 ∧ (drawGo k n m s).1 < 18446744073709551616
  | 0, s => by rw [drawGo_zero]; exact ⟨Int.le_refl _, (by show (0 : Int) < 18446744073709551616; omega)⟩
  | m + 1, s => by
    by_cases h : takeE s k = 0
    · by_cases hx : takeV s k < n
      · rw [drawGo_hit h hx]; exact takeV_in s k
      · rw [drawGo_miss h hx]; exact drawGo_val k n m _
    · rw [drawGo_err h]; exact ⟨Int.le_refl _, (by show (0 : Int) < 18446744073709551616; omega)⟩
theorem takeE_in (s : Src) (k : Int) : takeE s k = 0 ∨ takeE s k = 8 ∨ takeE s k = 1 := by unfold takeE; split <;> (try split) <;> omega
theorem drawGo_e (k : Nat) (n : Int) : ∀ (m : Nat) (s : Src), 0 ≤ (drawGo k n m s).2.2 ∧ (drawGo k n m s).2.2 < 16
  | 0, s => by rw [drawGo_zero]; exact ⟨(by show (0 : Int) ≤ 9; omega), (by show (9 : Int) < 16; omega)⟩
  | m + 1, s => by
    by_cases h : takeE s k = 0
    · by_cases hx : takeV s k < n
      · rw [drawGo_hit h hx]; exact ⟨(by show (0 : Int) ≤ 0; omega), (by show (0 : Int) < 16; omega)⟩
      · rw [drawGo_miss h hx]; exact drawGo_e k n m _
    · rw [drawGo_err h]; have := takeE_in s k; exact ⟨by show 0 ≤ takeE s k; omega, by show takeE s k < 16; omega⟩
theorem drawT_ok (s : Src) (n a : Int) (ok : s.Ok) : (drawT s n a).Ok := by
  unfold drawT drawR
  split
  · exact drawGo_ok _ _ _ _ ok
  · exact ok
theorem drawT_tape (s : Src) (n a : Int) : (drawT s n a).tape = s.tape := by
  unfold drawT drawR
  split
  · obtain ⟨p, hp⟩ := drawGo_src (needN n) n a.toNat s
    rw [hp]; rfl
  · rfl
/-- Beside an error the number is 0. -/
theorem drawGo_no (k : Nat) (n : Int) : ∀ (m : Nat) (s : Src), (drawGo k n m s).2.2 ≠ 0 → (drawGo k n m s).1 = 0
  | 0, s, _ => rfl
  | m + 1, s, he => by
    by_cases h : takeE s k = 0
    · by_cases hx : takeV s k < n
      · rw [drawGo_hit h hx] at he; exact absurd rfl he
      · rw [drawGo_miss h hx] at he ⊢; exact drawGo_no k n m _ he
    · rw [drawGo_err h]
/-- Which attempt draws: the ones ahead of it draw nothing. -/
theorem drawGo_first (k : Nat) (n : Int) : ∀ (m : Nat) (s : Src), (drawGo k n m s).2.2 = 0 → (drawGo k n m s).1 < n ∧ ∃ j, j < m ∧ (drawGo k n m s).2.1 = s.to (s.at_ + (k * (j + 1) : Nat)) ∧ drawGo k n j s = (0, s.to (s.at_ + (k * j : Nat)), 9)
  | 0, s, he => by rw [drawGo_zero] at he; exact absurd he (by show ¬ (9 : Int) = 0; omega)
  | m + 1, s, he => by
    by_cases h : takeE s k = 0
    · by_cases hx : takeV s k < n
      · rw [drawGo_hit h hx]
        refine ⟨hx, 0, by omega, ?_, ?_⟩
        · rw [Nat.zero_add, Nat.mul_one]; exact takeS_to h
        · rw [Nat.mul_zero, Int.natCast_zero, Int.add_zero]; rfl
      · rw [drawGo_miss h hx] at he ⊢
        obtain ⟨h1, j, hj, h2, h3⟩ := drawGo_first k n m _ he
        refine ⟨h1, j + 1, by omega, ?_, ?_⟩
        · rw [h2, takeS_to h, to_to]
          rw [show (s.to (s.at_ + (k : Int))).at_ + ((k * (j + 1) : Nat) : Int) = s.at_ + ((k * (j + 1 + 1) : Nat) : Int) from (by
            show s.at_ + (k : Int) + _ = _
            rw [Nat.mul_add k (j + 1) 1]
            omega)]
        · rw [drawGo_miss h hx, h3, takeS_to h, to_to]
          rw [show (s.to (s.at_ + (k : Int))).at_ + ((k * j : Nat) : Int) = s.at_ + ((k * (j + 1) : Nat) : Int) from (by
            show s.at_ + (k : Int) + _ = _
            rw [Nat.mul_add k j 1]
            omega)]
    · rw [drawGo_err h] at he
      exact absurd he h
/-! ### how many tapes draw which number -/
/-- How many of the first N numbers have a property. -/
def cnt (P : Nat → Bool) : Nat → Nat
  | 0 => 0
  | N + 1 => cnt P N + if P N = true then 1 else 0
theorem cnt_add (P : Nat → Bool) (a : Nat) : ∀ b, cnt P (a + b) = cnt P a + cnt (fun y => P (a + y)) b
  | 0 => rfl
  | b + 1 => by
    rw [← Nat.add_assoc, cnt, cnt_add P a b, cnt]
    omega
theorem cnt_congr {P Q : Nat → Bool} : ∀ N, (∀ y, y < N → P y = Q y) → cnt P N = cnt Q N
  | 0, _ => rfl
  | N + 1, h => by rw [cnt, cnt, cnt_congr N (fun y hy => h y (by omega)), h N (by omega)]
theorem cnt_all (N : Nat) : cnt (fun _ => true) N = N := by
  induction N with
  | zero => rfl
  | succ N ih => rw [cnt, ih]; rfl
theorem cnt_none (N : Nat) : cnt (fun _ => false) N = 0 := by
  induction N with
  | zero => rfl
  | succ N ih => rw [cnt, ih]; rfl
theorem cnt_le (P : Nat → Bool) (N : Nat) : cnt P N ≤ N := by
  induction N with
  | zero => exact Nat.le_refl _
  | succ N ih => rw [cnt]; split <;> omega
/-- What the number x, as m attempts of a Q-fold each, the first one highest, draws: some number below n, or nothing. -/
def hits (Q n : Nat) : Nat → Nat → Option Nat
  | 0, _ => none
  | m + 1, x => if x / Q ^ m < n then some (x / Q ^ m) else hits Q n m (x % Q ^ m)
theorem hits_lt (Q n : Nat) : ∀ m x v, hits Q n m x = some v → v < n
  | 0, _, _, h => by cases h
  | m + 1, x, v, h => by
    rw [hits] at h
    split at h
    · rename_i h1; injection h with h; omega
    · exact hits_lt Q n m _ v h
theorem div_rem (h R lo : Nat) (hlo : lo < R) : (h * R + lo) / R = h ∧ (h * R + lo) % R = lo := by
  rw [Nat.mul_comm, Nat.mul_add_div (by omega), Nat.div_eq_of_lt hlo, Nat.mul_add_mod, Nat.mod_eq_of_lt hlo]
  exact ⟨rfl, rfl⟩
theorem hits_step (Q n m h lo : Nat) (hlo : lo < Q ^ m) : hits Q n (m + 1) (h * Q ^ m + lo) = if h < n then some h else hits Q n m lo := by
  obtain ⟨e1, e2⟩ := div_rem h (Q ^ m) lo hlo
  rw [hits, e1, e2]
/-- By h first attempts of Q. -/
theorem cnt_hits_up (Q n m v : Nat) (hv : v < n) : ∀ h, cnt (fun x => hits Q n (m + 1) x == some v) (h * Q ^ m) = (if v < h then Q ^ m else 0) + (h - n) * cnt (fun x => hits Q n m x == some v) (Q ^ m)
  | 0 => by rw [Nat.zero_mul, Nat.zero_sub, Nat.zero_mul]; rfl
  | h + 1 => by
    rw [Nat.add_mul, Nat.one_mul, cnt_add, cnt_hits_up Q n m v hv h]
    have hstep : cnt (fun y => hits Q n (m + 1) (h * Q ^ m + y) == some v) (Q ^ m) = if h < n then (if h = v then Q ^ m else 0) else cnt (fun x => hits Q n m x == some v) (Q ^ m) := by
      by_cases h1 : h < n
      · rw [if_pos h1]
        by_cases h2 : h = v
        · rw [if_pos h2, cnt_congr (Q := fun _ => true) _ (fun y hy => by rw [hits_step Q n m h y hy, if_pos h1, h2]; simp), cnt_all]
        · rw [if_neg h2, cnt_congr (Q := fun _ => false) _ (fun y hy => by rw [hits_step Q n m h y hy, if_pos h1]; simpa using h2), cnt_none]
      · rw [if_neg h1]
        exact cnt_congr _ (fun y hy => by rw [hits_step Q n m h y hy, if_neg h1])
    rw [hstep]
    by_cases h1 : h < n
    · rw [if_pos h1, show h - n = 0 by omega, show h + 1 - n = 0 by omega]
      by_cases h2 : h = v
      · rw [if_pos h2, if_neg (by omega), if_pos (by omega)]; omega
      · rw [if_neg h2]
        by_cases h3 : v < h
        · rw [if_pos h3, if_pos (by omega), Nat.add_zero]
        · rw [if_neg h3, if_neg (by omega), Nat.add_zero]
    · rw [if_neg h1, if_pos (by omega), if_pos (by omega), show h + 1 - n = h - n + 1 by omega, Nat.add_mul, Nat.one_mul]
      omega
theorem cnt_none_up (Q n m : Nat) : ∀ h, cnt (fun x => hits Q n (m + 1) x == none) (h * Q ^ m) = (h - n) * cnt (fun x => hits Q n m x == none) (Q ^ m)
  | 0 => by rw [Nat.zero_mul, Nat.zero_sub, Nat.zero_mul]; rfl
  | h + 1 => by
    rw [Nat.add_mul, Nat.one_mul, cnt_add, cnt_none_up Q n m h]
    have hstep : cnt (fun y => hits Q n (m + 1) (h * Q ^ m + y) == none) (Q ^ m) = if h < n then 0 else cnt (fun x => hits Q n m x == none) (Q ^ m) := by
      by_cases h1 : h < n
      · rw [if_pos h1, cnt_congr (Q := fun _ => false) _ (fun y hy => by rw [hits_step Q n m h y hy, if_pos h1]; simp), cnt_none]
      · rw [if_neg h1]
        exact cnt_congr _ (fun y hy => by rw [hits_step Q n m h y hy, if_neg h1])
    rw [hstep]
    by_cases h1 : h < n
    · rw [if_pos h1, show h - n = 0 by omega, show h + 1 - n = 0 by omega, Nat.zero_mul]
    · rw [if_neg h1, show h + 1 - n = h - n + 1 by omega, Nat.add_mul, Nat.one_mul]
/-- Nothing is drawn by just the others. -/
theorem cnt_lost (Q n : Nat) : ∀ m, cnt (fun x => hits Q n m x == none) (Q ^ m) = (Q - n) ^ m
  | 0 => by rw [Nat.pow_zero, Nat.pow_zero]; rfl
  | m + 1 => by rw [Nat.pow_succ, Nat.mul_comm, cnt_none_up, cnt_lost Q n m, Nat.pow_succ, Nat.mul_comm]
/-- Each number is drawn by just as many. -/
theorem cnt_even (Q n v : Nat) (hv : v < n) (hQ : n ≤ Q) : ∀ m, cnt (fun x => hits Q n m x == some v) (Q ^ m) * n + (Q - n) ^ m = Q ^ m
  | 0 => by
    rw [Nat.pow_zero, Nat.pow_zero, show cnt (fun x => hits Q n 0 x == some v) 1 = 0 from rfl, Nat.zero_mul]
  | m + 1 => by
    have ih := cnt_even Q n v hv hQ m
    rw [Nat.pow_succ, Nat.mul_comm (Q ^ m), cnt_hits_up Q n m v hv Q, if_pos (by omega), Nat.pow_succ]
    obtain ⟨d, rfl⟩ : ∃ d, Q = n + d := ⟨Q - n, by omega⟩
    rw [Nat.add_sub_cancel_left] at ih ⊢
    generalize cnt (fun x => hits (n + d) n m x == some v) ((n + d) ^ m) = c at ih ⊢
    generalize (n + d) ^ m = R at ih ⊢
    generalize d ^ m = D at ih ⊢
    subst ih
    rw [Nat.add_mul, Nat.add_mul, Nat.mul_add, Nat.add_mul n d, Nat.add_mul n d]
    have e1 : n * (c * n) = c * n * n := Nat.mul_comm _ _
    have e2 : d * c * n = d * (c * n) := Nat.mul_assoc _ _ _
    have e3 : D * d = d * D := Nat.mul_comm _ _
    have e4 : n * D = D * n := Nat.mul_comm _ _
    omega
end Go.Proofs.YtepclbmcacdhlaaGreatDoor
/-
  Draws in memory: the source that is drawn from, the place of the one that is handed back, and what else stays.
  Conditions: those that each theorem names.
-/
set_option maxRecDepth 100000
set_option linter.unusedVariables false
set_option linter.unusedSimpArgs false
namespace Go.Proofs.YtepclbmcacdhlaaGreatDoor
open Go.ChangeShapes Go.WideShapes Go.ChangeAt Go.RowKit
/-- A slice that is not empty lies apart from a block. -/
def Apt (n : Nat) (A : Option Addr) (g : Nat) : Prop := ∀ b off, 0 < n → A = some ⟨b, off, none⟩ → b ≠ g
theorem Apt.of_lt {k : IntKind} {w : World} {B n g : Nat} {A : Option Addr} {zs : List Int} (h : Rd k w B A n zs) (hg : B ≤ g) : Apt n A g := fun b off hn hA => by
  obtain ⟨b', off', e, hlt, _⟩ := h.2 hn
  rw [hA] at e
  injection e with e
  injection e with e1 e2
  omega
theorem Apt.of_sep {w : World} {n g : Nat} {A A' : Option Addr} (h : Sep w A A') (ha : Apt n A g) (hg : g < w.heap.size) : Apt n A' g := fun b off hn hA => by
  rcases h with h | h
  · rw [h] at hA; exact ha b off hn hA
  · have := h b off hA; omega
theorem Sep.trans {w w' : World} {A B C : Option Addr} (h : Sep w A B) (h' : Sep w' B C) (hs : w.heap.size ≤ w'.heap.size) : Sep w A C := by
  rcases h' with h1 | h1
  · rw [h1]; exact h
  · exact .inr fun b off hA => by have := h1 b off hA; omega
theorem Sep.refl (w : World) (A : Option Addr) : Sep w A A := .inl rfl
/-- A slice of bytes that reads as a list. -/
def RdP (A : Option Addr) (n : Nat) (zs : List Int) (w : World) : Prop := Rd .u8 w w.heap.size A n zs
section
variable {A : Option Addr} {n : Nat} {zs : List Int} {w w' : World}
theorem RdP.rd (h : RdP A n zs w) : Rd .u8 w w.heap.size A n zs := h
theorem RdP.below (h : RdP A n zs w) (hb : Below w.heap.size w w') : RdP A n zs w' := (Rd.below h hb).mono hb.size
theorem RdP.drew (h : RdP A n zs w) : RdP A n zs w.drew := h.below (Below.refl _ _).drew
theorem RdP.store {g : Nat} {t : TypeId} {cs : Array Value} (h : RdP A n zs w) (hk : Blk w g t cs) (ha : Apt n A g) (hs : w'.heap.size = w.heap.size) (hb : ∀ B, B ≤ g → Below B w w') (ho : ∀ j, j ≠ g → w'.heap[j]? = w.heap[j]?) : RdP A n zs w' := by
  have h1 := Rd.other h ho ha
  show Rd .u8 w' w'.heap.size A n zs
  rw [hs]
  exact h1
end
/-- The source that is drawn from at g3; the place of what is handed back at g7; the source's tape. -/
structure DrS (w0 : World) (g3 g7 : Nat) (V : Array Value) (A : Option Addr) (n : Nat) (zs : List Int) (w : World) : Prop where
  blk : Blk w g3 28 V
  bel : Below w0.heap.size w0 w
  rd : RdP A n zs w
  apt3 : Apt n A g3
  apt7 : Apt n A g7
  le3 : w0.heap.size ≤ g3
  lt : g3 < g7
  lt7 : g7 < w.heap.size
section
variable {w0 w w' : World} {g3 g7 n : Nat} {V V' : Array Value} {A A' : Option Addr} {zs : List Int}
theorem DrS.below (h : DrS w0 g3 g7 V A n zs w) (hb : Below w.heap.size w w') : DrS w0 g3 g7 V A n zs w' :=
  ⟨h.blk.below hb h.blk.lt, Below.trans h.bel (hb.mono h.bel.size), h.rd.below hb, h.apt3, h.apt7, h.le3, h.lt, by have := h.lt7; have := hb.size; omega⟩
theorem DrS.drew (h : DrS w0 g3 g7 V A n zs w) : DrS w0 g3 g7 V A n zs w.drew := h.below (Below.refl _ _).drew
theorem DrS.le7 (h : DrS w0 g3 g7 V A n zs w) : w0.heap.size ≤ g7 := by have := h.le3; have := h.lt; omega
theorem DrS.lt3 (h : DrS w0 g3 g7 V A n zs w) : g3 < w.heap.size := by have := h.lt; have := h.lt7; omega
/-- Another block is stored. -/
theorem DrS.store {g : Nat} {t : TypeId} {cs : Array Value} (h : DrS w0 g3 g7 V A n zs w) (hk : Blk w g t cs) (ha : g3 ≠ g ∧ Apt n A g ∧ w0.heap.size ≤ g) (hs : w'.heap.size = w.heap.size) (hb : ∀ B, B ≤ g → Below B w w') (ho : ∀ j, j ≠ g → w'.heap[j]? = w.heap[j]?) : DrS w0 g3 g7 V A n zs w' :=
  ⟨Blk.other h.blk ho ha.1, Below.trans h.bel (hb _ ha.2.2), h.rd.store hk ha.2.1 hs hb ho, h.apt3, h.apt7, h.le3, h.lt, by rw [hs]; exact h.lt7⟩
/-- The place of what is handed back is stored. -/
theorem DrS.store7 (h : DrS w0 g3 g7 V A n zs w) : g3 ≠ g7 ∧ Apt n A g7 ∧ w0.heap.size ≤ g7 := ⟨Nat.ne_of_lt h.lt, h.apt7, h.le7⟩
/-- The source that is drawn from is stored, with another tape. -/
theorem DrS.put3 (h : DrS w0 g3 g7 V A n zs w) (hr : RdP A' n zs w) (h3 : Apt n A' g3) (h7 : Apt n A' g7) (hk : Blk w' g3 28 V') (hs : w'.heap.size = w.heap.size) (hb : ∀ B, B ≤ g3 → Below B w w') (ho : ∀ j, j ≠ g3 → w'.heap[j]? = w.heap[j]?) : DrS w0 g3 g7 V' A' n zs w' :=
  ⟨hk, Below.trans h.bel (hb _ h.le3), hr.store h.blk h3 hs hb ho, h3, h7, h.le3, h.lt, by rw [hs]; exact h.lt7⟩
/-- Its blocks come one behind the other. -/
theorem DrS.mk2 {w1 w2 w3 : World} {Z : Array Value} (hrd : Rd .u8 w w.heap.size A n zs) (hk1 : Blk w1 w.heap.size 28 V) (hb1 : Below w.heap.size w w1) (hk2 : Blk w2 w1.heap.size 28 Z) (hb2 : Below w1.heap.size w1 w2) (hb3 : Below w2.heap.size w2 w3) : DrS w w.heap.size w1.heap.size V A n zs w3 :=
  have hb13 : Below w1.heap.size w1 w3 := hb2.trans (hb3.mono hb2.size)
  have hb03 : Below w.heap.size w w3 := hb1.trans (hb13.mono hb1.size)
  ⟨hk1.below hb13 hk1.lt, hb03, (hrd.below hb03).mono hb03.size, Apt.of_lt hrd (Nat.le_refl _), Apt.of_lt hrd hb1.size, Nat.le_refl _, hk1.lt, by have := hk2.lt; have := hb3.size; omega⟩
end
/-- A draw that is handed back: it lies at g11, the place of what is handed back at g7. -/
structure DrH (w0 : World) (g7 g11 : Nat) (V : Array Value) (A : Option Addr) (n : Nat) (zs : List Int) (w : World) : Prop where
  blk : Blk w g11 28 V
  bel : Below w0.heap.size w0 w
  rd : RdP A n zs w
  apt : Apt n A g7
  ne : g11 ≠ g7
  le : w0.heap.size ≤ g7
section
variable {w0 w w' w5 w6 w7 : World} {g3 g7 g11 n : Nat} {V V2 Z : Array Value} {A A2 : Option Addr} {zs : List Int}
theorem DrH.below (h : DrH w0 g7 g11 V A n zs w) (hb : Below w.heap.size w w') : DrH w0 g7 g11 V A n zs w' :=
  ⟨h.blk.below hb h.blk.lt, Below.trans h.bel (hb.mono h.bel.size), h.rd.below hb, h.apt, h.ne, h.le⟩
theorem DrH.drew (h : DrH w0 g7 g11 V A n zs w) : DrH w0 g7 g11 V A n zs w.drew := h.below (Below.refl _ _).drew
theorem DrH.store {g : Nat} {t : TypeId} {cs : Array Value} (h : DrH w0 g7 g11 V A n zs w) (hk : Blk w g t cs) (ha : g11 ≠ g ∧ Apt n A g ∧ w0.heap.size ≤ g) (hs : w'.heap.size = w.heap.size) (hb : ∀ B, B ≤ g → Below B w w') (ho : ∀ j, j ≠ g → w'.heap[j]? = w.heap[j]?) : DrH w0 g7 g11 V A n zs w' :=
  ⟨Blk.other h.blk ho ha.1, Below.trans h.bel (hb _ ha.2.2), h.rd.store hk ha.2.1 hs hb ho, h.apt, h.ne, h.le⟩
theorem DrH.store7 (h : DrH w0 g7 g11 V A n zs w) : g11 ≠ g7 ∧ Apt n A g7 ∧ w0.heap.size ≤ g7 := ⟨h.ne, h.apt, h.le⟩
theorem DrS.hof (h : DrS w0 g3 g7 V A n zs w) (Z : Array Value) : Fx.off g3 V [.blk g7 28 Z] := ⟨Nat.ne_of_gt h.lt, trivial⟩
/-- What an attempt took is laid into a block of its own. -/
theorem DrS.took (h : DrS w0 g3 g7 V A n zs w) (hz : Fx [.blk g7 28 Z] w) (hr : Rd .u8 w5 w5.heap.size A2 n zs) (hsp : Sep w A A2) (hb5 : Below w.heap.size w w5) (hb6 : Below w5.heap.size w5 w6) (hk6 : Blk w6 w5.heap.size 28 Z) (hk7 : Blk w7 w5.heap.size 28 V2) (hs7 : w7.heap.size = w6.heap.size) (hb7 : ∀ B, B ≤ w5.heap.size → Below B w6 w7) (ho7 : ∀ j, j ≠ w5.heap.size → w7.heap[j]? = w6.heap[j]?) :
    DrS w0 g3 g7 V A n zs w7 ∧ Fx [.blk g7 28 Z] w7 ∧ RdP A2 n zs w7 ∧ Apt n A2 g3 ∧ Apt n A2 g7 ∧ DrH w0 g7 w5.heap.size V2 A2 n zs w7 := by
  have hr5 : RdP A2 n zs w5 := hr
  have z5 := hb5.size
  have l3 := h.lt3
  have l7 := h.lt7
  have a3 := Apt.of_sep hsp h.apt3 h.lt3
  have a7 := Apt.of_sep hsp h.apt7 h.lt7
  have S6 := (h.below hb5).below hb6
  have S7 := S6.store hk6 ⟨by omega, Apt.of_lt h.rd.rd z5, by have := h.bel.size; omega⟩ hs7 hb7 ho7
  have R7 := (hr5.below hb6).store hk6 (Apt.of_lt hr (Nat.le_refl _)) hs7 hb7 ho7
  have Z6 := (hz.below hb5).below hb6
  have Z7 := Z6.store hk6 (show Fx.off w5.heap.size Z [.blk g7 28 Z] from ⟨Nat.ne_of_lt (Nat.lt_of_lt_of_le l7 z5), trivial⟩) hs7 hb7 ho7
  exact ⟨S7, Z7, R7, a3, a7, hk7, S7.bel, R7, a7, by omega, h.le7⟩
end
/-- What a draw hands back, and leaves. -/
def RetDraw (w : World) (s : Src) (A : Option Addr) (r : Int × Src × Int) (e : Ending) (w' : World) : Prop :=
  ∃ A' c', e = .returned (.tuple #[.int .u64 r.1, .agg (srcV r.2.1 A' c'), .int .i64 r.2.2]) ∧ Rd .u8 w' w'.heap.size A' s.tape.length s.tape ∧ s.tape.length ≤ c' ∧ c' ≤ maxLen ∧ Sep w A A' ∧ Below w.heap.size w w'
/-- Behind so many attempts that drew nothing. -/
def DrL (w0 : World) (g3 g7 : Nat) (s : Src) (k : Nat) (n : Int) (a : Nat) (A0 : Option Addr) (Z : Array Value) (i : Nat) (w : World) : Prop :=
  ∃ si Ai ci, drawGo k n a s = drawGo k n (a - i) si ∧ si.Ok ∧ si.tape = s.tape ∧ DrS w0 g3 g7 (srcV si Ai ci) Ai s.tape.length s.tape w ∧ Fx [.blk g7 28 Z] w ∧ Sep w0 A0 Ai ∧ s.tape.length ≤ ci ∧ ci ≤ maxLen
end Go.Proofs.YtepclbmcacdhlaaGreatDoor
/-
  What a call that draws a leader hands back; what walks over such calls need.
  Conditions: those that each theorem names.
-/
set_option maxRecDepth 100000
set_option linter.unusedVariables false
set_option linter.unusedSimpArgs false
namespace Go.Proofs.YtepclbmcacdhlaaGreatDoor
open Go.ChangeShapes Go.WideShapes Go.ChangeAt Go.RowKit
theorem fx1 {w : World} {g : Nat} {t : TypeId} {cs : Array Value} (h : Blk w g t cs) : Fx [.blk g t cs] w := ⟨h, trivial⟩
theorem sep_from {w w' : World} {A B : Option Addr} (h : Sep w' A B) (hs : w.heap.size ≤ w'.heap.size) : Sep w A B := (Sep.refl w A).trans h hs
theorem draw_in (s : Src) (n a : Int) : 0 ≤ (drawR s n a).1 ∧ (drawR s n a).1 < 18446744073709551616 := by
  unfold drawR
  split
  · exact drawGo_val _ _ _ _
  · exact ⟨Int.le_refl _, by show (0 : Int) < 18446744073709551616; omega⟩
/-- What a call that draws a leader hands back, and leaves. -/
def RetLead (w : World) (s : Src) (A : Option Addr) (r : Int × Src × Int) (e : Ending) (w' : World) : Prop :=
  ∃ A' c', e = .returned (.tuple #[.int .i64 r.1, .agg (srcV r.2.1 A' c'), .int .i64 r.2.2]) ∧ Rd .u8 w' w'.heap.size A' s.tape.length s.tape ∧ s.tape.length ≤ c' ∧ c' ≤ maxLen ∧ Sep w A A' ∧ Below w.heap.size w w'
end Go.Proofs.YtepclbmcacdhlaaGreatDoor
/-
  What the reference's Great of stage 13 returns.
  Conditions: the arguments lie in their types' ranges.
-/
set_option maxRecDepth 100000
set_option linter.unusedVariables false
set_option linter.unusedSimpArgs false
namespace Go.Proofs.YtepclbmcacdhlaaGreatDoor
open Go.ChangeShapes Go.WideShapes Go.ChangeAt Go.RowKit
/-- More than is looked at? -/
theorem r13great_c (s : Src) (tl : s.tape.length ≤ 9223372036854775807) (AL : Option Addr) (n c : Nat) (hn : n ≤ maxLen) (A : Option Addr) (c0 : Nat) (w : World) : Calls Tryz.prog 6 #[.slice AL n c, .agg (srcV s A c0)] w fun e w' => e = .returned (.bool (decide (200 < n ∨ 500 < s.tape.length))) ∧ Below w.heap.size w w' := by
  have HC := Lib.hid (fun (W : World) (g : Nat) (h : Blk W g 28 (srcV s A c0)) => (h.cell 1).trans (srcV_tape s A c0))
  have hnm : (n : Int) ≤ 9223372036854775807 := by unfold maxLen at hn; omega
  obtain ⟨V, hV⟩ : ∃ V, srcV s A c0 = V := ⟨_, rfl⟩
  obtain ⟨L, hL⟩ : ∃ x, s.tape.length = x := ⟨_, rfl⟩
  rw [hV, hL] at HC
  rw [hV, hL]
  rw [hL] at tl
  have hL2 : (L : Int) ≤ 9223372036854775807 := by omega
  clear hV hL hn tl
  by_cases h1 : 200 < n
  · rw [decide_eq_true (Or.inl h1)]
    have h2 : (200 : Int) < (n : Int) := by omega
    clear h1
    go_enter Tryz.func6, Tryz.ntmps6
    go_wp2_with (with_reducible refine at_any ?_; refine at_dst 3 rfl ?_; refine wpList_box_any rfl 28 (.tmp 1) rfl V rfl ?_; intro w1 hk1 hs1 hb1; have c1 := HC.out _ _ hk1.out; have HB1 := Lib.hid hb1)
    go_ret
    exact ⟨rfl, HB1.out⟩
  · have h2 : (n : Int) ≤ 200 := by omega
    by_cases h3 : 500 < L
    · rw [decide_eq_true (Or.inr h3)]
      have h4 : (500 : Int) < (L : Int) := by omega
      clear h1 h3
      go_enter Tryz.func6, Tryz.ntmps6
      go_wp2_with (with_reducible refine at_any ?_; refine at_dst 3 rfl ?_; refine wpList_box_any rfl 28 (.tmp 1) rfl V rfl ?_; intro w1 hk1 hs1 hb1; have c1 := HC.out _ _ hk1.out; have HB1 := Lib.hid hb1)
      go_ret
      exact ⟨rfl, HB1.out⟩
    · rw [decide_eq_false (fun h => h.elim h1 h3)]
      have h4 : (L : Int) ≤ 500 := by omega
      have d1 : decide (200 < (n : Int)) = false := decide_eq_false (by omega)
      have d2 : decide (500 < (L : Int)) = false := decide_eq_false (by omega)
      clear h1 h3
      go_enter Tryz.func6, Tryz.ntmps6
      go_wp2_with (with_reducible refine at_any ?_; refine at_dst 3 rfl ?_; refine wpList_box_any rfl 28 (.tmp 1) rfl V rfl ?_; intro w1 hk1 hs1 hb1; have c1 := HC.out _ _ hk1.out; have HB1 := Lib.hid hb1)
      go_ret
      exact ⟨rfl, HB1.out⟩
end Go.Proofs.YtepclbmcacdhlaaGreatDoor
/-
  What the program's stream.Domain and Split return, and the reference's Domain and pow; they leave memory as it was.
  Conditions: the arguments lie in their types' ranges.
-/
set_option maxRecDepth 100000
set_option linter.unusedSimpArgs false
namespace Go.Proofs.YtepclbmcacdhlaaGreatDoor
open Go.ChangeShapes Go.WideShapes Go.ChangeAt Go.RowKit
set_option linter.unusedVariables false
theorem dom_or (k i : Int) (k0 : 0 ≤ k) (k1 : k < 4294967296) (i0 : 0 ≤ i) (i1 : i < 4294967296) : bits .or .u64 (k * 4294967296) i = k * 4294967296 + i := Wd.u64_or_add k i 32 k0 i0 (by omega) (by omega)
theorem pow2_lt (n : Nat) (h : n ≤ 63) : (2 : Int) ^ n < 18446744073709551616 := by
  have h1 : (2 : Int) ^ n ≤ 2 ^ 63 := by
    have h2 : 2 ^ n ≤ 2 ^ 63 := Nat.pow_le_pow_right (by omega) h
    exact_mod_cast h2
  omega
theorem pow2_next (n : Nat) : (2 : Int) * 2 ^ n = 2 ^ (n + 1) := by rw [Int.pow_succ]; omega
theorem rpow_c (n : Nat) (hn : n ≤ 63) (w : World) :
    Calls Tryz.prog 60 #[.int .u64 n] w fun e w' => e = .returned (.int .u64 (2 ^ n)) ∧ w' = w := by
  go_enter Tryz.func60, Tryz.ntmps60
  go_wp2
  go_loop [3, 4] (fun p v => ∃ i : Nat, i ≤ n ∧ p = .int .u64 (2 ^ i) ∧ v = .int .u64 i) (fun _ v => n - (intOf v).toNat)
  case atStart => exact ⟨0, by omega, rfl, rfl⟩
  case round =>
    obtain ⟨i, hi, rfl, rfl⟩ := hrel
    by_cases hlt : i < n
    · have p0 := Wd.pow_pos2 i
      have p1 := pow2_lt (i + 1) (by omega)
      have e := pow2_next i
      rw [← e] at p1
      have HE := Lib.hid e
      clear e
      obtain ⟨p, hp⟩ : ∃ p : Int, 2 ^ i = p := ⟨_, rfl⟩
      rw [hp] at p0 p1 HE ⊢
      go_wp2
      go_round
      case rel => exact ⟨i + 1, by omega, by rw [← HE.out], by go_num⟩
      case measure => simp [intOf]; omega
    · obtain rfl : i = n := by omega
      go_wp2
      go_ret
      exact ⟨rfl, rfl⟩
end Go.Proofs.YtepclbmcacdhlaaGreatDoor
/-
  What the reference's functions of stage 6 return (drawlotref06: Block, Bit, Bytes), and that they leave memory as it was.
  Conditions: the arguments lie in their types' ranges.
-/
set_option maxRecDepth 100000
set_option linter.unusedSimpArgs false
namespace Go.Proofs.YtepclbmcacdhlaaGreatDoor
open Go.ChangeShapes Go.WideShapes Go.ChangeAt Go.RowKit
set_option linter.unusedVariables false
theorem rput64s_c (x : Int) (h0 : 0 ≤ x) (h1 : x < 18446744073709551616) (w : World) : Calls Tryz.prog 62 #[.int .u64 x] w fun e w' => e = .returned (.agg (intsA .u8 (put8L x))) ∧ Below w.heap.size w w' :=
  (rput64_c x h0 h1 w).mono fun _ _ ⟨h, h2, _⟩ => ⟨h, h2⟩
set_option maxHeartbeats 4000000 in
theorem rblock_c (s : List Int) (d i : Int) (hl : s.length = 32) (hs : ∀ z ∈ s, 0 ≤ z ∧ z < 256) (d0 : 0 ≤ d) (d1 : d < 18446744073709551616) (i0 : 0 ≤ i) (i1 : i < 18446744073709551616) (w : World) :
    Calls Tryz.prog 59 #[.agg (intsA .u8 s), .int .u64 d, .int .u64 i] w fun e w' => e = .returned (.agg (intsA .u8 (blkL s d i))) ∧ Below w.heap.size w w' := by
  obtain ⟨ti, hti, hz0, hz1, hzb⟩ := info_parts info_u8'
  have HPD := Lib.hid (fun W => rput64s_c d d0 d1 W)
  have HPI := Lib.hid (fun W => rput64s_c i i0 i1 W)
  have hin := blkIn_in s d i hs d0 d1 i0 i1
  have hil := blkIn_len s d i hl
  have hxl : (put8L d).length = 8 := rfl
  have hyl : (put8L i).length = 8 := rfl
  have hrl := blkL_len s d i
  have hre : blkL s d i = shaL (blkIn s d i) := rfl
  have hie : blkIn s d i = s ++ put8L d ++ put8L i := rfl
  obtain ⟨X, hX⟩ : ∃ X, put8L d = X := ⟨_, rfl⟩
  obtain ⟨Y, hY⟩ : ∃ Y, put8L i = Y := ⟨_, rfl⟩
  obtain ⟨I, hI⟩ : ∃ I, blkIn s d i = I := ⟨_, rfl⟩
  obtain ⟨R, hR⟩ : ∃ R, blkL s d i = R := ⟨_, rfl⟩
  rw [hX] at HPD hxl hie
  rw [hY] at HPI hyl hie
  rw [hI] at hin hil hre hie
  rw [hR] at hrl hre ⊢
  have HS := Lib.hid (fun A c W h h' => rsum_c A c 48 I W h h' (by omega) hin)
  rw [← hre] at HS
  obtain ⟨Z, hZ⟩ : ∃ Z : List Int, List.replicate 32 0 = Z := ⟨_, rfl⟩
  obtain ⟨V, hV⟩ : ∃ V : List Int, List.replicate 8 0 = V := ⟨_, rfl⟩
  have HZ0 := Lib.hid zero_hash
  have HV0 := Lib.hid zero_b8s
  rw [hZ] at HZ0
  rw [hV] at HV0
  have hZl : Z.length = 32 := by rw [← hZ]; simp
  have hVl : V.length = 8 := by rw [← hV]; simp
  have SR := Lib.hid (show (Tryz.prog.info? 26).map (·.size) = some R.length by rw [hrl]; exact size_hash)
  have ZR := Lib.hid (show Z.length = R.length by rw [hrl, hZl])
  have SX := Lib.hid (show (Tryz.prog.info? 87).map (·.size) = some X.length by rw [hxl]; exact size_b8s)
  have SY := Lib.hid (show (Tryz.prog.info? 87).map (·.size) = some Y.length by rw [hyl]; exact size_b8s)
  have VX := Lib.hid (show V.length = X.length by rw [hxl, hVl])
  have VY := Lib.hid (show V.length = Y.length by rw [hyl, hVl])
  have HSL := Lib.hid hl
  have HXL := Lib.hid hxl
  have HYL := Lib.hid hyl
  have HIL := Lib.hid hil
  have HIE := Lib.hid hie
  have HSN := Lib.hid (fun (l : List Int) (j : Nat) (h : j < l.length) => take_snoc l j h)
  clear hin hil hxl hyl hrl hre hie hX hY hI hR hZ hV hZl hVl hl hs
  go_enter Tryz.func59, Tryz.ntmps59
  go_wp2_with (first
    | (with_reducible refine at_any ?_; refine at_dst 3 rfl ?_; refine wpList_box_ints rfl 26 (.tmp 0) rfl .u8 s rfl ?_; intro w1 hk1 hs1 hb1; have F1 := Lib.hid (Fx.box hk1.out hb1); clear hk1 hs1 hb1)
    | (with_reducible refine at_any ?_; refine at_dst 6 rfl ?_; refine wpList_alloc_ints rfl 26 rfl .u8 Z HZ0.out ?_; intro w2 hk2 hs2 hb2; have U1 := Lib.hid (Fx.under_new F1.out rfl); have F2 := Lib.hid (Fx.new F1.out hk2.out hb2); clear hk2 hs2 F1 hb2))
  have h3lt : w.heap.size < w1.heap.size := U1.out.1
  obtain ⟨g6, hg6⟩ : ∃ g, w1.heap.size = g := ⟨_, rfl⟩
  obtain ⟨g3, hg3⟩ : ∃ g, w.heap.size = g := ⟨_, rfl⟩
  have h0 : w.heap.size ≤ g3 := by omega
  rw [hg6, hg3] at F2 h3lt
  rw [hg6, hg3]
  clear hg6 hg3 U1
  go_loopw [7, 8] (fun v c wr => ∃ j : Nat, j ≤ 32 ∧ c = .int .i64 j ∧ OwnI wr w.heap.size 5 .u8 v (s.take j) ∧ Fx [.blk g6 26 (intsA .u8 Z), .blk g3 26 (intsA .u8 s), .bel w] wr) (fun _ c _ => 32 - (intOf c).toNat)
  case atStart => exact ⟨0, by omega, rfl, own_nil _ _ _, F2.out⟩
  case round =>
    clear F2
    obtain ⟨j, hj, rfl, hown, hF⟩ := hrel
    have hlen : (s.take j).length = j := by rw [List.length_take, HSL.out]; omega
    by_cases hlt : j < 32
    · have hsn := HSN.out s j (by rw [HSL.out]; exact hlt)
      have hc : wr.cell? ⟨g3, j, none⟩ = some (.int .u8 (s.getD j 0)) := (Fx.fst hF.2).cell (by rw [HSL.out]; exact hlt)
      obtain ⟨b, hb⟩ : ∃ b, s.getD j 0 = b := ⟨_, rfl⟩
      rw [hb] at hsn hc
      have HLN := Lib.hid hlen
      have HSNj := Lib.hid hsn
      have HOW := Lib.hid hown
      have HF := Lib.hid hF
      clear hb hsn hown hF hlen
      go_wp2_with (at_builtin; refine wpList_append_ints _ rfl (.tmp 17) (.tmp 21) 23 rfl w.heap.size 5 ti _ 1 .u8 Tryz.underlying23 hti hz0 hz1 hzb rfl _ (s.take j) rfl (HOW.out.alloc _) (wr.heap.size + 1) (some ⟨wr.heap.size, 0, none⟩) 1 1 [b] rfl (rd_one wr 5 .u8 b) (by rw [HLN.out]; simp [maxLen]; omega) (by rw [HLN.out]; omega) (by have := Below.size (Fx.bel3 HF.out); simp; omega) ?_; intro v6 w6 hown6 hg6 hat6; have F6 := Lib.hid (Fx.grown (Fx.alloc HF.out _) (HOW.out.alloc _) (Fx.free3 (by decide) (by decide)) (by have := Below.size (Fx.bel3 HF.out); simp; omega) hg6); rw [HSNj.out] at hown6; have O6 := Lib.hid hown6; clear hg6 hat6 hown6)
      go_roundw
      case rel => exact ⟨j + 1, by omega, by go_num, O6.out, F6.out⟩
      case measure => simp [intOf]; omega
    · obtain rfl : j = 32 := by omega
      rw [List.take_of_length_le (by rw [HSL.out]; exact Nat.le_refl _)] at hown
      have HOW := Lib.hid hown
      have HF := Lib.hid hF
      clear hown hF hlen
      go_wp2_with (first
        | (go_at_call 62; (with_reducible refine (HPD.out _).mono ?_); rintro e w3 ⟨rfl, hb3⟩; have F3 := Lib.hid (HF.out.below hb3); have O3 := Lib.hid (HOW.out.below hb3); clear HF HOW hb3)
        | (go_at_call 62; (with_reducible refine (HPI.out _).mono ?_); rintro e w4 ⟨rfl, hb4⟩; have F4 := Lib.hid (F3.out.below hb4); have O4 := Lib.hid (O3.out.below hb4); clear F3 O3 hb4)
        | (with_reducible refine at_any ?_; refine at_dst 9 rfl ?_; refine wpList_alloc_ints rfl 87 rfl .u8 V HV0.out ?_; intro w5 hk5 hs5 hb5; have U4 := Lib.hid (Fx.under_new F4.out rfl); have F5 := Lib.hid (Fx.new F4.out hk5.out hb5); have B5 := Lib.hid hb5; clear hk5 hs5 F4 hb5)
        | (with_reducible refine at_any ?_; refine at_dst 10 rfl ?_; refine wpList_alloc_ints rfl 87 rfl .u8 V HV0.out ?_; intro w6 hk6 hs6 hb6; have U5 := Lib.hid (Fx.under_new F5.out rfl); have F6 := Lib.hid (Fx.new F5.out hk6.out hb6); have B6 := Lib.hid (B5.out.trans (hb6.mono B5.out.size)); clear hk6 hs6 F5 hb6)
        | (with_reducible refine at_any ?_; refine at_store 9 rfl ?_; refine wpList_store_ints rfl 87 (.tmp 9) (.tmp 24) rfl w4.heap.size rfl 87 .u8 V X (Fx.snd F6.out) rfl VX.out SX.out ?_; intro w7 hk7 hs7 hb7 ho7; have F7 := Lib.hid (Fx.put2 F6.out U5.out U4.out hk7.out hs7.out hb7 ho7); have U7 := Lib.hid (Fx.under_put U5.out (intsA .u8 X)); have B7 := Lib.hid (B6.out.trans (hb7 _ (Nat.le_refl _))); clear hk7 hs7 hb7 ho7 F6 U5)
        | (with_reducible refine at_any ?_; refine at_store 10 rfl ?_; refine wpList_store_ints rfl 87 (.tmp 10) (.tmp 26) rfl w5.heap.size rfl 87 .u8 V Y (Fx.fst F7.out) rfl VY.out SY.out ?_; intro w8 hk8 hs8 hb8 ho8; have F8 := Lib.hid (Fx.put1 F7.out U7.out hk8.out hs8.out hb8 ho8); have O8 := Lib.hid (O4.out.below (B7.out.trans (hb8 _ B5.out.size))); clear hk8 hs8 hb8 ho8 F7))
      have hB : Blk4 w w5.heap.size w4.heap.size g6 g3 Y X Z s w8 := F8.out
      have h7 : w4.heap.size < w5.heap.size := U7.out.1
      have h6 : g6 < w4.heap.size := U4.out.1
      have HO := Lib.hid O8.out
      clear F8 U7 U4 O8 O4 B5 B6 B7
      obtain ⟨g10, hg10⟩ : ∃ g, w5.heap.size = g := ⟨_, rfl⟩
      obtain ⟨g9, hg9⟩ : ∃ g, w4.heap.size = g := ⟨_, rfl⟩
      rw [hg10, hg9] at hB
      rw [hg10, hg9] at h7
      rw [hg9] at h6
      rw [hg10, hg9]
      have HB := Lib.hid hB
      clear hg10 hg9 hB
      go_loopw [7, 11] (fun v c wr => ∃ j : Nat, j ≤ 8 ∧ c = .int .i64 j ∧ OwnI wr w.heap.size 5 .u8 v (s ++ X.take j) ∧ Blk4 w g10 g9 g6 g3 Y X Z s wr) (fun _ c _ => 8 - (intOf c).toNat)
      case atStart => exact ⟨0, by omega, rfl, by rw [List.take_zero, List.append_nil]; exact HO.out, HB.out⟩
      case round =>
        clear HO HB
        obtain ⟨j, hj, rfl, hown, hF⟩ := hrel
        have hlen : (s ++ X.take j).length = 32 + j := by rw [List.length_append, List.length_take, HXL.out]; rw [HSL.out]; omega
        by_cases hlt : j < 8
        · have hsn : s ++ X.take j ++ [X.getD j 0] = s ++ X.take (j + 1) := by rw [List.append_assoc, HSN.out X j (by rw [HXL.out]; exact hlt)]
          have hc : wr.cell? ⟨g9, j, none⟩ = some (.int .u8 (X.getD j 0)) := hF.c7.cell (by rw [HXL.out]; exact hlt)
          obtain ⟨b, hb⟩ : ∃ b, X.getD j 0 = b := ⟨_, rfl⟩
          rw [hb] at hsn hc
          have HLN := Lib.hid hlen
          have HSNj := Lib.hid hsn
          have HOW := Lib.hid hown
          have HF := Lib.hid hF
          clear hb hsn hown hF hlen
          go_wp2_with (at_builtin; refine wpList_append_ints _ rfl (.tmp 31) (.tmp 35) 23 rfl w.heap.size 5 ti _ 1 .u8 Tryz.underlying23 hti hz0 hz1 hzb rfl _ (s ++ X.take j) rfl (HOW.out.alloc _) (wr.heap.size + 1) (some ⟨wr.heap.size, 0, none⟩) 1 1 [b] rfl (rd_one wr 5 .u8 b) (by rw [HLN.out]; simp [maxLen]; omega) (by rw [HLN.out]; omega) (by have := Below.size HF.out.bel; simp; omega) ?_; intro v6 w6 hown6 hg6 hat6; have F6 := Lib.hid (Blk4.grown (HF.out.alloc _) (HOW.out.alloc _) (by have := Below.size HF.out.bel; simp; omega) hg6); rw [HSNj.out] at hown6; have O6 := Lib.hid hown6; clear hg6 hat6 hown6)
          go_roundw
          case rel => exact ⟨j + 1, by omega, by go_num, O6.out, F6.out⟩
          case measure => simp [intOf]; omega
        · obtain rfl : j = 8 := by omega
          rw [List.take_of_length_le (by rw [HXL.out]; exact Nat.le_refl _)] at hown
          have HB := Lib.hid hF
          have HO := Lib.hid hown
          clear hown hF hlen
          rw [show ((8 : Nat) : Int) = 8 from rfl]
          go_wp2
          go_loopw [7, 12] (fun v c wr => ∃ j : Nat, j ≤ 8 ∧ c = .int .i64 j ∧ OwnI wr w.heap.size 5 .u8 v ((s ++ X) ++ Y.take j) ∧ Blk4 w g10 g9 g6 g3 Y X Z s wr) (fun _ c _ => 8 - (intOf c).toNat)
          case atStart => exact ⟨0, by omega, rfl, by rw [List.take_zero, List.append_nil]; exact HO.out, HB.out⟩
          case round =>
            clear HO HB
            obtain ⟨j, hj, rfl, hown, hF⟩ := hrel
            have hlen : ((s ++ X) ++ Y.take j).length = 40 + j := by rw [List.length_append, List.length_take, HYL.out]; rw [List.length_append, HSL.out, HXL.out]; omega
            by_cases hlt : j < 8
            · have hsn : (s ++ X) ++ Y.take j ++ [Y.getD j 0] = (s ++ X) ++ Y.take (j + 1) := by rw [List.append_assoc, HSN.out Y j (by rw [HYL.out]; exact hlt)]
              have hc : wr.cell? ⟨g10, j, none⟩ = some (.int .u8 (Y.getD j 0)) := hF.c8.cell (by rw [HYL.out]; exact hlt)
              obtain ⟨b, hb⟩ : ∃ b, Y.getD j 0 = b := ⟨_, rfl⟩
              rw [hb] at hsn hc
              have HLN := Lib.hid hlen
              have HSNj := Lib.hid hsn
              have HOW := Lib.hid hown
              have HF := Lib.hid hF
              clear hb hsn hown hF hlen
              go_wp2_with (at_builtin; refine wpList_append_ints _ rfl (.tmp 41) (.tmp 45) 23 rfl w.heap.size 5 ti _ 1 .u8 Tryz.underlying23 hti hz0 hz1 hzb rfl _ ((s ++ X) ++ Y.take j) rfl (HOW.out.alloc _) (wr.heap.size + 1) (some ⟨wr.heap.size, 0, none⟩) 1 1 [b] rfl (rd_one wr 5 .u8 b) (by rw [HLN.out]; simp [maxLen]; omega) (by rw [HLN.out]; omega) (by have := Below.size HF.out.bel; simp; omega) ?_; intro v6 w6 hown6 hg6 hat6; have F6 := Lib.hid (Blk4.grown (HF.out.alloc _) (HOW.out.alloc _) (by have := Below.size HF.out.bel; simp; omega) hg6); rw [HSNj.out] at hown6; have O6 := Lib.hid hown6; clear hg6 hat6 hown6)
              go_roundw
              case rel => exact ⟨j + 1, by omega, by go_num, O6.out, F6.out⟩
              case measure => simp [intOf]; omega
            · obtain rfl : j = 8 := by omega
              rw [List.take_of_length_le (by rw [HYL.out]; exact Nat.le_refl _)] at hown
              obtain ⟨A7, c7, rfl, hc7, _⟩ := hown.form
              rw [← HIE.out, HIL.out] at hc7
              rw [← HIE.out] at hown
              rw [← HIE.out, HIL.out]
              have HB := Lib.hid hF
              have hr7 := hown.rd rfl
              rw [HIL.out] at hr7
              have HR7 := Lib.hid hr7
              have HC7 := Lib.hid hc7
              clear hown hF hlen hc7 hr7
              go_wp2_with (first
                | (go_at_call 63; (with_reducible refine (HS.out A7 c7 _ HR7.out HC7.out).mono ?_); rintro e w9 ⟨rfl, hb9⟩; have HB9 := Lib.hid (HB.out.below hb9); clear hb9)
                | (with_reducible refine at_any ?_; refine at_store 6 rfl ?_; refine wpList_store_ints rfl 26 (.tmp 6) (.tmp 48) rfl g6 rfl 26 .u8 Z R HB9.out.c6 rfl ZR.out SR.out ?_; intro w11 hk11 hs11 hb11 ho11; have HB11 := Lib.hid (HB9.out.put6 h6 h7 h3lt h0 hk11.out hs11.out hb11 ho11))
                | (refine bodyPost_cell 6 26 rfl g6 rfl 26 .u8 R HB11.out.c6 _ Tryz.underlying26 rfl SR.out rfl ?_))
              exact HB11.out.bel
set_option maxHeartbeats 2000000 in
theorem rbit_c (s : List Int) (d n : Int) (hl : s.length = 32) (hs : ∀ z ∈ s, 0 ≤ z ∧ z < 256) (d0 : 0 ≤ d) (d1 : d < 18446744073709551616) (n0 : 0 ≤ n) (n1 : n < 18446744073709551616) (w : World) :
    Calls Tryz.prog 53 #[.agg (intsA .u8 s), .int .u64 d, .int .u64 n] w fun e w' => e = .returned (.int .u64 (bitN s d n)) ∧ Below w.heap.size w w' := by
  have HB := Lib.hid (fun W => rblock_c s d (n / 256) hl hs d0 d1 (by omega) (by omega) W)
  have hRl := blkL_len s d (n / 256)
  obtain ⟨R, hR⟩ : ∃ R, blkL s d (n / 256) = R := ⟨_, rfl⟩
  rw [hR] at HB hRl
  have hj : (n % 256 / 8).toNat < 32 := by omega
  have e1 : n % 256 / 8 = (((n % 256 / 8).toNat : Nat) : Int) := by omega
  have hb := bytN_in s d (n / 256) (n % 256 / 8).toNat
  have hbe : R.getD (n % 256 / 8).toNat 0 = bytN s d (n / 256) (n % 256 / 8).toNat := by unfold bytN; rw [hR]
  have e2 : 7 - n % 8 = (((7 - n % 8).toNat : Nat) : Int) := by omega
  have hq : (7 - n % 8).toNat ≤ 7 := by omega
  have hres : bitN s d n = bytN s d (n / 256) (n % 256 / 8).toNat / 2 ^ (7 - n % 8).toNat % 2 := rfl
  obtain ⟨j, hjj⟩ : ∃ j, (n % 256 / 8).toNat = j := ⟨_, rfl⟩
  obtain ⟨q, hqq⟩ : ∃ q, (7 - n % 8).toNat = q := ⟨_, rfl⟩
  rw [hjj] at hj e1 hb hbe hres
  rw [hqq] at e2 hq hres
  obtain ⟨b, hbb⟩ : ∃ b, bytN s d (n / 256) j = b := ⟨_, rfl⟩
  rw [hbb] at hb hbe hres
  have HC := Lib.hid (fun (W : World) g (h : BlkI W g 26 .u8 R) => (show W.cell? ⟨g, j, none⟩ = some (.int .u8 b) by rw [h.cell (by omega), hbe]))
  have p0 := Wd.pow_pos2 q
  have p1 := pow2_lt q (by omega)
  have HP := Lib.hid (fun W => rpow_c q (by omega) W)
  obtain ⟨p, hp⟩ : ∃ p : Int, 2 ^ q = p := ⟨_, rfl⟩
  rw [hp] at p0 p1 HP hres
  have p2 : (p == 0) = false := by rw [beq_eq_false_iff_ne]; omega
  have h2 : 0 ≤ b / p := Int.ediv_nonneg hb.1 (by omega)
  have h3 : b / p < 256 := by have := Int.ediv_le_self p hb.1; omega
  have HRES := Lib.hid hres
  have SS := Lib.hid (show (Tryz.prog.info? 26).map (·.size) = some s.length by rw [hl]; exact size_hash)
  have SR := Lib.hid (show (Tryz.prog.info? 26).map (·.size) = some R.length by rw [hRl]; exact size_hash)
  obtain ⟨Z, hZ⟩ : ∃ Z : List Int, List.replicate 32 0 = Z := ⟨_, rfl⟩
  have HZ0 := Lib.hid zero_hash
  rw [hZ] at HZ0
  have ZR := Lib.hid (show Z.length = R.length by rw [hRl, ← hZ]; simp)
  obtain ⟨hb0, hb1⟩ := hb
  clear hZ hres hbb hbe hRl hR hl hs hp
  go_enter Tryz.func53, Tryz.ntmps53
  go_wp2_with (first
    | (with_reducible refine at_any ?_; refine at_dst 3 rfl ?_; refine wpList_box_ints rfl 26 (.tmp 0) rfl .u8 s rfl ?_; intro w1 hk1 hs1 hb1; have F1 := Lib.hid (Fx.box hk1.out hb1); clear hk1 hs1 hb1)
    | (with_reducible refine at_any ?_; refine at_dst 8 rfl ?_; refine wpList_load_ints rfl 26 (.tmp 3) rfl w.heap.size rfl 26 .u8 s (Fx.fst F1.out) _ Tryz.underlying26 rfl SS.out ?_)
    | (go_at_call 59; (with_reducible refine (HB.out _).mono ?_); rintro e w3 ⟨rfl, hb3⟩; have F3 := Lib.hid (F1.out.below hb3); clear F1 hb3)
    | (with_reducible refine at_any ?_; refine at_dst 7 rfl ?_; refine wpList_alloc_ints rfl 26 rfl .u8 Z HZ0.out ?_; intro w4 hk4 hs4 hb4; have U3 := Lib.hid (Fx.under_new F3.out rfl); have F4 := Lib.hid (Fx.new F3.out hk4.out hb4); clear hk4 hs4 F3 hb4)
    | (with_reducible refine at_any ?_; refine at_store 7 rfl ?_; refine wpList_store_ints rfl 26 (.tmp 7) (.tmp 12) rfl w3.heap.size rfl 26 .u8 Z R (Fx.fst F4.out) rfl ZR.out SR.out ?_; intro w5 hk5 hs5 hb5 ho5; have F5 := Lib.hid (Fx.put1 F4.out U3.out hk5.out hs5.out hb5 ho5); have cj := HC.out _ _ (Fx.fst F5.out); clear hk5 hs5 hb5 ho5 F4))
  have hlt : ((j : Nat) : Int) < 32 := by omega
  have t1 : n.tmod 256 = n % 256 := Int.tmod_eq_emod_of_nonneg n0
  have t2 : n.tmod 8 = n % 8 := Int.tmod_eq_emod_of_nonneg n0
  have t3 : (n % 256).tdiv 8 = n % 256 / 8 := Int.tdiv_eq_ediv_of_nonneg (by omega)
  have t4 : b.tdiv p = b / p := Int.tdiv_eq_ediv_of_nonneg hb0
  have t5 : (b / p).tmod 2 = b / p % 2 := Int.tmod_eq_emod_of_nonneg h2
  have e3 : IntKind.u64.wrap ((n.tmod 256).tdiv 8) = (j : Int) := by rw [t1, t3, e1, IntKind.wrap_u64]; omega
  have e4 : IntKind.u64.wrap (7 - n.tmod 8) = (q : Int) := by rw [t2, e2, IntKind.wrap_u64]; omega
  have e5 : IntKind.u64.wrap (b.tdiv p) = b / p := by rw [t4, IntKind.wrap_u64]; omega
  have e6 : IntKind.u64.wrap b = b := by rw [IntKind.wrap_u64]; omega
  have p3 : p ≠ 0 := by omega
  clear t1 t2 t3 t4
  go_quiet (first | (go_at_call 60; refine Calls.quiet_of_same (HP.out _)))
  go_wp2
  go_ret
  exact ⟨ret_int HRES.out.symm, below_drewN (Fx.bel3 F5.out) _⟩
def RetBr (w : World) (zs : List Int) (n : Nat) (e : Ending) (w' : World) : Prop := ∃ A c, e = .returned (.slice A n c) ∧ n ≤ c ∧ c ≤ maxLen ∧ Rd .u8 w' w'.heap.size A n zs ∧ Below w.heap.size w w'
end Go.Proofs.YtepclbmcacdhlaaGreatDoor
/-
  What the reference's functions of stage 7 return (Right, Left, the n-th bit, Take, Tape, Same), and that memory is left as it was.
  Conditions: the arguments lie in their types' ranges.
-/
set_option maxRecDepth 100000
set_option linter.unusedSimpArgs false
namespace Go.Proofs.YtepclbmcacdhlaaGreatDoor
open Go.ChangeShapes Go.WideShapes Go.ChangeAt Go.RowKit
set_option linter.unusedVariables false
set_option maxHeartbeats 1000000 in
theorem rsright_c (s : Src) (ok : s.Ok) (A : Option Addr) (c : Nat) (w : World) : Calls Tryz.prog 29 #[.agg (srcV s A c)] w fun e w' => e = .returned (.bool (rightS s)) ∧ Below w.heap.size w w' := by
  have HC := Lib.hid (fun (W : World) (g : Nat) (h : Blk W g 28 (srcV s A c)) => And.intro ((h.cell 0).trans (srcV_kind s A c)) (And.intro ((h.cell 1).trans (srcV_tape s A c)) (And.intro ((h.cell 2).trans (srcV_bits s A c)) ((h.cell 36).trans (srcV_at s ok.sl A c)))))
  have k0 := ok.k0
  have k1 := ok.k1
  have tl := ok.tl
  have b0 := ok.b0
  have b1 := ok.b1
  have a0 := ok.a0
  have a1 := ok.a1
  have hR : rightS s = if s.kind = 1 then decide (s.bits ≤ 8 * (s.tape.length : Int)) && decide (s.at_ ≤ s.bits) else decide (s.kind = 2) && decide (s.at_ ≤ 4611686018427387904) := rfl
  obtain ⟨V, hV⟩ : ∃ V, srcV s A c = V := ⟨_, rfl⟩
  obtain ⟨kd, hkd⟩ : ∃ x, s.kind = x := ⟨_, rfl⟩
  obtain ⟨L, hL⟩ : ∃ x, s.tape.length = x := ⟨_, rfl⟩
  obtain ⟨bt, hbt⟩ : ∃ x, s.bits = x := ⟨_, rfl⟩
  obtain ⟨at_, hat⟩ : ∃ x, s.at_ = x := ⟨_, rfl⟩
  rw [hV, hkd, hL, hbt, hat] at HC
  rw [hkd, hL, hbt, hat] at hR
  rw [hkd] at k0 k1
  rw [hL] at tl
  rw [hbt] at b0 b1
  rw [hat] at a0 a1
  rw [hV, hR]
  clear hV hkd hL hbt hat hR ok
  have e1 : IntKind.u64.wrap (8 * (L : Int)) = 8 * L := by rw [IntKind.wrap_u64]; omega
  by_cases hk : kd = 1
  · rw [if_pos hk]
    subst hk
    by_cases h1 : bt ≤ 8 * (L : Int)
    all_goals
      first | rw [decide_eq_true h1] | rw [decide_eq_false h1]
      first | rw [Bool.true_and] | rw [Bool.false_and]
      go_enter Tryz.func29, Tryz.ntmps29
      go_wp2_with (with_reducible refine at_any ?_; refine at_dst 1 rfl ?_; refine wpList_box_any rfl 28 (.tmp 0) rfl V rfl ?_; intro w1 hk1 hs1 hb1; have c0 := (HC.out _ _ hk1.out).1; have c1 := (HC.out _ _ hk1.out).2.1; have c2 := (HC.out _ _ hk1.out).2.2.1; have c3 := (HC.out _ _ hk1.out).2.2.2)
      go_ret
      exact ⟨rfl, hb1⟩
  · rw [if_neg hk]
    have t1 : (kd == 1) = false := by rw [beq_eq_false_iff_ne]; exact hk
    by_cases h1 : kd = 2
    all_goals
      first | rw [decide_eq_true h1] | rw [decide_eq_false h1]
      first | rw [Bool.true_and] | rw [Bool.false_and]
      first | subst h1 | (have t2 : (kd == 2) = false := by rw [beq_eq_false_iff_ne]; exact h1)
      go_enter Tryz.func29, Tryz.ntmps29
      go_wp2_with (with_reducible refine at_any ?_; refine at_dst 1 rfl ?_; refine wpList_box_any rfl 28 (.tmp 0) rfl V rfl ?_; intro w1 hk1 hs1 hb1; have c0 := (HC.out _ _ hk1.out).1; have c1 := (HC.out _ _ hk1.out).2.1; have c2 := (HC.out _ _ hk1.out).2.2.1; have c3 := (HC.out _ _ hk1.out).2.2.2)
      go_ret
      exact ⟨rfl, hb1⟩
set_option maxHeartbeats 1000000 in
theorem rsleft_c (s : Src) (ok : s.Ok) (A : Option Addr) (c : Nat) (w : World) : Calls Tryz.prog 41 #[.agg (srcV s A c)] w fun e w' => e = .returned (.int .u64 (leftS s)) ∧ Below w.heap.size w w' := by
  have HC := Lib.hid (fun (W : World) (g : Nat) (h : Blk W g 28 (srcV s A c)) => And.intro ((h.cell 0).trans (srcV_kind s A c)) (And.intro ((h.cell 2).trans (srcV_bits s A c)) ((h.cell 36).trans (srcV_at s ok.sl A c))))
  have HRT := Lib.hid (fun W => rsright_c s ok A c W)
  have SV := Lib.hid (sizedS s ok.sl A c)
  have k0 := ok.k0
  have k1 := ok.k1
  have b0 := ok.b0
  have b1 := ok.b1
  have a0 := ok.a0
  have a1 := ok.a1
  have hl := left_le ok
  have hL : leftS s = if rightS s = true then (if s.kind = 1 then s.bits - s.at_ else 4611686018427387904 - s.at_) else 0 := rfl
  obtain ⟨V, hV⟩ : ∃ V, srcV s A c = V := ⟨_, rfl⟩
  obtain ⟨kd, hkd⟩ : ∃ x, s.kind = x := ⟨_, rfl⟩
  obtain ⟨bt, hbt⟩ : ∃ x, s.bits = x := ⟨_, rfl⟩
  obtain ⟨at_, hat⟩ : ∃ x, s.at_ = x := ⟨_, rfl⟩
  obtain ⟨r, hr⟩ : ∃ x, rightS s = x := ⟨_, rfl⟩
  rw [hV, hkd, hbt, hat] at HC
  rw [hV, hr] at HRT
  rw [hV] at SV
  rw [hkd, hbt, hat, hr] at hL
  rw [hkd] at k0 k1
  rw [hbt] at b0 b1
  rw [hat] at a0 a1
  rw [hV]
  rw [hL] at hl
  rw [hL]
  clear hV hkd hbt hat hr hL ok
  cases r
  · rw [if_neg (by decide)]
    go_enter Tryz.func41, Tryz.ntmps41
    go_wp2_with (first
      | (with_reducible refine at_any ?_; refine at_dst 1 rfl ?_; refine wpList_box_any rfl 28 (.tmp 0) rfl V rfl ?_; intro w1 hk1 hs1 hb1)
      | (with_reducible refine at_any ?_; refine at_dst 3 rfl ?_; refine wpList_load_blk rfl 28 (.tmp 1) rfl w.heap.size rfl 28 V hk1.out _ Tryz.underlying28 rfl SV.out ?_)
      | (go_at_call 29; (with_reducible refine (HRT.out _).mono ?_); rintro e w2 ⟨rfl, hb2⟩))
    go_ret
    exact ⟨rfl, hb1.trans (hb2.mono hb1.size)⟩
  · rw [if_pos rfl] at hl ⊢
    by_cases hk : kd = 1
    all_goals
      first | rw [if_pos hk] at hl ⊢ | rw [if_neg hk] at hl ⊢
      first | subst hk | (have t1 : (kd == 1) = false := by rw [beq_eq_false_iff_ne]; exact hk)
      first | (have e1 : IntKind.u64.wrap (bt - at_) = bt - at_ := by rw [IntKind.wrap_u64]; omega) | (have e2 : IntKind.u64.wrap (4611686018427387904 - at_) = 4611686018427387904 - at_ := by rw [IntKind.wrap_u64]; omega)
      go_enter Tryz.func41, Tryz.ntmps41
      go_wp2_with (first
        | (with_reducible refine at_any ?_; refine at_dst 1 rfl ?_; refine wpList_box_any rfl 28 (.tmp 0) rfl V rfl ?_; intro w1 hk1 hs1 hb1)
        | (with_reducible refine at_any ?_; refine at_dst 3 rfl ?_; refine wpList_load_blk rfl 28 (.tmp 1) rfl w.heap.size rfl 28 V hk1.out _ Tryz.underlying28 rfl SV.out ?_)
        | (go_at_call 29; (with_reducible refine (HRT.out _).mono ?_); rintro e w2 ⟨rfl, hb2⟩; have k2 := hk1.out.below hb2 hk1.out.lt; have c0 := (HC.out _ _ k2).1; have c2 := (HC.out _ _ k2).2.1; have c3 := (HC.out _ _ k2).2.2))
      go_ret
      exact ⟨rfl, hb1.trans (hb2.mono hb1.size)⟩
set_option maxHeartbeats 1000000 in
theorem rsbit_c (s : Src) (ok : s.Ok) (n : Int) (n0 : 0 ≤ n) (n1 : n < 18446744073709551616) (hn : s.kind = 2 ∨ n < 8 * (s.tape.length : Int)) (A : Option Addr) (c : Nat) (w : World) (hrd : Rd .u8 w w.heap.size A s.tape.length s.tape) : Calls Tryz.prog 42 #[.agg (srcV s A c), .int .u64 n] w fun e w' => e = .returned (.int .u64 (bitS s n)) ∧ Below w.heap.size w w' := by
  have HC := Lib.hid (fun (W : World) (g : Nat) (h : Blk W g 28 (srcV s A c)) => And.intro ((h.cell 0).trans (srcV_kind s A c)) (And.intro ((h.cell 1).trans (srcV_tape s A c)) (And.intro ((h.cell 35).trans (srcV_dom s ok.sl A c)) (srcV_seed h))))
  have k0 := ok.k0
  have k1 := ok.k1
  have tl := ok.tl
  have SSD := Lib.hid (show (Tryz.prog.info? 26).map (·.size) = some s.seed.length by rw [ok.sl]; exact size_hash)
  have HBT := Lib.hid (fun W => rbit_c s.seed s.dom n ok.sl ok.si ok.d0 ok.d1 n0 n1 W)
  by_cases hk : s.kind = 2
  · have hb : bitS s n = bitN s.seed s.dom n := by unfold bitS; rw [if_pos hk]
    rw [hb]
    obtain ⟨V, hV⟩ : ∃ V, srcV s A c = V := ⟨_, rfl⟩
    rw [hV, hk] at HC
    rw [hV]
    clear hV hk hb hn
    go_enter Tryz.func42, Tryz.ntmps42
    go_wp2_with (first
      | (with_reducible refine at_any ?_; refine at_dst 2 rfl ?_; refine wpList_box_any rfl 28 (.tmp 0) rfl V rfl ?_; intro w1 hk1 hs1 hb1; have c0 := (HC.out _ _ hk1.out).1; have c2 := (HC.out _ _ hk1.out).2.2.1)
      | (with_reducible refine at_any ?_; refine at_dst 9 rfl ?_; refine wpList_load_at rfl 26 (.tmp 8) rfl w.heap.size 3 rfl .u8 s.seed (HC.out _ _ hk1.out).2.2.2 _ Tryz.underlying26 rfl SSD.out ?_)
      | (go_at_call 53; (with_reducible refine (HBT.out _).mono ?_); rintro e w2 ⟨rfl, hb2⟩))
    go_ret
    exact ⟨rfl, hb1.trans (hb2.mono hb1.size)⟩
  · have hlt : n < 8 * (s.tape.length : Int) := by rcases hn with h | h; exact absurd h hk; exact h
    have t1 : (s.kind == 2) = false := by rw [beq_eq_false_iff_ne]; exact hk
    obtain ⟨j, hj⟩ : ∃ j : Nat, (n / 8).toNat = j := ⟨_, rfl⟩
    obtain ⟨q, hq⟩ : ∃ q : Nat, (7 - n % 8).toNat = q := ⟨_, rfl⟩
    have e1 : n / 8 = (j : Int) := by omega
    obtain ⟨r, hr⟩ : ∃ r : Nat, (n % 8).toNat = r := ⟨_, rfl⟩
    have e2 : n % 8 = (r : Int) := by omega
    have e3 : (7 : Int) - (r : Int) = (q : Int) := by omega
    have hq7 : q ≤ 7 := by omega
    have hjl : j < s.tape.length := by omega
    have hb : bitS s n = s.tape.getD j 0 / 2 ^ q % 2 := by unfold bitS; rw [if_neg hk, hj, hq]
    rw [hb]
    have hx : 0 ≤ s.tape.getD j 0 ∧ s.tape.getD j 0 < 256 := by
      rw [List.getD_eq_getElem?_getD, List.getElem?_eq_getElem hjl, Option.getD_some]
      exact ok.ti _ (List.getElem_mem hjl)
    obtain ⟨b0, off, hA, hb0, hcell⟩ := hrd.2 (by omega)
    have cj := hcell j hjl
    obtain ⟨x, hxe⟩ : ∃ x, s.tape.getD j 0 = x := ⟨_, rfl⟩
    rw [hxe] at hx cj
    rw [hxe]
    have hrt := fun W => (rright_c x (q : Int) (by omega) (by omega) (by omega) (by omega) W).mono fun e w' (h : _ ∧ _) => And.intro h.1 h.2.symm
    rw [right_div x q hq7] at hrt
    have p0 := Wd.pow_pos2 q
    have y0 : 0 ≤ x / 2 ^ q := Int.ediv_nonneg hx.1 (by omega)
    have y1 : x / 2 ^ q < 256 := by have := Int.ediv_le_self (2 ^ q) hx.1; omega
    obtain ⟨y, hy⟩ : ∃ y, x / 2 ^ q = y := ⟨_, rfl⟩
    rw [hy] at hrt y0 y1
    rw [hy]
    have HRT := Lib.hid hrt
    have CJ := Lib.hid cj
    obtain ⟨x0, x1⟩ := hx
    obtain ⟨L, hL⟩ : ∃ L, s.tape.length = L := ⟨_, rfl⟩
    rw [hL] at HC tl hjl
    have q0 : (0 : Int) ≤ (j : Int) ∧ (j : Int) < (L : Int) := by omega
    obtain ⟨V, hV⟩ : ∃ V, srcV s A c = V := ⟨_, rfl⟩
    rw [hV] at HC
    rw [hV]
    subst hA
    clear hV hb hn hcell hrt cj p0 hy hxe hrd hL hlt hj hq hr HBT ok
    go_enter Tryz.func42, Tryz.ntmps42
    go_wp2_with (first
      | (with_reducible refine at_any ?_; refine at_dst 2 rfl ?_; refine wpList_box_any rfl 28 (.tmp 0) rfl V rfl ?_; intro w1 hk1 hs1 hb1; have c0 := (HC.out _ _ hk1.out).1; have c2 := (HC.out _ _ hk1.out).2.1; have c3 := (hb1.cell hb0).trans CJ.out)
      | (go_at_call 54; (with_reducible refine (HRT.out _).mono ?_); rintro e _ ⟨rfl, rfl⟩))
    go_ret
    exact ⟨rfl, hb1⟩
set_option maxHeartbeats 4000000 in
theorem rstake_c (s : Src) (ok : s.Ok) (k : Int) (k0 : -9223372036854775808 ≤ k) (k1 : k < 9223372036854775808) (A : Option Addr) (c : Nat) (hc : s.tape.length ≤ c) (hcm : c ≤ maxLen) (w : World) (hrd : Rd .u8 w w.heap.size A s.tape.length s.tape) : Calls Tryz.prog 30 #[.agg (srcV s A c), .int .i64 k] w (RetTake w s k A) := by
  have HRT := Lib.hid (fun W => rsright_c s ok A c W)
  have HLT := Lib.hid (fun W => rsleft_c s ok A c W)
  have hll := left_le ok
  have SV := Lib.hid (sizedS s ok.sl A c)
  have OV := Lib.hid (srcV_ones s A c)
  have ZV := Lib.hid (srcV_same Src.zero s rfl ok.sl none A 0 c)
  have HZ0 := Lib.hid zero_src
  obtain ⟨Z, hZ⟩ : ∃ Z, srcV Src.zero none 0 = Z := ⟨_, rfl⟩
  rw [hZ] at ZV HZ0
  have hRd := Lib.hid hrd
  by_cases hbad : ¬ (rightS s = true ∧ 0 ≤ k ∧ k ≤ 64)
  · have hE : takeE s k = 1 := by unfold takeE; rw [if_neg hbad]
    have HEND : Hid (∀ w', Below w.heap.size w w' → RetTake w s k A (.returned (.tuple #[.int .u64 0, .agg (srcV s A c), .int .i64 1])) w') := Lib.hid (fun w' hb => ⟨A, c, by unfold takeV takeS; rw [hE]; rfl, (hRd.out.below hb).mono hb.size, hc, hcm, .inl rfl, hb⟩)
    obtain ⟨V, hV⟩ : ∃ V, srcV s A c = V := ⟨_, rfl⟩
    rw [hV] at HRT HLT SV OV ZV HEND
    rw [hV]
    have hcase : (rightS s = false) ∨ (rightS s = true ∧ k < 0) ∨ (rightS s = true ∧ ¬ k < 0 ∧ 64 < k) := by
      cases h : rightS s
      · exact .inl rfl
      · refine .inr ?_
        by_cases h0 : k < 0
        · exact .inl ⟨rfl, h0⟩
        · exact .inr ⟨rfl, h0, Decidable.byContradiction fun h7 => hbad ⟨h, by omega, by omega⟩⟩
    clear hZ hV hE hbad hll hrd
    rcases hcase with hr | ⟨hr, h0⟩ | ⟨hr, h0, h6⟩
    all_goals
      rw [hr] at HRT
      go_enter Tryz.func30, Tryz.ntmps30
      go_wp2_with (first
        | (with_reducible refine at_any ?_; refine at_dst 2 rfl ?_; refine wpList_box_any rfl 28 (.tmp 0) rfl V rfl ?_; intro w1 hk1 hs1 hb1)
        | (with_reducible refine at_any ?_; refine at_dst 5 rfl ?_; refine wpList_alloc_any rfl 28 rfl Z HZ0.out ?_; intro w2 hk2 hs2 hb2; have k2 := Lib.hid (hk1.out.below hb2 hk1.out.lt); have bl2 := Lib.hid (hb1.trans (hb2.mono hb1.size)))
        | (with_reducible refine at_any ?_; refine at_dst 9 rfl ?_; refine wpList_load_blk rfl 28 (.tmp 2) rfl w.heap.size rfl 28 V k2.out _ Tryz.underlying28 rfl SV.out ?_)
        | (go_at_call 29; (with_reducible refine (HRT.out _).mono ?_); rintro e wz ⟨rfl, hbz⟩))
      have HB2 : Src2 w w.heap.size w1.heap.size V Z wz := ⟨hk2.out.below hbz hk2.out.lt, k2.out.below hbz k2.out.lt, bl2.out.trans (hbz.mono bl2.out.size), trivial⟩
      have h25 : w.heap.size < w1.heap.size := by rw [hs1.out]; omega
      obtain ⟨g2, hg2⟩ : ∃ g, w.heap.size = g := ⟨_, rfl⟩
      obtain ⟨g5, hg5⟩ : ∃ g, w1.heap.size = g := ⟨_, rfl⟩
      have h02 : w.heap.size ≤ g2 := by omega
      rw [hg2, hg5] at HB2 h25
      rw [hg2, hg5]
      clear hg2 hg5 hk1 hs1 hb1 hk2 hs2 hb2 k2 bl2 hbz
      have hS := HB2.keep.drew
      have HZ5 := HB2.old.drew
      refine wp_region_held_drew (S := (Fx [.blk g2 28 V, .bel w])) (by kernel_rfl) hS (fun hH => ?_)
      refine wpAnyH_letter #[false, false, false, false] (by kernel_rfl) (fun _ _ d _ _ h => by cases d <;> exact h) (fun QL HQ1 HQ2 => ?_)
      refine held_row 0 (some 20) rfl (by kernel_rfl) (by kernel_rfl) (by kernel_rfl) (by kernel_rfl) (fun c a v w h => HQ2.out c a _ v w h) (by kernel_rfl) 28 (.tmp 2) rfl g2 (by kernel_rfl) 28 V (fun _ h => h.1) _ Tryz.underlying28 rfl SV.out hH ?_
      try simp only [Act.put, List.setIfInBounds_toArray, List.set_cons_zero, List.set_cons_succ]
      refine held_v 1 (some 4) rfl (by kernel_rfl) (by kernel_rfl) (by kernel_rfl) (by kernel_rfl) (fun c a v w h => HQ2.out c a _ v w h) (by kernel_rfl) (.int .u64 0) (fun W h => by kernel_rfl) hH ?_
      try simp only [Act.put, List.setIfInBounds_toArray, List.set_cons_zero, List.set_cons_succ]
      refine wpAnyH_ready (rs := [2]) (by kernel_rfl) (by decide) ?_
      refine AllReadyH.cons rfl (fun K hK => ?_) AllReadyH.nil
      refine step_store none (by kernel_rfl) (by kernel_rfl) 28 (.tmp 5) (.tmp 20) rfl g5 (by kernel_rfl) 28 Z V HZ5.1 (by kernel_rfl) ZV.out SV.out OV.out ?_
      intro w41 hkw41 hsw41 hbw41 how41
      have ex42 : Fx [.blk g5 28 V] w41 := ⟨hkw41.out, trivial⟩
      refine hK.out _ _ (hH.store HZ5.1 ⟨Nat.ne_of_lt h25, Nat.le_trans h02 (Nat.le_of_lt h25), trivial⟩ hsw41.out hbw41 how41) (fun hw41 => ?_)
      clear hK K
      try simp only [Act.put, List.setIfInBounds_toArray, List.set_cons_zero, List.set_cons_succ]
      refine held_v 3 (some 6) rfl (by kernel_rfl) (by kernel_rfl) (by kernel_rfl) (by kernel_rfl) (fun c a v w h => HQ2.out c a _ v w h) (by kernel_rfl) (.int .i64 1) (fun W h => by kernel_rfl) hw41 ?_
      try simp only [Act.put, List.setIfInBounds_toArray, List.set_cons_zero, List.set_cons_succ]
      refine wpAnyH_done (by kernel_rfl) ?_ _
      refine HQ1.out _ _ ?_
      clear HQ1 HQ2
      go_wp2_with (refine bodyPost_mid 4 5 6 28 rfl g5 rfl (.int .u64 0) (.int .i64 1) rfl rfl 28 V ex42.1 _ Tryz.underlying28 rfl SV.out rfl ?_)
      exact HEND.out _ hw41.2.1
  · have hgood : rightS s = true ∧ 0 ≤ k ∧ k ≤ 64 := Decidable.of_not_not hbad
    obtain ⟨hr, kk0, kk1⟩ := hgood
    have ng0 : ¬ k < 0 := by omega
    have ng1 : ¬ 64 < k := by omega
    rw [hr] at HRT
    obtain ⟨K, rfl⟩ := Int.eq_ofNat_of_zero_le kk0
    have e3 : IntKind.u64.wrap (K : Int) = K := by rw [IntKind.wrap_u64]; omega
    clear k0 k1
    obtain ⟨lf, hlf⟩ : ∃ x, leftS s = x := ⟨_, rfl⟩
    rw [hlf] at HLT hll
    by_cases hmore : lf < (K : Int)
    · have hE : takeE s (K : Int) = 8 := by unfold takeE; rw [if_pos ⟨hr, kk0, kk1⟩, hlf, if_neg (by omega)]
      have HEND : Hid (∀ w', Below w.heap.size w w' → RetTake w s (K : Int) A (.returned (.tuple #[.int .u64 0, .agg (srcV s A c), .int .i64 8])) w') := Lib.hid (fun w' hb => ⟨A, c, by unfold takeV takeS; rw [hE]; rfl, (hRd.out.below hb).mono hb.size, hc, hcm, .inl rfl, hb⟩)
      obtain ⟨V, hV⟩ : ∃ V, srcV s A c = V := ⟨_, rfl⟩
      rw [hV] at HRT HLT SV OV ZV HEND
      rw [hV]
      clear hZ hV hE hbad hrd hlf
      go_enter Tryz.func30, Tryz.ntmps30
      go_wp2_with (first
        | (with_reducible refine at_any ?_; refine at_dst 2 rfl ?_; refine wpList_box_any rfl 28 (.tmp 0) rfl V rfl ?_; intro w1 hk1 hs1 hb1)
        | (with_reducible refine at_any ?_; refine at_dst 5 rfl ?_; refine wpList_alloc_any rfl 28 rfl Z HZ0.out ?_; intro w2 hk2 hs2 hb2; have k2 := Lib.hid (hk1.out.below hb2 hk1.out.lt); have bl2 := Lib.hid (hb1.trans (hb2.mono hb1.size)))
        | (with_reducible refine at_any ?_; refine at_dst 9 rfl ?_; refine wpList_load_blk rfl 28 (.tmp 2) rfl w.heap.size rfl 28 V k2.out _ Tryz.underlying28 rfl SV.out ?_)
        | (go_at_call 29; (with_reducible refine (HRT.out _).mono ?_); rintro e wy ⟨rfl, hby⟩; have k2y := Lib.hid (k2.out.below hby k2.out.lt); have bly := Lib.hid (bl2.out.trans (hby.mono bl2.out.size)))
        | (with_reducible refine at_any ?_; refine at_dst 23 rfl ?_; refine wpList_load_blk rfl 28 (.tmp 2) rfl w.heap.size rfl 28 V k2y.out _ Tryz.underlying28 rfl SV.out ?_)
        | (go_at_call 41; (with_reducible refine (HLT.out _).mono ?_); rintro e wz ⟨rfl, hbz⟩))
      have HB2 : Src2 w w.heap.size w1.heap.size V Z wz := ⟨(hk2.out.below hby hk2.out.lt).below hbz (hk2.out.below hby hk2.out.lt).lt, k2y.out.below hbz k2y.out.lt, bly.out.trans (hbz.mono bly.out.size), trivial⟩
      have h25 : w.heap.size < w1.heap.size := by rw [hs1.out]; omega
      obtain ⟨g2, hg2⟩ : ∃ g, w.heap.size = g := ⟨_, rfl⟩
      obtain ⟨g5, hg5⟩ : ∃ g, w1.heap.size = g := ⟨_, rfl⟩
      have h02 : w.heap.size ≤ g2 := by omega
      rw [hg2, hg5] at HB2 h25
      rw [hg2, hg5]
      clear hg2 hg5 hk1 hs1 hb1 hk2 hs2 hb2 k2 bl2 hbz hby k2y bly
      have hS := HB2.keep.drew
      have HZ5 := HB2.old.drew
      refine wp_region_held_drew (S := (Fx [.blk g2 28 V, .bel w])) (by kernel_rfl) hS (fun hH => ?_)
      refine wpAnyH_letter #[false, false, false, false] (by kernel_rfl) (fun _ _ d _ _ h => by cases d <;> exact h) (fun QL HQ1 HQ2 => ?_)
      refine held_row 0 (some 26) rfl (by kernel_rfl) (by kernel_rfl) (by kernel_rfl) (by kernel_rfl) (fun c a v w h => HQ2.out c a _ v w h) (by kernel_rfl) 28 (.tmp 2) rfl g2 (by kernel_rfl) 28 V (fun _ h => h.1) _ Tryz.underlying28 rfl SV.out hH ?_
      try simp only [Act.put, List.setIfInBounds_toArray, List.set_cons_zero, List.set_cons_succ]
      refine held_v 1 (some 4) rfl (by kernel_rfl) (by kernel_rfl) (by kernel_rfl) (by kernel_rfl) (fun c a v w h => HQ2.out c a _ v w h) (by kernel_rfl) (.int .u64 0) (fun W h => by kernel_rfl) hH ?_
      try simp only [Act.put, List.setIfInBounds_toArray, List.set_cons_zero, List.set_cons_succ]
      refine wpAnyH_ready (rs := [2]) (by kernel_rfl) (by decide) ?_
      refine AllReadyH.cons rfl (fun K hK => ?_) AllReadyH.nil
      refine step_store none (by kernel_rfl) (by kernel_rfl) 28 (.tmp 5) (.tmp 26) rfl g5 (by kernel_rfl) 28 Z V HZ5.1 (by kernel_rfl) ZV.out SV.out OV.out ?_
      intro w41 hkw41 hsw41 hbw41 how41
      have ex42 : Fx [.blk g5 28 V] w41 := ⟨hkw41.out, trivial⟩
      refine hK.out _ _ (hH.store HZ5.1 ⟨Nat.ne_of_lt h25, Nat.le_trans h02 (Nat.le_of_lt h25), trivial⟩ hsw41.out hbw41 how41) (fun hw41 => ?_)
      clear hK K
      try simp only [Act.put, List.setIfInBounds_toArray, List.set_cons_zero, List.set_cons_succ]
      refine held_v 3 (some 6) rfl (by kernel_rfl) (by kernel_rfl) (by kernel_rfl) (by kernel_rfl) (fun c a v w h => HQ2.out c a _ v w h) (by kernel_rfl) (.int .i64 8) (fun W h => by kernel_rfl) hw41 ?_
      try simp only [Act.put, List.setIfInBounds_toArray, List.set_cons_zero, List.set_cons_succ]
      refine wpAnyH_done (by kernel_rfl) ?_ _
      refine HQ1.out _ _ ?_
      clear HQ1 HQ2
      go_wp2_with (refine bodyPost_mid 4 5 6 28 rfl g5 rfl (.int .u64 0) (.int .i64 8) rfl rfl 28 V ex42.1 _ Tryz.underlying28 rfl SV.out rfl ?_)
      exact HEND.out _ hw41.2.1
    · have hle : (K : Int) ≤ lf := by omega
      have hE : takeE s (K : Int) = 0 := by unfold takeE; rw [if_pos ⟨hr, kk0, kk1⟩, hlf, if_pos hle]
      have hat : s.at_ + lf < 18446744073709551616 := by
        rcases rightS_end hr with h | h
        · rw [hlf] at h; exact h.1
        · exact absurd ok h
      have a0 := ok.a0
      have hnum : takeV s (K : Int) = numS s s.at_ K := by unfold takeV; rw [if_pos hE, Int.toNat_natCast]
      have hsrc : takeS s (K : Int) = s.to (s.at_ + K) := by unfold takeS; rw [if_pos hE]
      have HIN := Lib.hid (fun i => numS_in s s.at_ i)
      have HNX := Lib.hid (fun i => numS_succ s s.at_ i)
      have HPW := Lib.hid (fun (i : Nat) (h : i ≤ 63) => pow2_le i h)
      have hkd : s.kind = 2 ∨ s.at_ + (K : Int) ≤ 8 * (s.tape.length : Int) := by
        unfold leftS at hlf
        rw [if_pos hr] at hlf
        unfold rightS at hr
        split at hr
        · rename_i h1
          rw [if_pos h1] at hlf
          simp at hr
          exact .inr (by omega)
        · simp at hr
          exact .inl hr.1
      have hbi : ∀ (i : Nat), i < K → ∀ W : World, Rd .u8 W W.heap.size A s.tape.length s.tape → Calls Tryz.prog 42 #[.agg (srcV (s.to (s.at_ + i)) A c), .int .u64 (s.at_ + i)] W fun e w' => e = .returned (.int .u64 (bitS s (s.at_ + i))) ∧ Below W.heap.size W w' := fun i h W h2 => rsbit_c (s.to (s.at_ + i)) (ok.to_ _ (by omega) (by omega)) (s.at_ + i) (by omega) (by omega) (by rcases hkd with h3 | h3; exact .inl h3; exact .inr (show s.at_ + (i : Int) < 8 * (s.tape.length : Int) by omega)) A c W h2
      have HBI := Lib.hid hbi
      have HST := Lib.hid (fun (i : Nat) (h : i < K) => srcV_set (s.to (s.at_ + i)) ok.sl A c (s.at_ + i + 1))
      have HC6 := Lib.hid (fun (W : World) (g i : Nat) (h : Blk W g 28 (srcV (s.to (s.at_ + i)) A c)) => (h.cell 36).trans (srcV_at (s.to (s.at_ + i)) ok.sl A c))
      have HSZ := Lib.hid (fun (i : Nat) => sizedS (s.to (s.at_ + i)) ok.sl A c)
      have HSZ2 := Lib.hid (fun (i : Nat) => srcV_size (s.to (s.at_ + i)) ok.sl A c)
      have HS0 := Lib.hid (show srcV (s.to (s.at_ + ((0 : Nat) : Int))) A c = srcV s A c by rw [Int.natCast_zero, Int.add_zero]; rfl)
      have SVK := Lib.hid (sizedS (s.to (s.at_ + K)) ok.sl A c)
      have OVK := Lib.hid (srcV_ones (s.to (s.at_ + K)) A c)
      have ZVK := Lib.hid (srcV_same Src.zero (s.to (s.at_ + K)) rfl ok.sl none A 0 c)
      have HEND : Hid (∀ w', Below w.heap.size w w' → RetTake w s (K : Int) A (.returned (.tuple #[.int .u64 (numS s s.at_ K), .agg (srcV (s.to (s.at_ + K)) A c), .int .i64 0])) w') := Lib.hid (fun w' hb => ⟨A, c, by rw [hnum, hsrc, hE], (hRd.out.below hb).mono hb.size, hc, hcm, .inl rfl, hb⟩)
      rw [hZ] at ZVK
      obtain ⟨V, hV⟩ : ∃ V, srcV s A c = V := ⟨_, rfl⟩
      rw [hV] at HRT HLT SV OV ZV HS0
      rw [hV]
      have HRS := Lib.hid (show Rd .u8 w w.heap.size A s.tape.length s.tape from hrd)
      obtain ⟨n0, hn0⟩ : ∃ x, s.at_ = x := ⟨_, rfl⟩
      clear hZ hV hE hbad hrd hlf hnum hsrc hkd hr hbi
      go_enter Tryz.func30, Tryz.ntmps30
      go_wp2_with (first
        | (with_reducible refine at_any ?_; refine at_dst 2 rfl ?_; refine wpList_box_any rfl 28 (.tmp 0) rfl V rfl ?_; intro w1 hk1 hs1 hb1)
        | (with_reducible refine at_any ?_; refine at_dst 5 rfl ?_; refine wpList_alloc_any rfl 28 rfl Z HZ0.out ?_; intro w2 hk2 hs2 hb2; have k2 := Lib.hid (hk1.out.below hb2 hk1.out.lt); have bl2 := Lib.hid (hb1.trans (hb2.mono hb1.size)))
        | (with_reducible refine at_any ?_; refine at_dst 9 rfl ?_; refine wpList_load_blk rfl 28 (.tmp 2) rfl w.heap.size rfl 28 V k2.out _ Tryz.underlying28 rfl SV.out ?_)
        | (go_at_call 29; (with_reducible refine (HRT.out _).mono ?_); rintro e wy ⟨rfl, hby⟩; have k2y := Lib.hid (k2.out.below hby k2.out.lt); have bly := Lib.hid (bl2.out.trans (hby.mono bl2.out.size)))
        | (with_reducible refine at_any ?_; refine at_dst 23 rfl ?_; refine wpList_load_blk rfl 28 (.tmp 2) rfl w.heap.size rfl 28 V k2y.out _ Tryz.underlying28 rfl SV.out ?_)
        | (go_at_call 41; (with_reducible refine (HLT.out _).mono ?_); rintro e wz ⟨rfl, hbz⟩))
      have HB2 : Src2 w w.heap.size w1.heap.size V Z wz := ⟨(hk2.out.below hby hk2.out.lt).below hbz (hk2.out.below hby hk2.out.lt).lt, k2y.out.below hbz k2y.out.lt, bly.out.trans (hbz.mono bly.out.size), trivial⟩
      have h25 : w.heap.size < w1.heap.size := by rw [hs1.out]; omega
      obtain ⟨g2, hg2⟩ : ∃ g, w.heap.size = g := ⟨_, rfl⟩
      obtain ⟨g5, hg5⟩ : ∃ g, w1.heap.size = g := ⟨_, rfl⟩
      have h02 : w.heap.size ≤ g2 := by omega
      rw [hg2, hg5] at HB2 h25
      rw [hg2, hg5]
      clear hg2 hg5 hk1 hs1 hb1 hk2 hs2 hb2 k2 bl2 hbz hby k2y bly
      go_loopw [7, 8] (fun v cc wr => ∃ i : Nat, i ≤ K ∧ v = .int .u64 (numS s s.at_ i) ∧ cc = .int .i64 i ∧ Src2 w g2 g5 (srcV (s.to (s.at_ + i)) A c) Z wr) (fun _ cc _ => K - (intOf cc).toNat)
      case atStart => exact ⟨0, by omega, rfl, rfl, by rw [HS0.out]; exact HB2⟩
      case round =>
        clear HB2
        obtain ⟨i, hi, rfl, rfl, hF⟩ := hrel
        by_cases hlt : i < K
        · obtain ⟨x0, x1⟩ := HIN.out i
          have hnx := HNX.out i
          have hpw := HPW.out i (by omega)
          obtain ⟨b0, b1⟩ := bitS_in s (s.at_ + i)
          have c6 := HC6.out _ _ i hF.fst
          change _ = some (Value.int .u64 (s.at_ + i)) at c6
          have HBI1 := Lib.hid (fun W h2 => HBI.out i hlt W h2)
          have HS1 := Lib.hid (HSZ.out i)
          have HS2 := Lib.hid (HSZ2.out i)
          have HS3 := Lib.hid (HST.out i hlt)
          have HCI := Lib.hid (fun W g h => HC6.out W g i h)
          have nb : s.at_ + (i : Int) + 1 < 18446744073709551616 := by omega
          have n00 : 0 ≤ s.at_ + (i : Int) := by omega
          have HN1 := Lib.hid (show s.at_ + (i : Int) + 1 = s.at_ + ((i + 1 : Nat) : Int) by omega)
          obtain ⟨Vi, hVi⟩ : ∃ V, srcV (s.to (s.at_ + i)) A c = V := ⟨_, rfl⟩
          rw [hVi] at hF HBI1 HS1 HS2 HS3 HCI
          change Hid (∀ (W : World) (g : Nat), Blk W g 28 Vi → W.cell? ⟨g, 36, none⟩ = some (.int .u64 (s.at_ + i))) at HCI
          obtain ⟨X, hX⟩ : ∃ x, numS s s.at_ i = x := ⟨_, rfl⟩
          obtain ⟨b, hb⟩ : ∃ x, bitS s (s.at_ + i) = x := ⟨_, rfl⟩
          obtain ⟨N, hN⟩ : ∃ x, s.at_ + (i : Int) = x := ⟨_, rfl⟩
          rw [hX, hb] at hnx
          rw [hX] at x0 x1
          rw [hb] at b0 b1 HBI1
          rw [hN] at c6 HBI1 HS3 HCI nb n00 HN1
          rw [hX]
          have HNXi := Lib.hid hnx
          have HF := Lib.hid hF
          have e4 : IntKind.u64.wrap (2 * X) = 2 * X := by rw [IntKind.wrap_u64]; omega
          have e5 : IntKind.u64.wrap (2 * X + b) = 2 * X + b := by rw [IntKind.wrap_u64]; omega
          have e6 : IntKind.u64.wrap (N + 1) = N + 1 := by rw [IntKind.wrap_u64]; omega
          clear hnx hVi hX hb hN hF hpw
          go_wp2_with (first
            | (with_reducible refine at_any ?_; refine at_dst 34 rfl ?_; refine wpList_load_blk rfl 28 (.tmp 2) rfl g2 rfl 28 Vi HF.out.fst _ Tryz.underlying28 rfl HS1.out ?_)
            | (go_at_call 42; (with_reducible refine (HBI1.out _ ((HRS.out.below HF.out.bel).mono HF.out.bel.size)).mono ?_); rintro e w5 ⟨rfl, hb5⟩; have F5 := Lib.hid (HF.out.below hb5); have c7 := HCI.out _ _ F5.out.fst; clear hb5)
            | (with_reducible refine at_any ?_; refine at_store 42 rfl ?_; refine wpList_store_cell rfl 24 (.tmp 42) (.tmp 41) rfl g2 36 rfl 28 Vi F5.out.fst (.int .u64 (N + 1)) rfl (by rw [HS2.out]; omega) size_u64s rfl rfl ?_; intro w9 hk9 ho9; have K9 := Lib.hid hk9.out; rw [HS3.out] at K9; have F9 := Lib.hid (F5.out.only h02 h25 K9.out ho9); clear hk9 ho9 K9))
          go_roundw
          case rel => exact ⟨i + 1, by omega, by rw [HNXi.out], by go_num, by have h := F9.out; rw [HN1.out] at h; exact h⟩
          case measure => simp [intOf]; omega
        · obtain rfl : i = K := by omega
          have HB2 : Src2 w g2 g5 (srcV (s.to (s.at_ + i)) A c) Z wr := hF
          have SV := Lib.hid SVK.out
          have OV := Lib.hid OVK.out
          have ZV := Lib.hid ZVK.out
          have HE2 := Lib.hid HEND.out
          obtain ⟨X, hX⟩ : ∃ x, numS s s.at_ i = x := ⟨_, rfl⟩
          obtain ⟨V, hV⟩ : ∃ V, srcV (s.to (s.at_ + i)) A c = V := ⟨_, rfl⟩
          rw [hV] at HB2 SV OV ZV HE2
          rw [hX] at HE2
          rw [hX]
          have HEND := Lib.hid HE2.out
          clear hF hX hV HIN HNX HPW HBI HST HC6 HSZ HSZ2 SVK OVK ZVK
          go_wp2_with fail
          have hS := HB2.keep.drew
          have HZ5 := HB2.old.drew
          refine wp_region_held_drew (S := (Fx [.blk g2 28 V, .bel w])) (by kernel_rfl) hS (fun hH => ?_)
          refine wpAnyH_letter #[false, false, false, false, false] (by kernel_rfl) (fun _ _ d _ _ h => by cases d <;> exact h) (fun QL HQ1 HQ2 => ?_)
          refine held_v 0 (some 43) rfl (by kernel_rfl) (by kernel_rfl) (by kernel_rfl) (by kernel_rfl) (fun c a v w h => HQ2.out c a _ v w h) (by kernel_rfl) (.int .u64 X) (fun W h => by kernel_rfl) hH ?_
          try simp only [Act.put, List.setIfInBounds_toArray, List.set_cons_zero, List.set_cons_succ]
          refine held_row 1 (some 44) rfl (by kernel_rfl) (by kernel_rfl) (by kernel_rfl) (by kernel_rfl) (fun c a v w h => HQ2.out c a _ v w h) (by kernel_rfl) 28 (.tmp 2) rfl g2 (by kernel_rfl) 28 V (fun _ h => h.1) _ Tryz.underlying28 rfl SV.out hH ?_
          try simp only [Act.put, List.setIfInBounds_toArray, List.set_cons_zero, List.set_cons_succ]
          refine held_v 2 (some 4) rfl (by kernel_rfl) (by kernel_rfl) (by kernel_rfl) (by kernel_rfl) (fun c a v w h => HQ2.out c a _ v w h) (by kernel_rfl) (.int .u64 X) (fun W h => by kernel_rfl) hH ?_
          try simp only [Act.put, List.setIfInBounds_toArray, List.set_cons_zero, List.set_cons_succ]
          refine wpAnyH_ready (rs := [3]) (by kernel_rfl) (by decide) ?_
          refine AllReadyH.cons rfl (fun K hK => ?_) AllReadyH.nil
          refine step_store none (by kernel_rfl) (by kernel_rfl) 28 (.tmp 5) (.tmp 44) rfl g5 (by kernel_rfl) 28 Z V HZ5.1 (by kernel_rfl) ZV.out SV.out OV.out ?_
          intro w41 hkw41 hsw41 hbw41 how41
          have ex42 : Fx [.blk g5 28 V] w41 := ⟨hkw41.out, trivial⟩
          refine hK.out _ _ (hH.store HZ5.1 ⟨Nat.ne_of_lt h25, Nat.le_trans h02 (Nat.le_of_lt h25), trivial⟩ hsw41.out hbw41 how41) (fun hw41 => ?_)
          clear hK K
          try simp only [Act.put, List.setIfInBounds_toArray, List.set_cons_zero, List.set_cons_succ]
          refine held_v 4 (some 6) rfl (by kernel_rfl) (by kernel_rfl) (by kernel_rfl) (by kernel_rfl) (fun c a v w h => HQ2.out c a _ v w h) (by kernel_rfl) (.int .i64 0) (fun W h => by kernel_rfl) hw41 ?_
          try simp only [Act.put, List.setIfInBounds_toArray, List.set_cons_zero, List.set_cons_succ]
          refine wpAnyH_done (by kernel_rfl) ?_ _
          refine HQ1.out _ _ ?_
          clear HQ1 HQ2
          go_wp2_with (refine bodyPost_mid 4 5 6 28 rfl g5 rfl (.int .u64 X) (.int .i64 0) rfl rfl 28 V ex42.1 _ Tryz.underlying28 rfl SV.out rfl ?_)
          exact HEND.out _ hw41.2.1
set_option maxHeartbeats 1000000 in
theorem rstape_c (zs : List Int) (hzl : zs.length ≤ 1000000) (b : Int) (b0 : 0 ≤ b) (b1 : b < 18446744073709551616) (A : Option Addr) (n c : Nat) (w : World) (hrd : Rd .u8 w w.heap.size A n zs) (hnc : n ≤ c) : Calls Tryz.prog 14 #[.slice A n c, .int .u64 b] w (RetTape w zs b) := by
  obtain ⟨i0, hi, hz0, hz1, hzb⟩ := info_parts info_u8'
  have hl := hrd.len
  have e1 : IntKind.u64.wrap (8 * (n : Int)) = 8 * n := by rw [IntKind.wrap_u64]; omega
  have HZ0 := Lib.hid zero_src
  have SZ := Lib.hid (sizedS Src.zero rfl none 0)
  have OZ := Lib.hid (srcV_ones Src.zero none 0)
  have HB0 := Lib.hid (fun (a : Act) (o : Oper) W h => build_src0 (a := a) (o := o) W h)
  have hR : RetTape w zs b = if b ≤ 8 * (zs.length : Int) then (fun e w' => ∃ A' c', e = .returned (.tuple #[.agg (srcV (Src.tapeOf zs b) A' c'), .int .i64 0]) ∧ Rd .u8 w' w'.heap.size A' zs.length zs ∧ zs.length ≤ c' ∧ c' ≤ maxLen ∧ Below w.heap.size w w') else (fun e w' => e = .returned (.tuple #[.agg (srcV Src.zero none 0), .int .i64 1]) ∧ Below w.heap.size w w') := by
    funext e w'
    unfold RetTape
    split <;> rfl
  rw [hR]
  obtain ⟨Z, hZ⟩ : ∃ Z, srcV Src.zero none 0 = Z := ⟨_, rfl⟩
  rw [hZ] at HZ0 SZ OZ HB0
  rw [hZ]
  by_cases hbig : b ≤ 8 * (zs.length : Int)
  · rw [if_pos hbig]
    have hT := Lib.hid (fun (A' : Option Addr) (c' : Nat) => sizedS (Src.tapeOf zs b) (by rfl) A' c')
    have OT := Lib.hid (fun (A' : Option Addr) (c' : Nat) => srcV_ones (Src.tapeOf zs b) A' c')
    have ZT := Lib.hid (fun (A' : Option Addr) (c' : Nat) => srcV_same Src.zero (Src.tapeOf zs b) rfl (by rfl) none A' 0 c')
    have BT := Lib.hid (fun (a : Act) (o : Oper) (x y z : Operand) (W : World) (A' : Option Addr) (c' : Nat) h1 h2 (h3 : a.eval y = .slice A' n c') h4 => build_src1 (a := a) (o := o) (x := x) (y := y) (z := z) W A' c' zs b h1 h2 (by rw [hl]; exact h3) h4)
    rw [hZ] at ZT
    rw [hl] at hbig ⊢
    have HRD := Lib.hid hrd
    have HLZ := Lib.hid hl
    have hn : n ≤ 1000000 := by omega
    clear hZ hR hrd hl hzl
    go_enter Tryz.func14, Tryz.ntmps14
    go_wp2_with (first
      | (with_reducible refine at_any ?_; refine at_dst 4 rfl ?_; refine wpList_alloc_any rfl 28 rfl Z HZ0.out ?_; intro w1 hk1 hs1 hb1)
      | (at_builtin; refine wpList_append_ints _ rfl (.tmp 13) (.tmp 14) 23 rfl w.heap.size 5 i0 _ 1 .u8 Tryz.underlying23 hi hz0 hz1 hzb rfl _ [] rfl (own_empty w1 5 .u8 hb1.size) w.heap.size A n c zs rfl ((HRD.out.below hb1).alloc hb1.size _) (by simp [maxLen]; omega) (by simp; omega) (by have := hb1.size; simp; omega) ?_; intro v2 w2 hown2 hg2 hat2; have hb2 : Below w.heap.size w w2 := (own_empty w1 5 .u8 hb1.size).below_ (hb1.alloc hb1.size _) (by have := hb1.size; simp; omega) hg2; have hk2 : Blk w2 w.heap.size 28 Z := Blk.grown (hk1.out.alloc _) (own_empty w1 5 .u8 hb1.size) (by decide) hg2; simp only [List.nil_append] at hown2; obtain ⟨A2, c2, rfl, hc2, hm2⟩ := hown2.form; rw [HLZ.out] at hown2 hc2 ⊢; clear hg2 hat2)
      | (with_reducible refine at_any ?_; refine at_dst 17 rfl ?_; refine wpList_val rfl (.agg (srcV (Src.tapeOf zs b) A2 c2)) (BT.out _ _ _ _ _ _ A2 c2 rfl rfl rfl rfl) ?_)
      | (with_reducible refine at_any ?_; refine at_store 4 rfl ?_; refine wpList_store_any rfl 28 (.tmp 4) (.tmp 17) rfl w.heap.size rfl 28 Z (srcV (Src.tapeOf zs b) A2 c2) hk2 rfl (ZT.out _ _) (hT.out _ _) (OT.out _ _) ?_; intro w3 hk3 hs3 hb3 ho3)
      | (refine bodyPost_any2 4 5 28 rfl w.heap.size rfl (.int .i64 0) rfl 28 (srcV (Src.tapeOf zs b) A2 c2) hk3.out _ Tryz.underlying28 rfl (hT.out _ _) rfl ?_))
    exact ⟨A2, c2, rfl, ((hown2.rd HLZ.out).other ho3 (hown2.apart hk2 (by decide))).fit, hc2, hm2, hb2.trans (hb3 _ (Nat.le_refl _))⟩
  · rw [if_neg hbig]
    rw [hl] at hbig
    clear hZ hR hrd hl
    go_enter Tryz.func14, Tryz.ntmps14
    go_wp2_with (first
      | (with_reducible refine at_any ?_; refine at_dst 4 rfl ?_; refine wpList_alloc_any rfl 28 rfl Z HZ0.out ?_; intro w1 hk1 hs1 hb1)
      | (with_reducible refine at_any ?_; refine at_dst 12 rfl ?_; refine wpList_val rfl (.agg Z) (HB0.out _ _ _ rfl) ?_)
      | (with_reducible refine at_any ?_; refine at_store 4 rfl ?_; refine wpList_store_any rfl 28 (.tmp 4) (.tmp 12) rfl w.heap.size rfl 28 Z Z hk1.out rfl rfl SZ.out OZ.out ?_; intro w3 hk3 hs3 hb3 ho3)
      | (refine bodyPost_any2 4 5 28 rfl w.heap.size rfl (.int .i64 1) rfl 28 Z hk3.out _ Tryz.underlying28 rfl SZ.out rfl ?_))
    exact hb1.trans (hb3 _ (Nat.le_refl _))
set_option maxHeartbeats 4000000 in
theorem rssame_c (a b : Src) (oka : a.Ok) (okb : b.Ok) (A B : Option Addr) (c d : Nat) (w : World) (hra : Rd .u8 w w.heap.size A a.tape.length a.tape) (hrb : Rd .u8 w w.heap.size B b.tape.length b.tape) : Calls Tryz.prog 9 #[.agg (srcV a A c), .agg (srcV b B d)] w fun e w' => e = .returned (.bool (sameS a b)) ∧ Below w.heap.size w w' := by
  have HA := Lib.hid (fun (W : World) (g : Nat) (h : Blk W g 28 (srcV a A c)) => And.intro ((h.cell 0).trans (srcV_kind a A c)) (And.intro ((h.cell 1).trans (srcV_tape a A c)) (And.intro ((h.cell 2).trans (srcV_bits a A c)) (And.intro ((h.cell 35).trans (srcV_dom a oka.sl A c)) (And.intro ((h.cell 36).trans (srcV_at a oka.sl A c)) (srcV_seed h))))))
  have HB := Lib.hid (fun (W : World) (g : Nat) (h : Blk W g 28 (srcV b B d)) => And.intro ((h.cell 0).trans (srcV_kind b B d)) (And.intro ((h.cell 1).trans (srcV_tape b B d)) (And.intro ((h.cell 2).trans (srcV_bits b B d)) (And.intro ((h.cell 35).trans (srcV_dom b okb.sl B d)) (And.intro ((h.cell 36).trans (srcV_at b okb.sl B d)) (srcV_seed h))))))
  have SA := Lib.hid (show (Tryz.prog.info? 26).map (·.size) = some a.seed.length by rw [oka.sl]; exact size_hash)
  have SB := Lib.hid (show (Tryz.prog.info? 26).map (·.size) = some b.seed.length by rw [okb.sl]; exact size_hash)
  have HRA := Lib.hid hra
  have HRB := Lib.hid hrb
  by_cases h0 : a.kind = b.kind
  · by_cases h1 : a.tape = b.tape
    · by_cases h2 : a.bits = b.bits
      · by_cases h3 : a.seed = b.seed
        · by_cases h4 : a.dom = b.dom
          · by_cases h5 : a.at_ = b.at_
            · have HR : Hid (sameS a b = true) := Lib.hid (by unfold sameS; rw [decide_eq_true h0, decide_eq_true h1, decide_eq_true h2, decide_eq_true h3, decide_eq_true h4, decide_eq_true h5]; simp)
              have t0 : (a.kind == b.kind) = true := by rw [beq_iff_eq]; exact h0
              have t1 : ((strB a.tape).toList == (strB b.tape).toList) = true := by rw [beq_iff_eq, h1]
              have t2 : (a.bits == b.bits) = true := by rw [beq_iff_eq]; exact h2
              have HSE := Lib.hid (fun W => (show (Op.equalIn 10000 26 (.agg (intsA .u8 a.seed)) (.agg (intsA .u8 b.seed))).run Tryz.prog W = .ok true W by rw [eq_hash a.seed b.seed oka.sl okb.sl, decide_eq_true h3]))
              have t4 : (a.dom == b.dom) = true := by rw [beq_iff_eq]; exact h4
              have t5 : (a.at_ == b.at_) = true := by rw [beq_iff_eq]; exact h5
              have t3 := HSE.out
              clear HSE
              obtain ⟨Va, hVa⟩ : ∃ V, srcV a A c = V := ⟨_, rfl⟩
              obtain ⟨Vb, hVb⟩ : ∃ V, srcV b B d = V := ⟨_, rfl⟩
              rw [hVa] at HA
              rw [hVb] at HB
              rw [hVa, hVb]
              clear hVa hVb hra hrb h0 h1 h2 h3 h4 h5
              obtain ⟨a_kind, ha_kind⟩ : ∃ x, a.kind = x := ⟨_, rfl⟩
              obtain ⟨b_kind, hb_kind⟩ : ∃ x, b.kind = x := ⟨_, rfl⟩
              obtain ⟨a_bits, ha_bits⟩ : ∃ x, a.bits = x := ⟨_, rfl⟩
              obtain ⟨b_bits, hb_bits⟩ : ∃ x, b.bits = x := ⟨_, rfl⟩
              obtain ⟨a_dom, ha_dom⟩ : ∃ x, a.dom = x := ⟨_, rfl⟩
              obtain ⟨b_dom, hb_dom⟩ : ∃ x, b.dom = x := ⟨_, rfl⟩
              obtain ⟨a_at_, ha_at_⟩ : ∃ x, a.at_ = x := ⟨_, rfl⟩
              obtain ⟨b_at_, hb_at_⟩ : ∃ x, b.at_ = x := ⟨_, rfl⟩
              rw [ha_kind, ha_bits, ha_dom, ha_at_] at HA
              rw [hb_kind, hb_bits, hb_dom, hb_at_] at HB
              rw [ha_kind, hb_kind] at t0
              rw [ha_bits, hb_bits] at t2
              rw [ha_dom, hb_dom] at t4
              rw [ha_at_, hb_at_] at t5
              clear ha_kind ha_bits ha_dom ha_at_ hb_kind hb_bits hb_dom hb_at_
              go_enter Tryz.func9, Tryz.ntmps9
              go_wp2_with (first
                | (with_reducible refine at_any ?_; refine at_dst 2 rfl ?_; refine wpList_box_any rfl 28 (.tmp 0) rfl Va rfl ?_; intro w1 hk1 hs1 hb1)
                | (with_reducible refine at_any ?_; refine at_dst 3 rfl ?_; refine wpList_box_any rfl 28 (.tmp 1) rfl Vb rfl ?_; intro w2 hk2 hs2 hb2; have ka := Lib.hid (hk1.out.below hb2 hk1.out.lt); have bl := Lib.hid (hb1.trans (hb2.mono hb1.size)); have ca0 := (HA.out _ _ ka.out).1; have ca1 := (HA.out _ _ ka.out).2.1; have ca2 := (HA.out _ _ ka.out).2.2.1; have ca4 := (HA.out _ _ ka.out).2.2.2.1; have ca5 := (HA.out _ _ ka.out).2.2.2.2.1; have cb0 := (HB.out _ _ hk2.out).1; have cb1 := (HB.out _ _ hk2.out).2.1; have cb2 := (HB.out _ _ hk2.out).2.2.1; have cb4 := (HB.out _ _ hk2.out).2.2.2.1; have cb5 := (HB.out _ _ hk2.out).2.2.2.2.1; have xa := str_rd5 (c := c) (HRA.out.below bl.out); have xb := str_rd5 (c := d) (HRB.out.below bl.out))
                | (with_reducible refine at_any ?_; refine at_dst 28 rfl ?_; refine wpList_load_gdo (by kernel_rfl) 26 (.tmp 27) rfl w.heap.size 3 rfl .u8 a.seed (HA.out _ _ ka.out).2.2.2.2.2 _ Tryz.underlying26 rfl SA.out ?_)
                | (with_reducible refine at_any ?_; refine at_dst 30 rfl ?_; refine wpList_load_gdo (by kernel_rfl) 26 (.tmp 29) rfl w1.heap.size 3 rfl .u8 b.seed (HB.out _ _ hk2.out).2.2.2.2.2 _ Tryz.underlying26 rfl SB.out ?_))
              go_ret
              exact ⟨by rw [HR.out]; rfl, bl.out⟩
            · have HR : Hid (sameS a b = false) := Lib.hid (by unfold sameS; rw [decide_eq_true h0, decide_eq_true h1, decide_eq_true h2, decide_eq_true h3, decide_eq_true h4, decide_eq_false h5]; simp)
              have t0 : (a.kind == b.kind) = true := by rw [beq_iff_eq]; exact h0
              have t1 : ((strB a.tape).toList == (strB b.tape).toList) = true := by rw [beq_iff_eq, h1]
              have t2 : (a.bits == b.bits) = true := by rw [beq_iff_eq]; exact h2
              have HSE := Lib.hid (fun W => (show (Op.equalIn 10000 26 (.agg (intsA .u8 a.seed)) (.agg (intsA .u8 b.seed))).run Tryz.prog W = .ok true W by rw [eq_hash a.seed b.seed oka.sl okb.sl, decide_eq_true h3]))
              have t4 : (a.dom == b.dom) = true := by rw [beq_iff_eq]; exact h4
              have t5 : (a.at_ == b.at_) = false := by rw [beq_eq_false_iff_ne]; exact h5
              have t3 := HSE.out
              clear HSE
              obtain ⟨Va, hVa⟩ : ∃ V, srcV a A c = V := ⟨_, rfl⟩
              obtain ⟨Vb, hVb⟩ : ∃ V, srcV b B d = V := ⟨_, rfl⟩
              rw [hVa] at HA
              rw [hVb] at HB
              rw [hVa, hVb]
              clear hVa hVb hra hrb h0 h1 h2 h3 h4 h5
              obtain ⟨a_kind, ha_kind⟩ : ∃ x, a.kind = x := ⟨_, rfl⟩
              obtain ⟨b_kind, hb_kind⟩ : ∃ x, b.kind = x := ⟨_, rfl⟩
              obtain ⟨a_bits, ha_bits⟩ : ∃ x, a.bits = x := ⟨_, rfl⟩
              obtain ⟨b_bits, hb_bits⟩ : ∃ x, b.bits = x := ⟨_, rfl⟩
              obtain ⟨a_dom, ha_dom⟩ : ∃ x, a.dom = x := ⟨_, rfl⟩
              obtain ⟨b_dom, hb_dom⟩ : ∃ x, b.dom = x := ⟨_, rfl⟩
              obtain ⟨a_at_, ha_at_⟩ : ∃ x, a.at_ = x := ⟨_, rfl⟩
              obtain ⟨b_at_, hb_at_⟩ : ∃ x, b.at_ = x := ⟨_, rfl⟩
              rw [ha_kind, ha_bits, ha_dom, ha_at_] at HA
              rw [hb_kind, hb_bits, hb_dom, hb_at_] at HB
              rw [ha_kind, hb_kind] at t0
              rw [ha_bits, hb_bits] at t2
              rw [ha_dom, hb_dom] at t4
              rw [ha_at_, hb_at_] at t5
              clear ha_kind ha_bits ha_dom ha_at_ hb_kind hb_bits hb_dom hb_at_
              go_enter Tryz.func9, Tryz.ntmps9
              go_wp2_with (first
                | (with_reducible refine at_any ?_; refine at_dst 2 rfl ?_; refine wpList_box_any rfl 28 (.tmp 0) rfl Va rfl ?_; intro w1 hk1 hs1 hb1)
                | (with_reducible refine at_any ?_; refine at_dst 3 rfl ?_; refine wpList_box_any rfl 28 (.tmp 1) rfl Vb rfl ?_; intro w2 hk2 hs2 hb2; have ka := Lib.hid (hk1.out.below hb2 hk1.out.lt); have bl := Lib.hid (hb1.trans (hb2.mono hb1.size)); have ca0 := (HA.out _ _ ka.out).1; have ca1 := (HA.out _ _ ka.out).2.1; have ca2 := (HA.out _ _ ka.out).2.2.1; have ca4 := (HA.out _ _ ka.out).2.2.2.1; have ca5 := (HA.out _ _ ka.out).2.2.2.2.1; have cb0 := (HB.out _ _ hk2.out).1; have cb1 := (HB.out _ _ hk2.out).2.1; have cb2 := (HB.out _ _ hk2.out).2.2.1; have cb4 := (HB.out _ _ hk2.out).2.2.2.1; have cb5 := (HB.out _ _ hk2.out).2.2.2.2.1; have xa := str_rd5 (c := c) (HRA.out.below bl.out); have xb := str_rd5 (c := d) (HRB.out.below bl.out))
                | (with_reducible refine at_any ?_; refine at_dst 28 rfl ?_; refine wpList_load_gdo (by kernel_rfl) 26 (.tmp 27) rfl w.heap.size 3 rfl .u8 a.seed (HA.out _ _ ka.out).2.2.2.2.2 _ Tryz.underlying26 rfl SA.out ?_)
                | (with_reducible refine at_any ?_; refine at_dst 30 rfl ?_; refine wpList_load_gdo (by kernel_rfl) 26 (.tmp 29) rfl w1.heap.size 3 rfl .u8 b.seed (HB.out _ _ hk2.out).2.2.2.2.2 _ Tryz.underlying26 rfl SB.out ?_))
              go_ret
              exact ⟨by rw [HR.out]; rfl, bl.out⟩
          · have HR : Hid (sameS a b = false) := Lib.hid (by unfold sameS; rw [decide_eq_true h0, decide_eq_true h1, decide_eq_true h2, decide_eq_true h3, decide_eq_false h4]; simp)
            have t0 : (a.kind == b.kind) = true := by rw [beq_iff_eq]; exact h0
            have t1 : ((strB a.tape).toList == (strB b.tape).toList) = true := by rw [beq_iff_eq, h1]
            have t2 : (a.bits == b.bits) = true := by rw [beq_iff_eq]; exact h2
            have HSE := Lib.hid (fun W => (show (Op.equalIn 10000 26 (.agg (intsA .u8 a.seed)) (.agg (intsA .u8 b.seed))).run Tryz.prog W = .ok true W by rw [eq_hash a.seed b.seed oka.sl okb.sl, decide_eq_true h3]))
            have t4 : (a.dom == b.dom) = false := by rw [beq_eq_false_iff_ne]; exact h4
            have t3 := HSE.out
            clear HSE
            obtain ⟨Va, hVa⟩ : ∃ V, srcV a A c = V := ⟨_, rfl⟩
            obtain ⟨Vb, hVb⟩ : ∃ V, srcV b B d = V := ⟨_, rfl⟩
            rw [hVa] at HA
            rw [hVb] at HB
            rw [hVa, hVb]
            clear hVa hVb hra hrb h0 h1 h2 h3 h4
            obtain ⟨a_kind, ha_kind⟩ : ∃ x, a.kind = x := ⟨_, rfl⟩
            obtain ⟨b_kind, hb_kind⟩ : ∃ x, b.kind = x := ⟨_, rfl⟩
            obtain ⟨a_bits, ha_bits⟩ : ∃ x, a.bits = x := ⟨_, rfl⟩
            obtain ⟨b_bits, hb_bits⟩ : ∃ x, b.bits = x := ⟨_, rfl⟩
            obtain ⟨a_dom, ha_dom⟩ : ∃ x, a.dom = x := ⟨_, rfl⟩
            obtain ⟨b_dom, hb_dom⟩ : ∃ x, b.dom = x := ⟨_, rfl⟩
            obtain ⟨a_at_, ha_at_⟩ : ∃ x, a.at_ = x := ⟨_, rfl⟩
            obtain ⟨b_at_, hb_at_⟩ : ∃ x, b.at_ = x := ⟨_, rfl⟩
            rw [ha_kind, ha_bits, ha_dom, ha_at_] at HA
            rw [hb_kind, hb_bits, hb_dom, hb_at_] at HB
            rw [ha_kind, hb_kind] at t0
            rw [ha_bits, hb_bits] at t2
            rw [ha_dom, hb_dom] at t4
            clear ha_kind ha_bits ha_dom ha_at_ hb_kind hb_bits hb_dom hb_at_
            go_enter Tryz.func9, Tryz.ntmps9
            go_wp2_with (first
              | (with_reducible refine at_any ?_; refine at_dst 2 rfl ?_; refine wpList_box_any rfl 28 (.tmp 0) rfl Va rfl ?_; intro w1 hk1 hs1 hb1)
              | (with_reducible refine at_any ?_; refine at_dst 3 rfl ?_; refine wpList_box_any rfl 28 (.tmp 1) rfl Vb rfl ?_; intro w2 hk2 hs2 hb2; have ka := Lib.hid (hk1.out.below hb2 hk1.out.lt); have bl := Lib.hid (hb1.trans (hb2.mono hb1.size)); have ca0 := (HA.out _ _ ka.out).1; have ca1 := (HA.out _ _ ka.out).2.1; have ca2 := (HA.out _ _ ka.out).2.2.1; have ca4 := (HA.out _ _ ka.out).2.2.2.1; have ca5 := (HA.out _ _ ka.out).2.2.2.2.1; have cb0 := (HB.out _ _ hk2.out).1; have cb1 := (HB.out _ _ hk2.out).2.1; have cb2 := (HB.out _ _ hk2.out).2.2.1; have cb4 := (HB.out _ _ hk2.out).2.2.2.1; have cb5 := (HB.out _ _ hk2.out).2.2.2.2.1; have xa := str_rd5 (c := c) (HRA.out.below bl.out); have xb := str_rd5 (c := d) (HRB.out.below bl.out))
              | (with_reducible refine at_any ?_; refine at_dst 28 rfl ?_; refine wpList_load_gdo (by kernel_rfl) 26 (.tmp 27) rfl w.heap.size 3 rfl .u8 a.seed (HA.out _ _ ka.out).2.2.2.2.2 _ Tryz.underlying26 rfl SA.out ?_)
              | (with_reducible refine at_any ?_; refine at_dst 30 rfl ?_; refine wpList_load_gdo (by kernel_rfl) 26 (.tmp 29) rfl w1.heap.size 3 rfl .u8 b.seed (HB.out _ _ hk2.out).2.2.2.2.2 _ Tryz.underlying26 rfl SB.out ?_))
            go_ret
            exact ⟨by rw [HR.out]; rfl, bl.out⟩
        · have HR : Hid (sameS a b = false) := Lib.hid (by unfold sameS; rw [decide_eq_true h0, decide_eq_true h1, decide_eq_true h2, decide_eq_false h3]; simp)
          have t0 : (a.kind == b.kind) = true := by rw [beq_iff_eq]; exact h0
          have t1 : ((strB a.tape).toList == (strB b.tape).toList) = true := by rw [beq_iff_eq, h1]
          have t2 : (a.bits == b.bits) = true := by rw [beq_iff_eq]; exact h2
          have HSE := Lib.hid (fun W => (show (Op.equalIn 10000 26 (.agg (intsA .u8 a.seed)) (.agg (intsA .u8 b.seed))).run Tryz.prog W = .ok false W by rw [eq_hash a.seed b.seed oka.sl okb.sl, decide_eq_false h3]))
          have t3 := HSE.out
          clear HSE
          obtain ⟨Va, hVa⟩ : ∃ V, srcV a A c = V := ⟨_, rfl⟩
          obtain ⟨Vb, hVb⟩ : ∃ V, srcV b B d = V := ⟨_, rfl⟩
          rw [hVa] at HA
          rw [hVb] at HB
          rw [hVa, hVb]
          clear hVa hVb hra hrb h0 h1 h2 h3
          obtain ⟨a_kind, ha_kind⟩ : ∃ x, a.kind = x := ⟨_, rfl⟩
          obtain ⟨b_kind, hb_kind⟩ : ∃ x, b.kind = x := ⟨_, rfl⟩
          obtain ⟨a_bits, ha_bits⟩ : ∃ x, a.bits = x := ⟨_, rfl⟩
          obtain ⟨b_bits, hb_bits⟩ : ∃ x, b.bits = x := ⟨_, rfl⟩
          obtain ⟨a_dom, ha_dom⟩ : ∃ x, a.dom = x := ⟨_, rfl⟩
          obtain ⟨b_dom, hb_dom⟩ : ∃ x, b.dom = x := ⟨_, rfl⟩
          obtain ⟨a_at_, ha_at_⟩ : ∃ x, a.at_ = x := ⟨_, rfl⟩
          obtain ⟨b_at_, hb_at_⟩ : ∃ x, b.at_ = x := ⟨_, rfl⟩
          rw [ha_kind, ha_bits, ha_dom, ha_at_] at HA
          rw [hb_kind, hb_bits, hb_dom, hb_at_] at HB
          rw [ha_kind, hb_kind] at t0
          rw [ha_bits, hb_bits] at t2
          clear ha_kind ha_bits ha_dom ha_at_ hb_kind hb_bits hb_dom hb_at_
          go_enter Tryz.func9, Tryz.ntmps9
          go_wp2_with (first
            | (with_reducible refine at_any ?_; refine at_dst 2 rfl ?_; refine wpList_box_any rfl 28 (.tmp 0) rfl Va rfl ?_; intro w1 hk1 hs1 hb1)
            | (with_reducible refine at_any ?_; refine at_dst 3 rfl ?_; refine wpList_box_any rfl 28 (.tmp 1) rfl Vb rfl ?_; intro w2 hk2 hs2 hb2; have ka := Lib.hid (hk1.out.below hb2 hk1.out.lt); have bl := Lib.hid (hb1.trans (hb2.mono hb1.size)); have ca0 := (HA.out _ _ ka.out).1; have ca1 := (HA.out _ _ ka.out).2.1; have ca2 := (HA.out _ _ ka.out).2.2.1; have ca4 := (HA.out _ _ ka.out).2.2.2.1; have ca5 := (HA.out _ _ ka.out).2.2.2.2.1; have cb0 := (HB.out _ _ hk2.out).1; have cb1 := (HB.out _ _ hk2.out).2.1; have cb2 := (HB.out _ _ hk2.out).2.2.1; have cb4 := (HB.out _ _ hk2.out).2.2.2.1; have cb5 := (HB.out _ _ hk2.out).2.2.2.2.1; have xa := str_rd5 (c := c) (HRA.out.below bl.out); have xb := str_rd5 (c := d) (HRB.out.below bl.out))
            | (with_reducible refine at_any ?_; refine at_dst 28 rfl ?_; refine wpList_load_gdo (by kernel_rfl) 26 (.tmp 27) rfl w.heap.size 3 rfl .u8 a.seed (HA.out _ _ ka.out).2.2.2.2.2 _ Tryz.underlying26 rfl SA.out ?_)
            | (with_reducible refine at_any ?_; refine at_dst 30 rfl ?_; refine wpList_load_gdo (by kernel_rfl) 26 (.tmp 29) rfl w1.heap.size 3 rfl .u8 b.seed (HB.out _ _ hk2.out).2.2.2.2.2 _ Tryz.underlying26 rfl SB.out ?_))
          go_ret
          exact ⟨by rw [HR.out]; rfl, bl.out⟩
      · have HR : Hid (sameS a b = false) := Lib.hid (by unfold sameS; rw [decide_eq_true h0, decide_eq_true h1, decide_eq_false h2]; simp)
        have t0 : (a.kind == b.kind) = true := by rw [beq_iff_eq]; exact h0
        have t1 : ((strB a.tape).toList == (strB b.tape).toList) = true := by rw [beq_iff_eq, h1]
        have t2 : (a.bits == b.bits) = false := by rw [beq_eq_false_iff_ne]; exact h2
        skip
        obtain ⟨Va, hVa⟩ : ∃ V, srcV a A c = V := ⟨_, rfl⟩
        obtain ⟨Vb, hVb⟩ : ∃ V, srcV b B d = V := ⟨_, rfl⟩
        rw [hVa] at HA
        rw [hVb] at HB
        rw [hVa, hVb]
        clear hVa hVb hra hrb h0 h1 h2
        obtain ⟨a_kind, ha_kind⟩ : ∃ x, a.kind = x := ⟨_, rfl⟩
        obtain ⟨b_kind, hb_kind⟩ : ∃ x, b.kind = x := ⟨_, rfl⟩
        obtain ⟨a_bits, ha_bits⟩ : ∃ x, a.bits = x := ⟨_, rfl⟩
        obtain ⟨b_bits, hb_bits⟩ : ∃ x, b.bits = x := ⟨_, rfl⟩
        obtain ⟨a_dom, ha_dom⟩ : ∃ x, a.dom = x := ⟨_, rfl⟩
        obtain ⟨b_dom, hb_dom⟩ : ∃ x, b.dom = x := ⟨_, rfl⟩
        obtain ⟨a_at_, ha_at_⟩ : ∃ x, a.at_ = x := ⟨_, rfl⟩
        obtain ⟨b_at_, hb_at_⟩ : ∃ x, b.at_ = x := ⟨_, rfl⟩
        rw [ha_kind, ha_bits, ha_dom, ha_at_] at HA
        rw [hb_kind, hb_bits, hb_dom, hb_at_] at HB
        rw [ha_kind, hb_kind] at t0
        rw [ha_bits, hb_bits] at t2
        clear ha_kind ha_bits ha_dom ha_at_ hb_kind hb_bits hb_dom hb_at_
        go_enter Tryz.func9, Tryz.ntmps9
        go_wp2_with (first
          | (with_reducible refine at_any ?_; refine at_dst 2 rfl ?_; refine wpList_box_any rfl 28 (.tmp 0) rfl Va rfl ?_; intro w1 hk1 hs1 hb1)
          | (with_reducible refine at_any ?_; refine at_dst 3 rfl ?_; refine wpList_box_any rfl 28 (.tmp 1) rfl Vb rfl ?_; intro w2 hk2 hs2 hb2; have ka := Lib.hid (hk1.out.below hb2 hk1.out.lt); have bl := Lib.hid (hb1.trans (hb2.mono hb1.size)); have ca0 := (HA.out _ _ ka.out).1; have ca1 := (HA.out _ _ ka.out).2.1; have ca2 := (HA.out _ _ ka.out).2.2.1; have ca4 := (HA.out _ _ ka.out).2.2.2.1; have ca5 := (HA.out _ _ ka.out).2.2.2.2.1; have cb0 := (HB.out _ _ hk2.out).1; have cb1 := (HB.out _ _ hk2.out).2.1; have cb2 := (HB.out _ _ hk2.out).2.2.1; have cb4 := (HB.out _ _ hk2.out).2.2.2.1; have cb5 := (HB.out _ _ hk2.out).2.2.2.2.1; have xa := str_rd5 (c := c) (HRA.out.below bl.out); have xb := str_rd5 (c := d) (HRB.out.below bl.out))
          | (with_reducible refine at_any ?_; refine at_dst 28 rfl ?_; refine wpList_load_gdo (by kernel_rfl) 26 (.tmp 27) rfl w.heap.size 3 rfl .u8 a.seed (HA.out _ _ ka.out).2.2.2.2.2 _ Tryz.underlying26 rfl SA.out ?_)
          | (with_reducible refine at_any ?_; refine at_dst 30 rfl ?_; refine wpList_load_gdo (by kernel_rfl) 26 (.tmp 29) rfl w1.heap.size 3 rfl .u8 b.seed (HB.out _ _ hk2.out).2.2.2.2.2 _ Tryz.underlying26 rfl SB.out ?_))
        go_ret
        exact ⟨by rw [HR.out]; rfl, bl.out⟩
    · have HR : Hid (sameS a b = false) := Lib.hid (by unfold sameS; rw [decide_eq_true h0, decide_eq_false h1]; simp)
      have t0 : (a.kind == b.kind) = true := by rw [beq_iff_eq]; exact h0
      have t1 : ((strB a.tape).toList == (strB b.tape).toList) = false := by rw [beq_eq_false_iff_ne]; exact fun h => h1 (strB_inj oka.ti okb.ti (toL_eq5.1 h))
      skip
      obtain ⟨Va, hVa⟩ : ∃ V, srcV a A c = V := ⟨_, rfl⟩
      obtain ⟨Vb, hVb⟩ : ∃ V, srcV b B d = V := ⟨_, rfl⟩
      rw [hVa] at HA
      rw [hVb] at HB
      rw [hVa, hVb]
      clear hVa hVb hra hrb h0 h1
      obtain ⟨a_kind, ha_kind⟩ : ∃ x, a.kind = x := ⟨_, rfl⟩
      obtain ⟨b_kind, hb_kind⟩ : ∃ x, b.kind = x := ⟨_, rfl⟩
      obtain ⟨a_bits, ha_bits⟩ : ∃ x, a.bits = x := ⟨_, rfl⟩
      obtain ⟨b_bits, hb_bits⟩ : ∃ x, b.bits = x := ⟨_, rfl⟩
      obtain ⟨a_dom, ha_dom⟩ : ∃ x, a.dom = x := ⟨_, rfl⟩
      obtain ⟨b_dom, hb_dom⟩ : ∃ x, b.dom = x := ⟨_, rfl⟩
      obtain ⟨a_at_, ha_at_⟩ : ∃ x, a.at_ = x := ⟨_, rfl⟩
      obtain ⟨b_at_, hb_at_⟩ : ∃ x, b.at_ = x := ⟨_, rfl⟩
      rw [ha_kind, ha_bits, ha_dom, ha_at_] at HA
      rw [hb_kind, hb_bits, hb_dom, hb_at_] at HB
      rw [ha_kind, hb_kind] at t0
      clear ha_kind ha_bits ha_dom ha_at_ hb_kind hb_bits hb_dom hb_at_
      go_enter Tryz.func9, Tryz.ntmps9
      go_wp2_with (first
        | (with_reducible refine at_any ?_; refine at_dst 2 rfl ?_; refine wpList_box_any rfl 28 (.tmp 0) rfl Va rfl ?_; intro w1 hk1 hs1 hb1)
        | (with_reducible refine at_any ?_; refine at_dst 3 rfl ?_; refine wpList_box_any rfl 28 (.tmp 1) rfl Vb rfl ?_; intro w2 hk2 hs2 hb2; have ka := Lib.hid (hk1.out.below hb2 hk1.out.lt); have bl := Lib.hid (hb1.trans (hb2.mono hb1.size)); have ca0 := (HA.out _ _ ka.out).1; have ca1 := (HA.out _ _ ka.out).2.1; have ca2 := (HA.out _ _ ka.out).2.2.1; have ca4 := (HA.out _ _ ka.out).2.2.2.1; have ca5 := (HA.out _ _ ka.out).2.2.2.2.1; have cb0 := (HB.out _ _ hk2.out).1; have cb1 := (HB.out _ _ hk2.out).2.1; have cb2 := (HB.out _ _ hk2.out).2.2.1; have cb4 := (HB.out _ _ hk2.out).2.2.2.1; have cb5 := (HB.out _ _ hk2.out).2.2.2.2.1; have xa := str_rd5 (c := c) (HRA.out.below bl.out); have xb := str_rd5 (c := d) (HRB.out.below bl.out))
        | (with_reducible refine at_any ?_; refine at_dst 28 rfl ?_; refine wpList_load_gdo (by kernel_rfl) 26 (.tmp 27) rfl w.heap.size 3 rfl .u8 a.seed (HA.out _ _ ka.out).2.2.2.2.2 _ Tryz.underlying26 rfl SA.out ?_)
        | (with_reducible refine at_any ?_; refine at_dst 30 rfl ?_; refine wpList_load_gdo (by kernel_rfl) 26 (.tmp 29) rfl w1.heap.size 3 rfl .u8 b.seed (HB.out _ _ hk2.out).2.2.2.2.2 _ Tryz.underlying26 rfl SB.out ?_))
      go_ret
      exact ⟨by rw [HR.out]; rfl, bl.out⟩
  · have HR : Hid (sameS a b = false) := Lib.hid (by unfold sameS; rw [decide_eq_false h0]; simp)
    have t0 : (a.kind == b.kind) = false := by rw [beq_eq_false_iff_ne]; exact h0
    skip
    obtain ⟨Va, hVa⟩ : ∃ V, srcV a A c = V := ⟨_, rfl⟩
    obtain ⟨Vb, hVb⟩ : ∃ V, srcV b B d = V := ⟨_, rfl⟩
    rw [hVa] at HA
    rw [hVb] at HB
    rw [hVa, hVb]
    clear hVa hVb hra hrb h0
    obtain ⟨a_kind, ha_kind⟩ : ∃ x, a.kind = x := ⟨_, rfl⟩
    obtain ⟨b_kind, hb_kind⟩ : ∃ x, b.kind = x := ⟨_, rfl⟩
    obtain ⟨a_bits, ha_bits⟩ : ∃ x, a.bits = x := ⟨_, rfl⟩
    obtain ⟨b_bits, hb_bits⟩ : ∃ x, b.bits = x := ⟨_, rfl⟩
    obtain ⟨a_dom, ha_dom⟩ : ∃ x, a.dom = x := ⟨_, rfl⟩
    obtain ⟨b_dom, hb_dom⟩ : ∃ x, b.dom = x := ⟨_, rfl⟩
    obtain ⟨a_at_, ha_at_⟩ : ∃ x, a.at_ = x := ⟨_, rfl⟩
    obtain ⟨b_at_, hb_at_⟩ : ∃ x, b.at_ = x := ⟨_, rfl⟩
    rw [ha_kind, ha_bits, ha_dom, ha_at_] at HA
    rw [hb_kind, hb_bits, hb_dom, hb_at_] at HB
    rw [ha_kind, hb_kind] at t0
    clear ha_kind ha_bits ha_dom ha_at_ hb_kind hb_bits hb_dom hb_at_
    go_enter Tryz.func9, Tryz.ntmps9
    go_wp2_with (first
      | (with_reducible refine at_any ?_; refine at_dst 2 rfl ?_; refine wpList_box_any rfl 28 (.tmp 0) rfl Va rfl ?_; intro w1 hk1 hs1 hb1)
      | (with_reducible refine at_any ?_; refine at_dst 3 rfl ?_; refine wpList_box_any rfl 28 (.tmp 1) rfl Vb rfl ?_; intro w2 hk2 hs2 hb2; have ka := Lib.hid (hk1.out.below hb2 hk1.out.lt); have bl := Lib.hid (hb1.trans (hb2.mono hb1.size)); have ca0 := (HA.out _ _ ka.out).1; have ca1 := (HA.out _ _ ka.out).2.1; have ca2 := (HA.out _ _ ka.out).2.2.1; have ca4 := (HA.out _ _ ka.out).2.2.2.1; have ca5 := (HA.out _ _ ka.out).2.2.2.2.1; have cb0 := (HB.out _ _ hk2.out).1; have cb1 := (HB.out _ _ hk2.out).2.1; have cb2 := (HB.out _ _ hk2.out).2.2.1; have cb4 := (HB.out _ _ hk2.out).2.2.2.1; have cb5 := (HB.out _ _ hk2.out).2.2.2.2.1; have xa := str_rd5 (c := c) (HRA.out.below bl.out); have xb := str_rd5 (c := d) (HRB.out.below bl.out))
      | (with_reducible refine at_any ?_; refine at_dst 28 rfl ?_; refine wpList_load_gdo (by kernel_rfl) 26 (.tmp 27) rfl w.heap.size 3 rfl .u8 a.seed (HA.out _ _ ka.out).2.2.2.2.2 _ Tryz.underlying26 rfl SA.out ?_)
      | (with_reducible refine at_any ?_; refine at_dst 30 rfl ?_; refine wpList_load_gdo (by kernel_rfl) 26 (.tmp 29) rfl w1.heap.size 3 rfl .u8 b.seed (HB.out _ _ hk2.out).2.2.2.2.2 _ Tryz.underlying26 rfl SB.out ?_))
    go_ret
    exact ⟨by rw [HR.out]; rfl, bl.out⟩
end Go.Proofs.YtepclbmcacdhlaaGreatDoor
/-
  Who leads, of a list of stakes, by a source: in plain Lean, and as it is handed back.
  Conditions: those that each theorem names.
-/
set_option maxRecDepth 100000
set_option linter.unusedVariables false
set_option linter.unusedSimpArgs false
namespace Go.Proofs.YtepclbmcacdhlaaGreatDoor
open Go.ChangeShapes Go.WideShapes Go.ChangeAt Go.RowKit
/-- A ticket below the sum is drawn; its owner leads. -/
def ledGo (l : List Int) (r : Int × Src × Int) : Int × Src × Int := if r.2.2 = 0 then (ownV l r.1, r.2.1, 0) else (0, r.2.1, r.2.2)
def ledT (l : List Int) (s : Src) (a : Int) : Int × Src × Int := if sumL l = 0 then (0, s, 10) else ledGo l (drawR s (sumL l) a)
def ledR (l : List Int) (s : Src) (a : Int) : Int × Src × Int := if sumL l < 9223372036854775808 then ledT l s a else (0, s, 11)
theorem led_big {l : List Int} (s : Src) (a : Int) (h : ¬ sumL l < 9223372036854775808) : ledR l s a = (0, s, 11) := if_neg h
theorem led_ok {l : List Int} (s : Src) (a : Int) (h : sumL l < 9223372036854775808) : ledR l s a = ledT l s a := if_pos h
theorem ledT_zero {l : List Int} (s : Src) (a : Int) (h : sumL l = 0) : ledT l s a = (0, s, 10) := if_pos h
theorem ledT_go {l : List Int} (s : Src) (a : Int) (h : sumL l ≠ 0) : ledT l s a = ledGo l (drawR s (sumL l) a) := if_neg h
theorem ledT_no (l : List Int) (s : Src) (a : Int) (h : (ledT l s a).2.2 ≠ 0) : (ledT l s a).1 = 0 := by
  unfold ledT ledGo at h ⊢
  split
  · rfl
  · rename_i h1
    rw [if_neg h1] at h
    split
    · rename_i h2
      rw [if_pos h2] at h
      exact absurd rfl h
    · rfl
theorem ledT_in (l : List Int) (s : Src) (a : Int) (ok : s.Ok) : (ledT l s a).2.1.Ok ∧ (ledT l s a).2.1.tape = s.tape := by
  unfold ledT ledGo
  split
  · exact ⟨ok, rfl⟩
  · split
    · exact ⟨drawT_ok s _ a ok, drawT_tape s _ a⟩
    · exact ⟨drawT_ok s _ a ok, drawT_tape s _ a⟩
/-- Who leads has a stake; the source has gone on. -/
theorem ledT_ok {l : List Int} (hz : ∀ z ∈ l, 0 ≤ z) (s : Src) (a : Int) (h : (ledT l s a).2.2 = 0) : ∃ k, k < l.length ∧ (ledT l s a).1 = (k : Int) ∧ 0 < l.getD k 0 ∧ s.at_ ≤ (ledT l s a).2.1.at_ := by
  unfold ledT ledGo at h ⊢
  by_cases h1 : sumL l = 0
  · rw [if_pos h1] at h
    exact absurd h (show ¬ ((10 : Int) = 0) by decide)
  · rw [if_neg h1] at h ⊢
    by_cases h2 : (drawR s (sumL l) a).2.2 = 0
    · rw [if_pos h2]
      have hx := draw_in s (sumL l) a
      unfold drawR at h2 hx ⊢
      by_cases hb : drawB s (sumL l) a = true
      · rw [if_pos hb] at h2 hx ⊢
        obtain ⟨e1, j, _, e2, _⟩ := drawGo_first _ _ _ _ h2
        obtain ⟨k, f1, f2, _, f4, f5⟩ := own_at hz hx.1 e1
        have := preL_next (l := l) (n := k) f1
        refine ⟨k, f1, f2, by omega, ?_⟩
        rw [e2]
        show s.at_ ≤ s.at_ + _
        omega
      · rw [if_neg hb] at h2
        exact absurd h2 (by show ¬ ((1 : Int) = 0); decide)
    · rw [if_neg h2] at h
      exact absurd h h2
end Go.Proofs.YtepclbmcacdhlaaGreatDoor
/-
  What the reference's Need of stage 8 returns.
  Conditions: the number lies in its type's range.
-/
set_option maxRecDepth 100000
set_option linter.unusedVariables false
set_option linter.unusedSimpArgs false
namespace Go.Proofs.YtepclbmcacdhlaaGreatDoor
open Go.ChangeShapes Go.WideShapes Go.ChangeAt Go.RowKit
theorem r8need_c (n : Int) (n0 : 0 ≤ n) (n1 : n < 18446744073709551616) (w : World) : Calls Tryz.prog 31 #[.int .u64 n] w fun e w' => e = .returned (.int .i64 (needN n : Nat)) ∧ w = w' := by
  by_cases h : n = 0
  · subst h
    go_enter Tryz.func31, Tryz.ntmps31
    go_wp2
    go_ret
    exact ⟨rfl, rfl⟩
  · have HB := Lib.hid (fun W => rbits_i (n - 1) (by omega) (by omega) W)
    have hR : needN n = Wd.bitsL (n - 1).toNat := by unfold needN; rw [if_neg h]
    rw [hR]
    obtain ⟨B, hB⟩ : ∃ B, Wd.bitsL (n - 1).toNat = B := ⟨_, rfl⟩
    rw [hB] at HB ⊢
    have t1 : (n == 0) = false := by rw [beq_eq_false_iff_ne]; exact h
    have e1 : IntKind.u64.wrap (n - 1) = n - 1 := by rw [IntKind.wrap_u64]; omega
    clear h hR hB
    go_enter Tryz.func31, Tryz.ntmps31
    go_wp2_with (go_at_call 43; (with_reducible refine (HB.out _).mono ?_); rintro e _ ⟨rfl, rfl⟩)
    go_ret
    exact ⟨rfl, rfl⟩
end Go.Proofs.YtepclbmcacdhlaaGreatDoor
/-
  What the reference's functions of stage 8 return (Need, Draw), and that memory is left as it was.
  Conditions: the arguments lie in their types' ranges.
-/
set_option maxRecDepth 100000
set_option linter.unusedSimpArgs false
namespace Go.Proofs.YtepclbmcacdhlaaGreatDoor
open Go.ChangeShapes Go.WideShapes Go.ChangeAt Go.RowKit
set_option linter.unusedVariables false
set_option maxHeartbeats 8000000 in
theorem r8draw_c (s : Src) (ok : s.Ok) (n : Int) (n0 : 0 ≤ n) (n1 : n < 18446744073709551616) (a : Int) (a0 : -9223372036854775808 ≤ a) (a1 : a < 9223372036854775808) (A0 : Option Addr) (c0 : Nat) (hc : s.tape.length ≤ c0) (hcm : c0 ≤ maxLen) (w : World) (hrd : Rd .u8 w w.heap.size A0 s.tape.length s.tape) : Calls Tryz.prog 17 #[.agg (srcV s A0 c0), .int .u64 n, .int .i64 a] w (RetDraw w s A0 (drawR s n a)) := by
  have HRT := Lib.hid (fun W => rsright_c s ok A0 c0 W)
  have HZ0 := Lib.hid zero_src
  have hRd := Lib.hid hrd
  have HZSS := Lib.hid (fun (t : Src) (h : t.seed.length = 32) A c => srcV_same Src.zero t rfl h none A 0 c)
  obtain ⟨Z, hZ⟩ : ∃ Z, srcV Src.zero none 0 = Z := ⟨_, rfl⟩
  rw [hZ] at HZ0 HZSS
  by_cases hbad : ¬ drawB s n a = true
  · have hE : drawR s n a = (0, s, 1) := by unfold drawR; rw [if_neg hbad]
    have HEND : Hid (∀ w', RdP A0 s.tape.length s.tape w' → Below w.heap.size w w' → RetDraw w s A0 (drawR s n a) (.returned (.tuple #[.int .u64 0, .agg (srcV s A0 c0), .int .i64 1])) w') := Lib.hid (fun w' hr hb => ⟨A0, c0, by rw [hE], hr, hc, hcm, .inl rfl, hb⟩)
    have hcase : (rightS s = false) ∨ (rightS s = true ∧ n < 1) ∨ (rightS s = true ∧ ¬ n < 1 ∧ 9223372036854775808 ≤ n) ∨ (rightS s = true ∧ ¬ n < 1 ∧ n < 9223372036854775808 ∧ a < 1) ∨ (rightS s = true ∧ ¬ n < 1 ∧ n < 9223372036854775808 ∧ ¬ a < 1 ∧ 64 < a) := by
      cases h : rightS s
      · exact .inl rfl
      · refine .inr ?_
        by_cases h1 : n < 1
        · exact .inl ⟨rfl, h1⟩
        · refine .inr ?_
          by_cases h2 : 9223372036854775808 ≤ n
          · exact .inl ⟨rfl, h1, h2⟩
          · refine .inr ?_
            by_cases h3 : a < 1
            · exact .inl ⟨rfl, h1, by omega, h3⟩
            · refine .inr ⟨rfl, h1, by omega, h3, Decidable.byContradiction fun h4 => hbad ?_⟩
              unfold drawB
              rw [h, Bool.true_and]
              exact decide_eq_true ⟨by omega, by omega, by omega, by omega⟩
    have SV := Lib.hid (sizedS s ok.sl A0 c0)
    have OV := Lib.hid (srcV_ones s A0 c0)
    have ZV := Lib.hid (HZSS.out s ok.sl A0 c0)
    obtain ⟨V, hV⟩ : ∃ V, srcV s A0 c0 = V := ⟨_, rfl⟩
    rw [hV] at HRT HEND SV OV ZV
    rw [hV]
    obtain ⟨rr, hrr⟩ : ∃ r, drawR s n a = r := ⟨_, rfl⟩
    rw [hrr] at HEND ⊢
    clear hZ hV hE hbad hrd hrr
    rcases hcase with hr | ⟨hr, h1⟩ | ⟨hr, h1, h2⟩ | ⟨hr, h1, h2, h3⟩ | ⟨hr, h1, h2, h3, h4⟩
    all_goals
      rw [hr] at HRT
      go_enter Tryz.func17, Tryz.ntmps17
      go_wp2_with (first
        | (with_reducible refine at_any ?_; refine at_dst 3 rfl ?_; refine wpList_box_any rfl 28 (.tmp 0) rfl V rfl ?_; intro w1 hk1 hs1 hb1)
        | (with_reducible refine at_any ?_; refine at_dst 7 rfl ?_; refine wpList_alloc_any rfl 28 rfl Z HZ0.out ?_; intro w2 hk2 hs2 hb2; have k2 := Lib.hid (hk1.out.below hb2 hk1.out.lt))
        | (with_reducible refine at_any ?_; refine at_dst 13 rfl ?_; refine wpList_load_blk rfl 28 (.tmp 3) rfl w.heap.size rfl 28 V k2.out _ Tryz.underlying28 rfl SV.out ?_)
        | (go_at_call 29; (with_reducible refine (HRT.out _).mono ?_); rintro e wz ⟨rfl, hbz⟩))
      have HS := DrS.mk2 hRd.out hk1.out hb1 hk2.out hb2 hbz
      have HZ : Fx [.blk w1.heap.size 28 Z] wz := ⟨hk2.out.below hbz hk2.out.lt, trivial⟩
      obtain ⟨g3, hg3⟩ : ∃ g, w.heap.size = g := ⟨_, rfl⟩
      obtain ⟨g7, hg7⟩ : ∃ g, w1.heap.size = g := ⟨_, rfl⟩
      obtain ⟨zs, hzs⟩ : ∃ zs, s.tape = zs := ⟨_, rfl⟩
      obtain ⟨L, hL⟩ : ∃ L, zs.length = L := ⟨_, rfl⟩
      rw [hzs, hL] at HEND
      rw [hg3, hg7, hzs, hL] at HS
      rw [hg7] at HZ
      rw [hg3, hg7]
      clear hg3 hg7 hzs hL hk1 hs1 hb1 hk2 hs2 hb2 k2 hbz
      have HZ7 := HZ.drew
      refine wp_region_held_drew (S := (DrS w g3 g7 V A0 L zs)) (by kernel_rfl) HS.drew (fun hH => ?_)
      refine wpAnyH_letter #[false, false, false, false] (by kernel_rfl) (fun _ _ d _ _ h => by cases d <;> exact h) (fun QL HQ1 HQ2 => ?_)
      refine held_row 0 (some 32) rfl (by kernel_rfl) (by kernel_rfl) (by kernel_rfl) (by kernel_rfl) (fun c a v w h => HQ2.out c a _ v w h) (by kernel_rfl) 28 (.tmp 3) rfl g3 (by kernel_rfl) 28 V (fun _ h => h.blk) _ Tryz.underlying28 rfl SV.out hH ?_
      try simp only [Act.put, List.setIfInBounds_toArray, List.set_cons_zero, List.set_cons_succ]
      refine held_v 1 (some 6) rfl (by kernel_rfl) (by kernel_rfl) (by kernel_rfl) (by kernel_rfl) (fun c a v w h => HQ2.out c a _ v w h) (by kernel_rfl) (.int .u64 0) (fun W h => by kernel_rfl) hH ?_
      try simp only [Act.put, List.setIfInBounds_toArray, List.set_cons_zero, List.set_cons_succ]
      refine wpAnyH_ready (rs := [2]) (by kernel_rfl) (by decide) ?_
      refine AllReadyH.cons rfl (fun K hK => ?_) AllReadyH.nil
      refine step_store none (by kernel_rfl) (by kernel_rfl) 28 (.tmp 7) (.tmp 32) rfl g7 (by kernel_rfl) 28 Z V HZ7.1 (by kernel_rfl) ZV.out SV.out OV.out ?_
      intro w41 hkw41 hsw41 hbw41 how41
      have ex42 : Fx [.blk g7 28 V] w41 := ⟨hkw41.out, trivial⟩
      refine hK.out _ _ (hH.store HZ7.1 hH.store7 hsw41.out hbw41 how41) (fun hw41 => ?_)
      clear hK K
      try simp only [Act.put, List.setIfInBounds_toArray, List.set_cons_zero, List.set_cons_succ]
      refine held_v 3 (some 8) rfl (by kernel_rfl) (by kernel_rfl) (by kernel_rfl) (by kernel_rfl) (fun c a v w h => HQ2.out c a _ v w h) (by kernel_rfl) (.int .i64 1) (fun W h => by kernel_rfl) hw41 ?_
      try simp only [Act.put, List.setIfInBounds_toArray, List.set_cons_zero, List.set_cons_succ]
      refine wpAnyH_done (by kernel_rfl) ?_ _
      refine HQ1.out _ _ ?_
      clear HQ1 HQ2
      go_wp2_with (refine bodyPost_mid 6 7 8 28 rfl g7 rfl (.int .u64 0) (.int .i64 1) rfl rfl 28 V ex42.1 _ Tryz.underlying28 rfl SV.out rfl ?_)
      exact HEND.out _ hw41.rd hw41.bel
  · have hgood : drawB s n a = true := Decidable.of_not_not hbad
    have hE : drawR s n a = drawGo (needN n) n a.toNat s := by unfold drawR; rw [if_pos hgood]
    obtain ⟨hr, hd⟩ : rightS s = true ∧ decide (1 ≤ n ∧ n < 9223372036854775808 ∧ 1 ≤ a ∧ a ≤ 64) = true := by unfold drawB at hgood; rwa [Bool.and_eq_true] at hgood
    obtain ⟨nn0, nn1, aa0, aa1⟩ := of_decide_eq_true hd
    have h1 : ¬ n < 1 := by omega
    have h3 : ¬ a < 1 := by omega
    have h4 : ¬ 64 < a := by omega
    have hk64 := needN_le n n0 n1
    have HND := Lib.hid (fun W => r8need_c n n0 n1 W)
    obtain ⟨k, hk⟩ : ∃ k, needN n = k := ⟨_, rfl⟩
    rw [hk] at hE hk64 HND
    rw [hE]
    obtain ⟨a, rfl⟩ := Int.eq_ofNat_of_zero_le (show 0 ≤ a by omega)
    rw [Int.toNat_natCast]
    rw [hr] at HRT
    have HTAKE := Lib.hid (fun (t : Src) (okt : t.Ok) (A : Option Addr) (c : Nat) (h1 : t.tape.length ≤ c) (h2 : c ≤ maxLen) (W : World) (h3 : Rd .u8 W W.heap.size A t.tape.length t.tape) => rstake_c t okt (k : Int) (by omega) (by omega) A c h1 h2 W h3)
    have SV := Lib.hid (sizedS s ok.sl A0 c0)
    have HL0 : Hid (∀ g3 g7 W, DrS w g3 g7 (srcV s A0 c0) A0 s.tape.length s.tape W → Fx [.blk g7 28 Z] W → DrL w g3 g7 s k n a A0 Z 0 W) := Lib.hid (fun g3 g7 W h1 h2 => ⟨s, A0, c0, rfl, ok, rfl, h1, h2, .inl rfl, hc, hcm⟩)
    obtain ⟨V, hV⟩ : ∃ V, srcV s A0 c0 = V := ⟨_, rfl⟩
    rw [hV] at HRT SV HL0
    rw [hV]
    obtain ⟨rr, hrr⟩ : ∃ r, drawGo k n a s = r := ⟨_, rfl⟩
    rw [hrr]
    have HRR := Lib.hid hrr
    clear hZ hV hE hbad hrd hrr hgood hd hr hk a0 a1 aa0 hc hcm
    have aa2 : a ≤ 64 := by omega
    clear aa1
    go_enter Tryz.func17, Tryz.ntmps17
    go_wp2_with (first
      | (with_reducible refine at_any ?_; refine at_dst 3 rfl ?_; refine wpList_box_any rfl 28 (.tmp 0) rfl V rfl ?_; intro w1 hk1 hs1 hb1)
      | (with_reducible refine at_any ?_; refine at_dst 7 rfl ?_; refine wpList_alloc_any rfl 28 rfl Z HZ0.out ?_; intro w2 hk2 hs2 hb2; have k2 := Lib.hid (hk1.out.below hb2 hk1.out.lt))
      | (with_reducible refine at_any ?_; refine at_dst 13 rfl ?_; refine wpList_load_blk rfl 28 (.tmp 3) rfl w.heap.size rfl 28 V k2.out _ Tryz.underlying28 rfl SV.out ?_)
      | (go_at_call 29; (with_reducible refine (HRT.out _).mono ?_); rintro e wz ⟨rfl, hbz⟩))
    have HS := DrS.mk2 hRd.out hk1.out hb1 hk2.out hb2 hbz
    have HZ : Fx [.blk w1.heap.size 28 Z] wz := ⟨hk2.out.below hbz hk2.out.lt, trivial⟩
    have HL := Lib.hid (HL0.out _ _ _ HS HZ)
    obtain ⟨g3, hg3⟩ : ∃ g, w.heap.size = g := ⟨_, rfl⟩
    obtain ⟨g7, hg7⟩ : ∃ g, w1.heap.size = g := ⟨_, rfl⟩
    rw [hg3, hg7] at HL
    rw [hg3, hg7]
    clear hg3 hg7 hk1 hs1 hb1 hk2 hs2 hb2 k2 hbz HS HZ HL0 HRT SV h1 h3 h4
    go_loopw [9] (fun cc wr => ∃ i : Nat, i ≤ a ∧ cc = .int .i64 i ∧ DrL w g3 g7 s k n a A0 Z i wr) (fun cc _ => a - (intOf cc).toNat)
    case atStart => exact ⟨0, by omega, rfl, HL.out⟩
    case round =>
      clear HL
      obtain ⟨i, hi, rfl, si, A, c, hgo, oki, htp, HS, HZ, hsp, hcl, hcm⟩ := hrel
      have SV := Lib.hid (sizedS si oki.sl A c)
      have OV := Lib.hid (srcV_ones si A c)
      have ZV := Lib.hid (HZSS.out si oki.sl A c)
      have HSP := Lib.hid hsp
      rw [HRR.out] at hgo
      by_cases hlt : i < a
      · have HTK := Lib.hid (fun (W : World) (h3 : RdP A s.tape.length s.tape W) => HTAKE.out si oki A c (by rw [htp]; exact hcl) hcm W (by rw [htp]; exact h3))
        have hst : a - i = a - i - 1 + 1 := by omega
        rw [hst] at hgo
        have hti := takeE_in si k
        have hvi := takeV_in si k
        have htok := takeS_ok oki k
        have http := takeS_tape si k
        rw [htp] at http
        have hgz : takeE si k ≠ 0 → rr = (0, si, takeE si k) := fun h => by rw [hgo, drawGo_err h]
        have hgh : takeE si k = 0 → takeV si k < n → rr = (takeV si k, takeS si k, 0) := fun h h2 => by rw [hgo, drawGo_hit h h2]
        have hgm : takeE si k = 0 → ¬ takeV si k < n → rr = drawGo k n (a - (i + 1)) (takeS si k) := fun h h2 => by rw [hgo, drawGo_miss h h2, show a - i - 1 = a - (i + 1) by omega]
        have hsi : takeE si k ≠ 0 → takeS si k = si := fun h => by unfold takeS; rw [if_neg h]
        unfold RetTake at HTK
        rw [htp] at HTK
        obtain ⟨X, hX⟩ : ∃ X, takeV si k = X := ⟨_, rfl⟩
        obtain ⟨E, hE⟩ : ∃ E, takeE si k = E := ⟨_, rfl⟩
        obtain ⟨t, ht⟩ : ∃ t, takeS si k = t := ⟨_, rfl⟩
        rw [hX, hE, ht] at HTK
        rw [hX] at hvi hgh hgm
        rw [hE] at hti hgz hgh hgm hsi
        rw [ht] at htok http hgh hgm hsi
        have ST := Lib.hid (fun A c => sizedS t htok.sl A c)
        have OT := Lib.hid (fun A c => srcV_ones t A c)
        have ZT := Lib.hid (fun A c => HZSS.out t htok.sl A c)
        obtain ⟨zs, hzs⟩ : ∃ zs, s.tape = zs := ⟨_, rfl⟩
        obtain ⟨L, hL⟩ : ∃ L, zs.length = L := ⟨_, rfl⟩
        have HG1 : Hid (∀ A2 c2 g11 W, DrS w g3 g7 (srcV si A c) A L zs W → Blk W g7 28 Z → Blk W g11 28 (srcV t A2 c2) → RdP A2 L zs W → Apt L A2 g3 → Apt L A2 g7 → Sep w A0 A2 → L ≤ c2 → c2 ≤ maxLen → g3 ≠ g11 → g7 ≠ g11 → True) := Lib.hid (fun _ _ _ _ _ _ _ _ _ _ _ _ _ _ _ => trivial)
        have HEZ : Hid (E ≠ 0 → ∀ w', RdP A L zs w' → Below w.heap.size w w' → RetDraw w s A0 rr (.returned (.tuple #[.int .u64 0, .agg (srcV si A c), .int .i64 E])) w') := Lib.hid (fun h w' hr hb => ⟨A, c, by rw [hgz h], by rw [hzs, hL]; exact hr, hcl, hcm, hsp, hb⟩)
        have HEH : Hid (E = 0 → X < n → ∀ A2 c2 w', Sep w A0 A2 → L ≤ c2 → c2 ≤ maxLen → RdP A2 L zs w' → Below w.heap.size w w' → RetDraw w s A0 rr (.returned (.tuple #[.int .u64 X, .agg (srcV t A2 c2), .int .i64 0])) w') := Lib.hid (fun h h2 A2 c2 w' h3 h4 h5 hr hb => ⟨A2, c2, by rw [hgh h h2], by rw [hzs, hL]; exact hr, by rw [hzs, hL]; exact h4, h5, h3, hb⟩)
        have HEM : Hid (E = 0 → ¬ X < n → ∀ A2 c2 W, DrS w g3 g7 (srcV t A2 c2) A2 L zs W → Fx [.blk g7 28 Z] W → Sep w A0 A2 → L ≤ c2 → c2 ≤ maxLen → DrL w g3 g7 s k n a A0 Z (i + 1) W) := Lib.hid (fun h h2 A2 c2 W h3 h4 h5 h6 h7 => ⟨t, A2, c2, by rw [HRR.out]; exact hgm h h2, htok, by rw [http, hzs], by rw [hzs, hL]; exact h3, h4, h5, by rw [hzs, hL]; exact h6, h7⟩)
        rw [hzs, hL] at HTK
        rw [hzs, hL] at HS hcl
        clear hgo oki htp hsp hst htok http hgz hgh hgm hsi hX hE ht hzs hL HG1
        obtain ⟨V, hV⟩ : ∃ V, srcV si A c = V := ⟨_, rfl⟩
        rw [hV] at SV OV ZV HS HTK HEZ
        clear hV HTAKE HZSS
        go_wp2_with fail
        have HZ7 := HZ.drew
        refine wp_region_held_drew (S := (DrS w g3 g7 V A L zs)) (by kernel_rfl) HS.drew (fun hH => ?_)
        refine wpAnyH_letter #[false, false, false, false, false, false, false, false, false, false, false, false] (by kernel_rfl) (fun _ _ d _ _ h => by cases d <;> exact h) (fun QL HQ1 HQ2 => ?_)
        refine held_row 0 (some 39) rfl (by kernel_rfl) (by kernel_rfl) (by kernel_rfl) (by kernel_rfl) (fun c a v w h => HQ2.out c a _ v w h) (by kernel_rfl) 28 (.tmp 3) rfl g3 (by kernel_rfl) 28 V (fun _ h => h.blk) _ Tryz.underlying28 rfl SV.out hH ?_
        try simp only [Act.put, List.setIfInBounds_toArray, List.set_cons_zero, List.set_cons_succ]
        refine held_v 1 (some 40) rfl (by kernel_rfl) (by kernel_rfl) (by kernel_rfl) (by kernel_rfl) (fun c a v w h => HQ2.out c a _ v w h) (by kernel_rfl) (.int .u64 n) (fun W h => by kernel_rfl) hH ?_
        try simp only [Act.put, List.setIfInBounds_toArray, List.set_cons_zero, List.set_cons_succ]
        refine wpAnyH_ready (rs := [2, 8]) (by kernel_rfl) (by decide) ?_
        refine AllReadyH.cons rfl (fun K hK => ?_) (AllReadyH.cons rfl (fun K hK => ?_) AllReadyH.nil)
        · refine step_call (some 41) (by kernel_rfl) (by kernel_rfl) _ _ (by kernel_rfl) _ (HND.out _) ?_
          rintro e _ ⟨rfl, rfl⟩
          refine ⟨_, rfl, ?_⟩
          refine hK.out _ _ hH (fun _ => ?_)
          clear hK K
          try simp only [Act.put, List.setIfInBounds_toArray, List.set_cons_zero, List.set_cons_succ]
          refine wpAnyH_ready (rs := [3, 8]) (by kernel_rfl) (by decide) ?_
          refine AllReadyH.cons rfl (fun K hK => ?_) (AllReadyH.cons rfl (fun K hK => ?_) AllReadyH.nil)
          · refine step_call (some 42) (by kernel_rfl) (by kernel_rfl) _ _ (by kernel_rfl) _ (HTK.out wr.drew hH.rd) ?_
            rintro e w42 ⟨A2, c2, rfl, hrd2, hc2, hm2, hsp2, hbw42⟩
            have hSP : Hid (Sep w A0 A2) := Lib.hid (Sep.trans HSP.out hsp2 hH.bel.size)
            have hA23 := Lib.hid (Apt.of_sep hsp2 hH.apt3 hH.lt3)
            have hA27 := Lib.hid (Apt.of_sep hsp2 hH.apt7 hH.lt7)
            have hC2 := Lib.hid hc2
            have hM2 := Lib.hid hm2
            have ex43 := HZ7.below hbw42
            have ex44 : RdP A2 L zs w42 := hrd2
            clear hrd2 hc2 hm2 hsp2
            refine ⟨_, rfl, ?_⟩
            refine hK.out _ _ (hH.below hbw42) (fun hw42 => ?_)
            clear hK K
            try simp only [Act.put, List.setIfInBounds_toArray, List.set_cons_zero, List.set_cons_succ]
            refine held_v 4 (some 38) rfl (by kernel_rfl) (by kernel_rfl) (by kernel_rfl) (by kernel_rfl) (fun c a v w h => HQ2.out c a _ v w h) (by kernel_rfl) (.tuple #[.int .u64 X, .agg (srcV t A2 c2), .int .i64 E]) (fun W h => by kernel_rfl) hw42 ?_
            try simp only [Act.put, List.setIfInBounds_toArray, List.set_cons_zero, List.set_cons_succ]
            refine held_v 5 (some 43) rfl (by kernel_rfl) (by kernel_rfl) (by kernel_rfl) (by kernel_rfl) (fun c a v w h => HQ2.out c a _ v w h) (by kernel_rfl) (.int .u64 X) (fun W h => by kernel_rfl) hw42 ?_
            try simp only [Act.put, List.setIfInBounds_toArray, List.set_cons_zero, List.set_cons_succ]
            refine held_v 6 (some 44) rfl (by kernel_rfl) (by kernel_rfl) (by kernel_rfl) (by kernel_rfl) (fun c a v w h => HQ2.out c a _ v w h) (by kernel_rfl) (.agg (srcV t A2 c2)) (fun W h => by kernel_rfl) hw42 ?_
            try simp only [Act.put, List.setIfInBounds_toArray, List.set_cons_zero, List.set_cons_succ]
            refine held_v 7 (some 45) rfl (by kernel_rfl) (by kernel_rfl) (by kernel_rfl) (by kernel_rfl) (fun c a v w h => HQ2.out c a _ v w h) (by kernel_rfl) (.int .i64 E) (fun W h => by kernel_rfl) hw42 ?_
            try simp only [Act.put, List.setIfInBounds_toArray, List.set_cons_zero, List.set_cons_succ]
            refine wpAnyH_ready (rs := [8]) (by kernel_rfl) (by decide) ?_
            refine AllReadyH.cons rfl (fun K hK => ?_) AllReadyH.nil
            refine step_alloc (some 11) (by kernel_rfl) (by kernel_rfl) 28 rfl Z HZ0.out ?_
            intro w45 hkw45 hsw45 hbw45
            obtain ⟨g11, hg11⟩ : ∃ g, w42.heap.size = g := ⟨_, rfl⟩
            have hAo11 := Apt.of_lt (g := g11) hw42.rd.rd (Nat.le_of_eq hg11)
            have hn3 : g3 ≠ g11 := by have := hw42.lt3; omega
            have hn7 : g7 ≠ g11 := by have := hw42.lt7; omega
            have hle11 : w.heap.size ≤ g11 := by have := hw42.bel.size; omega
            have hA11 := Apt.of_lt (g := g11) ex44.rd (Nat.le_of_eq hg11)
            rw [hg11] at hkw45
            rw [hg11]
            have ex46 := ex43.below hbw45
            have ex47 := ex44.below hbw45
            have ex48 : Fx [.blk g11 28 Z] w45 := ⟨hkw45.out, trivial⟩
            refine hK.out _ _ (hw42.below hbw45) (fun hw45 => ?_)
            clear hK K
            try simp only [Act.put, List.setIfInBounds_toArray, List.set_cons_zero, List.set_cons_succ]
            refine held_v 9 (some 10) rfl (by kernel_rfl) (by kernel_rfl) (by kernel_rfl) (by kernel_rfl) (fun c a v w h => HQ2.out c a _ v w h) (by kernel_rfl) (.int .u64 X) (fun W h => by kernel_rfl) hw45 ?_
            try simp only [Act.put, List.setIfInBounds_toArray, List.set_cons_zero, List.set_cons_succ]
            refine wpAnyH_ready (rs := [10]) (by kernel_rfl) (by decide) ?_
            refine AllReadyH.cons rfl (fun K hK => ?_) AllReadyH.nil
            refine step_store none (by kernel_rfl) (by kernel_rfl) 28 (.tmp 11) (.tmp 44) rfl g11 (by kernel_rfl) 28 Z (srcV t A2 c2) ex48.1 (by kernel_rfl) (ZT.out _ _) (ST.out _ _) (OT.out _ _) ?_
            intro w49 hkw49 hsw49 hbw49 how49
            have ex50 := ex46.store ex48.1 ⟨hn7, trivial⟩ hsw49.out hbw49 how49
            have ex51 := ex47.store ex48.1 hA11 hsw49.out hbw49 how49
            have ex52 : Fx [.blk g11 28 (srcV t A2 c2)] w49 := ⟨hkw49.out, trivial⟩
            refine hK.out _ _ (hw45.store ex48.1 ⟨hn3, hAo11, hle11⟩ hsw49.out hbw49 how49) (fun hw49 => ?_)
            clear hK K
            try simp only [Act.put, List.setIfInBounds_toArray, List.set_cons_zero, List.set_cons_succ]
            refine held_v 11 (some 12) rfl (by kernel_rfl) (by kernel_rfl) (by kernel_rfl) (by kernel_rfl) (fun c a v w h => HQ2.out c a _ v w h) (by kernel_rfl) (.int .i64 E) (fun W h => by kernel_rfl) hw49 ?_
            try simp only [Act.put, List.setIfInBounds_toArray, List.set_cons_zero, List.set_cons_succ]
            refine wpAnyH_done (by kernel_rfl) ?_ _
            refine HQ1.out _ _ ?_
            clear HQ1 HQ2
            have HS6 := Lib.hid hw49
            have HZ6 := Lib.hid ex50
            have H11 : Hid (Blk w49 g11 28 (srcV t A2 c2)) := Lib.hid ex52.1
            have HR2 := Lib.hid ex51
            have HOF : Hid (Fx.off g3 V [.blk g7 28 Z]) := Lib.hid ⟨Nat.ne_of_gt HS6.out.lt, trivial⟩
            have HV2 : Hid (∃ V2, srcV t A2 c2 = V2) := Lib.hid ⟨_, rfl⟩
            have SV2 := Lib.hid (ST.out A2 c2)
            have OV2 := Lib.hid (OT.out A2 c2)
            have ZV2 := Lib.hid (ZT.out A2 c2)
            have HM2 := Lib.hid (fun h h2 W h3 h4 => HEM.out h h2 A2 c2 W h3 h4 hSP.out hC2.out hM2.out)
            have HH2 := Lib.hid (fun h h2 w' h3 h4 => HEH.out h h2 A2 c2 w' hSP.out hC2.out hM2.out h3 h4)
            obtain ⟨V2, hV2⟩ := HV2.out
            rw [hV2] at H11 SV2 OV2 ZV2 HM2 HH2
            have A23 := Lib.hid hA23.out
            have A27 := Lib.hid hA27.out
            by_cases hE0 : E = 0
            · have t1 : (E == 0) = true := by rw [beq_iff_eq]; exact hE0
              have t2 : (E != 0) = false := by rw [bne, t1]; rfl
              by_cases hx : X < n
              · have VV2 := Lib.hid (show V.size = V2.size by rw [← ZV.out, ZV2.out])
                go_wp2_with (first
                  | (with_reducible refine at_any ?_; refine at_dst 50 rfl ?_; refine wpList_load_blk rfl 28 (.tmp 11) rfl g11 rfl 28 V2 H11.out _ Tryz.underlying28 rfl SV2.out ?_)
                  | (with_reducible refine at_any ?_; refine at_store 3 rfl ?_; refine wpList_store_any rfl 28 (.tmp 3) (.tmp 50) rfl g3 rfl 28 V V2 HS6.out.blk rfl VV2.out SV2.out OV2.out ?_; intro w9 hk9 hs9 hb9 ho9; have HS := HS6.out.put3 HR2.out A23.out A27.out hk9.out hs9.out hb9 ho9; have HZ := HZ6.out.store HS6.out.blk HOF.out hs9.out hb9 ho9))
                have HZ7 := HZ.drew
                refine wp_region_held_drew (S := (DrS w g3 g7 V2 A2 L zs)) (by kernel_rfl) HS.drew (fun hH => ?_)
                refine wpAnyH_letter #[false, false, false, false, false] (by kernel_rfl) (fun _ _ d _ _ h => by cases d <;> exact h) (fun QL HQ1 HQ2 => ?_)
                refine held_v 0 (some 54) rfl (by kernel_rfl) (by kernel_rfl) (by kernel_rfl) (by kernel_rfl) (fun c a v w h => HQ2.out c a _ v w h) (by kernel_rfl) (.int .u64 X) (fun W h => by kernel_rfl) hH ?_
                try simp only [Act.put, List.setIfInBounds_toArray, List.set_cons_zero, List.set_cons_succ]
                refine held_row 1 (some 55) rfl (by kernel_rfl) (by kernel_rfl) (by kernel_rfl) (by kernel_rfl) (fun c a v w h => HQ2.out c a _ v w h) (by kernel_rfl) 28 (.tmp 3) rfl g3 (by kernel_rfl) 28 V2 (fun _ h => h.blk) _ Tryz.underlying28 rfl SV2.out hH ?_
                try simp only [Act.put, List.setIfInBounds_toArray, List.set_cons_zero, List.set_cons_succ]
                refine held_v 2 (some 6) rfl (by kernel_rfl) (by kernel_rfl) (by kernel_rfl) (by kernel_rfl) (fun c a v w h => HQ2.out c a _ v w h) (by kernel_rfl) (.int .u64 X) (fun W h => by kernel_rfl) hH ?_
                try simp only [Act.put, List.setIfInBounds_toArray, List.set_cons_zero, List.set_cons_succ]
                refine wpAnyH_ready (rs := [3]) (by kernel_rfl) (by decide) ?_
                refine AllReadyH.cons rfl (fun K hK => ?_) AllReadyH.nil
                refine step_store none (by kernel_rfl) (by kernel_rfl) 28 (.tmp 7) (.tmp 55) rfl g7 (by kernel_rfl) 28 Z V2 HZ7.1 (by kernel_rfl) ZV2.out SV2.out OV2.out ?_
                intro w141 hkw141 hsw141 hbw141 how141
                have ex142 : Fx [.blk g7 28 V2] w141 := ⟨hkw141.out, trivial⟩
                refine hK.out _ _ (hH.store HZ7.1 hH.store7 hsw141.out hbw141 how141) (fun hw141 => ?_)
                clear hK K
                try simp only [Act.put, List.setIfInBounds_toArray, List.set_cons_zero, List.set_cons_succ]
                refine held_v 4 (some 8) rfl (by kernel_rfl) (by kernel_rfl) (by kernel_rfl) (by kernel_rfl) (fun c a v w h => HQ2.out c a _ v w h) (by kernel_rfl) (.int .i64 0) (fun W h => by kernel_rfl) hw141 ?_
                try simp only [Act.put, List.setIfInBounds_toArray, List.set_cons_zero, List.set_cons_succ]
                refine wpAnyH_done (by kernel_rfl) ?_ _
                refine HQ1.out _ _ ?_
                clear HQ1 HQ2
                go_wp2_with (refine bodyPost_mid 6 7 8 28 rfl g7 rfl (.int .u64 X) (.int .i64 0) rfl rfl 28 V2 ex142.1 _ Tryz.underlying28 rfl SV2.out rfl ?_)
                exact HH2.out hE0 hx _ hw141.rd.rd hw141.bel
              · have hx2 : n ≤ X := by omega
                have VV2 := Lib.hid (show V.size = V2.size by rw [← ZV.out, ZV2.out])
                go_wp2_with (first
                  | (with_reducible refine at_any ?_; refine at_dst 50 rfl ?_; refine wpList_load_blk rfl 28 (.tmp 11) rfl g11 rfl 28 V2 H11.out _ Tryz.underlying28 rfl SV2.out ?_)
                  | (with_reducible refine at_any ?_; refine at_store 3 rfl ?_; refine wpList_store_any rfl 28 (.tmp 3) (.tmp 50) rfl g3 rfl 28 V V2 HS6.out.blk rfl VV2.out SV2.out OV2.out ?_; intro w9 hk9 hs9 hb9 ho9; have HS := HS6.out.put3 HR2.out A23.out A27.out hk9.out hs9.out hb9 ho9; have HZ := HZ6.out.store HS6.out.blk HOF.out hs9.out hb9 ho9))
                have HF := Lib.hid (HM2.out hE0 (by first | exact hx2 | exact Int.not_lt.2 hx2) _ HS HZ)
                clear HS HZ
                go_roundw
                case rel => exact ⟨i + 1, by omega, by go_num, HF.out⟩
                case measure => simp [intOf]; omega
            · have t1 : (E == 0) = false := by rw [beq_eq_false_iff_ne]; exact hE0
              have t2 : (E != 0) = true := by rw [bne, t1]; rfl
              go_wp2_with fail
              have HZ7 := HZ6.out.drew
              refine wp_region_held_drew (S := (DrS w g3 g7 V A L zs)) (by kernel_rfl) HS6.out.drew (fun hH => ?_)
              refine wpAnyH_letter #[false, false, false, false, false] (by kernel_rfl) (fun _ _ d _ _ h => by cases d <;> exact h) (fun QL HQ1 HQ2 => ?_)
              refine held_row 0 (some 48) rfl (by kernel_rfl) (by kernel_rfl) (by kernel_rfl) (by kernel_rfl) (fun c a v w h => HQ2.out c a _ v w h) (by kernel_rfl) 28 (.tmp 3) rfl g3 (by kernel_rfl) 28 V (fun _ h => h.blk) _ Tryz.underlying28 rfl SV.out hH ?_
              try simp only [Act.put, List.setIfInBounds_toArray, List.set_cons_zero, List.set_cons_succ]
              refine held_v 1 (some 49) rfl (by kernel_rfl) (by kernel_rfl) (by kernel_rfl) (by kernel_rfl) (fun c a v w h => HQ2.out c a _ v w h) (by kernel_rfl) (.int .i64 E) (fun W h => by kernel_rfl) hH ?_
              try simp only [Act.put, List.setIfInBounds_toArray, List.set_cons_zero, List.set_cons_succ]
              refine held_v 2 (some 6) rfl (by kernel_rfl) (by kernel_rfl) (by kernel_rfl) (by kernel_rfl) (fun c a v w h => HQ2.out c a _ v w h) (by kernel_rfl) (.int .u64 0) (fun W h => by kernel_rfl) hH ?_
              try simp only [Act.put, List.setIfInBounds_toArray, List.set_cons_zero, List.set_cons_succ]
              refine wpAnyH_ready (rs := [3]) (by kernel_rfl) (by decide) ?_
              refine AllReadyH.cons rfl (fun K hK => ?_) AllReadyH.nil
              refine step_store none (by kernel_rfl) (by kernel_rfl) 28 (.tmp 7) (.tmp 48) rfl g7 (by kernel_rfl) 28 Z V HZ7.1 (by kernel_rfl) ZV.out SV.out OV.out ?_
              intro w141 hkw141 hsw141 hbw141 how141
              have ex142 : Fx [.blk g7 28 V] w141 := ⟨hkw141.out, trivial⟩
              refine hK.out _ _ (hH.store HZ7.1 hH.store7 hsw141.out hbw141 how141) (fun hw141 => ?_)
              clear hK K
              try simp only [Act.put, List.setIfInBounds_toArray, List.set_cons_zero, List.set_cons_succ]
              refine held_v 4 (some 8) rfl (by kernel_rfl) (by kernel_rfl) (by kernel_rfl) (by kernel_rfl) (fun c a v w h => HQ2.out c a _ v w h) (by kernel_rfl) (.int .i64 E) (fun W h => by kernel_rfl) hw141 ?_
              try simp only [Act.put, List.setIfInBounds_toArray, List.set_cons_zero, List.set_cons_succ]
              refine wpAnyH_done (by kernel_rfl) ?_ _
              refine HQ1.out _ _ ?_
              clear HQ1 HQ2
              go_wp2_with (refine bodyPost_mid 6 7 8 28 rfl g7 rfl (.int .u64 0) (.int .i64 E) rfl rfl 28 V ex142.1 _ Tryz.underlying28 rfl SV.out rfl ?_)
              exact HEZ.out hE0 _ hw141.rd.rd hw141.bel
          · refine step_alloc (some 11) (by kernel_rfl) (by kernel_rfl) 28 rfl Z HZ0.out ?_
            intro w53 hkw53 hsw53 hbw53
            obtain ⟨g11, hg11⟩ : ∃ g, wr.drew.heap.size = g := ⟨_, rfl⟩
            have hAo11 := Apt.of_lt (g := g11) hH.rd.rd (Nat.le_of_eq hg11)
            have hn3 : g3 ≠ g11 := by have := hH.lt3; omega
            have hn7 : g7 ≠ g11 := by have := hH.lt7; omega
            have hle11 : w.heap.size ≤ g11 := by have := hH.bel.size; omega
            rw [hg11] at hkw53
            rw [hg11]
            have ex54 := HZ7.below hbw53
            have ex55 : Fx [.blk g11 28 Z] w53 := ⟨hkw53.out, trivial⟩
            refine hK.out _ _ (hH.below hbw53) (fun hw53 => ?_)
            clear hK K
            try simp only [Act.put, List.setIfInBounds_toArray, List.set_cons_zero, List.set_cons_succ]
            refine wpAnyH_ready (rs := [3]) (by kernel_rfl) (by decide) ?_
            refine AllReadyH.cons rfl (fun K hK => ?_) AllReadyH.nil
            refine step_call (some 42) (by kernel_rfl) (by kernel_rfl) _ _ (by kernel_rfl) _ (HTK.out w53 hw53.rd) ?_
            rintro e w56 ⟨A2, c2, rfl, hrd2, hc2, hm2, hsp2, hbw56⟩
            have hSP : Hid (Sep w A0 A2) := Lib.hid (Sep.trans HSP.out hsp2 hw53.bel.size)
            have hA23 := Lib.hid (Apt.of_sep hsp2 hw53.apt3 hw53.lt3)
            have hA27 := Lib.hid (Apt.of_sep hsp2 hw53.apt7 hw53.lt7)
            have hC2 := Lib.hid hc2
            have hM2 := Lib.hid hm2
            have hA11 := Apt.of_sep hsp2 hAo11 ex55.1.lt
            have ex57 := ex54.below hbw56
            have ex58 := ex55.below hbw56
            have ex59 : RdP A2 L zs w56 := hrd2
            clear hrd2 hc2 hm2 hsp2
            refine ⟨_, rfl, ?_⟩
            refine hK.out _ _ (hw53.below hbw56) (fun hw56 => ?_)
            clear hK K
            try simp only [Act.put, List.setIfInBounds_toArray, List.set_cons_zero, List.set_cons_succ]
            refine held_v 4 (some 38) rfl (by kernel_rfl) (by kernel_rfl) (by kernel_rfl) (by kernel_rfl) (fun c a v w h => HQ2.out c a _ v w h) (by kernel_rfl) (.tuple #[.int .u64 X, .agg (srcV t A2 c2), .int .i64 E]) (fun W h => by kernel_rfl) hw56 ?_
            try simp only [Act.put, List.setIfInBounds_toArray, List.set_cons_zero, List.set_cons_succ]
            refine held_v 5 (some 43) rfl (by kernel_rfl) (by kernel_rfl) (by kernel_rfl) (by kernel_rfl) (fun c a v w h => HQ2.out c a _ v w h) (by kernel_rfl) (.int .u64 X) (fun W h => by kernel_rfl) hw56 ?_
            try simp only [Act.put, List.setIfInBounds_toArray, List.set_cons_zero, List.set_cons_succ]
            refine held_v 6 (some 44) rfl (by kernel_rfl) (by kernel_rfl) (by kernel_rfl) (by kernel_rfl) (fun c a v w h => HQ2.out c a _ v w h) (by kernel_rfl) (.agg (srcV t A2 c2)) (fun W h => by kernel_rfl) hw56 ?_
            try simp only [Act.put, List.setIfInBounds_toArray, List.set_cons_zero, List.set_cons_succ]
            refine held_v 7 (some 45) rfl (by kernel_rfl) (by kernel_rfl) (by kernel_rfl) (by kernel_rfl) (fun c a v w h => HQ2.out c a _ v w h) (by kernel_rfl) (.int .i64 E) (fun W h => by kernel_rfl) hw56 ?_
            try simp only [Act.put, List.setIfInBounds_toArray, List.set_cons_zero, List.set_cons_succ]
            refine held_v 9 (some 10) rfl (by kernel_rfl) (by kernel_rfl) (by kernel_rfl) (by kernel_rfl) (fun c a v w h => HQ2.out c a _ v w h) (by kernel_rfl) (.int .u64 X) (fun W h => by kernel_rfl) hw56 ?_
            try simp only [Act.put, List.setIfInBounds_toArray, List.set_cons_zero, List.set_cons_succ]
            refine wpAnyH_ready (rs := [10]) (by kernel_rfl) (by decide) ?_
            refine AllReadyH.cons rfl (fun K hK => ?_) AllReadyH.nil
            refine step_store none (by kernel_rfl) (by kernel_rfl) 28 (.tmp 11) (.tmp 44) rfl g11 (by kernel_rfl) 28 Z (srcV t A2 c2) ex58.1 (by kernel_rfl) (ZT.out _ _) (ST.out _ _) (OT.out _ _) ?_
            intro w60 hkw60 hsw60 hbw60 how60
            have ex61 := ex57.store ex58.1 ⟨hn7, trivial⟩ hsw60.out hbw60 how60
            have ex62 := ex59.store ex58.1 hA11 hsw60.out hbw60 how60
            have ex63 : Fx [.blk g11 28 (srcV t A2 c2)] w60 := ⟨hkw60.out, trivial⟩
            refine hK.out _ _ (hw56.store ex58.1 ⟨hn3, hAo11, hle11⟩ hsw60.out hbw60 how60) (fun hw60 => ?_)
            clear hK K
            try simp only [Act.put, List.setIfInBounds_toArray, List.set_cons_zero, List.set_cons_succ]
            refine held_v 11 (some 12) rfl (by kernel_rfl) (by kernel_rfl) (by kernel_rfl) (by kernel_rfl) (fun c a v w h => HQ2.out c a _ v w h) (by kernel_rfl) (.int .i64 E) (fun W h => by kernel_rfl) hw60 ?_
            try simp only [Act.put, List.setIfInBounds_toArray, List.set_cons_zero, List.set_cons_succ]
            refine wpAnyH_done (by kernel_rfl) ?_ _
            refine HQ1.out _ _ ?_
            clear HQ1 HQ2
            have HS6 := Lib.hid hw60
            have HZ6 := Lib.hid ex61
            have H11 : Hid (Blk w60 g11 28 (srcV t A2 c2)) := Lib.hid ex63.1
            have HR2 := Lib.hid ex62
            have HOF : Hid (Fx.off g3 V [.blk g7 28 Z]) := Lib.hid ⟨Nat.ne_of_gt HS6.out.lt, trivial⟩
            have HV2 : Hid (∃ V2, srcV t A2 c2 = V2) := Lib.hid ⟨_, rfl⟩
            have SV2 := Lib.hid (ST.out A2 c2)
            have OV2 := Lib.hid (OT.out A2 c2)
            have ZV2 := Lib.hid (ZT.out A2 c2)
            have HM2 := Lib.hid (fun h h2 W h3 h4 => HEM.out h h2 A2 c2 W h3 h4 hSP.out hC2.out hM2.out)
            have HH2 := Lib.hid (fun h h2 w' h3 h4 => HEH.out h h2 A2 c2 w' hSP.out hC2.out hM2.out h3 h4)
            obtain ⟨V2, hV2⟩ := HV2.out
            rw [hV2] at H11 SV2 OV2 ZV2 HM2 HH2
            have A23 := Lib.hid hA23.out
            have A27 := Lib.hid hA27.out
            by_cases hE0 : E = 0
            · have t1 : (E == 0) = true := by rw [beq_iff_eq]; exact hE0
              have t2 : (E != 0) = false := by rw [bne, t1]; rfl
              by_cases hx : X < n
              · have VV2 := Lib.hid (show V.size = V2.size by rw [← ZV.out, ZV2.out])
                go_wp2_with (first
                  | (with_reducible refine at_any ?_; refine at_dst 50 rfl ?_; refine wpList_load_blk rfl 28 (.tmp 11) rfl g11 rfl 28 V2 H11.out _ Tryz.underlying28 rfl SV2.out ?_)
                  | (with_reducible refine at_any ?_; refine at_store 3 rfl ?_; refine wpList_store_any rfl 28 (.tmp 3) (.tmp 50) rfl g3 rfl 28 V V2 HS6.out.blk rfl VV2.out SV2.out OV2.out ?_; intro w9 hk9 hs9 hb9 ho9; have HS := HS6.out.put3 HR2.out A23.out A27.out hk9.out hs9.out hb9 ho9; have HZ := HZ6.out.store HS6.out.blk HOF.out hs9.out hb9 ho9))
                have HZ7 := HZ.drew
                refine wp_region_held_drew (S := (DrS w g3 g7 V2 A2 L zs)) (by kernel_rfl) HS.drew (fun hH => ?_)
                refine wpAnyH_letter #[false, false, false, false, false] (by kernel_rfl) (fun _ _ d _ _ h => by cases d <;> exact h) (fun QL HQ1 HQ2 => ?_)
                refine held_v 0 (some 54) rfl (by kernel_rfl) (by kernel_rfl) (by kernel_rfl) (by kernel_rfl) (fun c a v w h => HQ2.out c a _ v w h) (by kernel_rfl) (.int .u64 X) (fun W h => by kernel_rfl) hH ?_
                try simp only [Act.put, List.setIfInBounds_toArray, List.set_cons_zero, List.set_cons_succ]
                refine held_row 1 (some 55) rfl (by kernel_rfl) (by kernel_rfl) (by kernel_rfl) (by kernel_rfl) (fun c a v w h => HQ2.out c a _ v w h) (by kernel_rfl) 28 (.tmp 3) rfl g3 (by kernel_rfl) 28 V2 (fun _ h => h.blk) _ Tryz.underlying28 rfl SV2.out hH ?_
                try simp only [Act.put, List.setIfInBounds_toArray, List.set_cons_zero, List.set_cons_succ]
                refine held_v 2 (some 6) rfl (by kernel_rfl) (by kernel_rfl) (by kernel_rfl) (by kernel_rfl) (fun c a v w h => HQ2.out c a _ v w h) (by kernel_rfl) (.int .u64 X) (fun W h => by kernel_rfl) hH ?_
                try simp only [Act.put, List.setIfInBounds_toArray, List.set_cons_zero, List.set_cons_succ]
                refine wpAnyH_ready (rs := [3]) (by kernel_rfl) (by decide) ?_
                refine AllReadyH.cons rfl (fun K hK => ?_) AllReadyH.nil
                refine step_store none (by kernel_rfl) (by kernel_rfl) 28 (.tmp 7) (.tmp 55) rfl g7 (by kernel_rfl) 28 Z V2 HZ7.1 (by kernel_rfl) ZV2.out SV2.out OV2.out ?_
                intro w141 hkw141 hsw141 hbw141 how141
                have ex142 : Fx [.blk g7 28 V2] w141 := ⟨hkw141.out, trivial⟩
                refine hK.out _ _ (hH.store HZ7.1 hH.store7 hsw141.out hbw141 how141) (fun hw141 => ?_)
                clear hK K
                try simp only [Act.put, List.setIfInBounds_toArray, List.set_cons_zero, List.set_cons_succ]
                refine held_v 4 (some 8) rfl (by kernel_rfl) (by kernel_rfl) (by kernel_rfl) (by kernel_rfl) (fun c a v w h => HQ2.out c a _ v w h) (by kernel_rfl) (.int .i64 0) (fun W h => by kernel_rfl) hw141 ?_
                try simp only [Act.put, List.setIfInBounds_toArray, List.set_cons_zero, List.set_cons_succ]
                refine wpAnyH_done (by kernel_rfl) ?_ _
                refine HQ1.out _ _ ?_
                clear HQ1 HQ2
                go_wp2_with (refine bodyPost_mid 6 7 8 28 rfl g7 rfl (.int .u64 X) (.int .i64 0) rfl rfl 28 V2 ex142.1 _ Tryz.underlying28 rfl SV2.out rfl ?_)
                exact HH2.out hE0 hx _ hw141.rd.rd hw141.bel
              · have hx2 : n ≤ X := by omega
                have VV2 := Lib.hid (show V.size = V2.size by rw [← ZV.out, ZV2.out])
                go_wp2_with (first
                  | (with_reducible refine at_any ?_; refine at_dst 50 rfl ?_; refine wpList_load_blk rfl 28 (.tmp 11) rfl g11 rfl 28 V2 H11.out _ Tryz.underlying28 rfl SV2.out ?_)
                  | (with_reducible refine at_any ?_; refine at_store 3 rfl ?_; refine wpList_store_any rfl 28 (.tmp 3) (.tmp 50) rfl g3 rfl 28 V V2 HS6.out.blk rfl VV2.out SV2.out OV2.out ?_; intro w9 hk9 hs9 hb9 ho9; have HS := HS6.out.put3 HR2.out A23.out A27.out hk9.out hs9.out hb9 ho9; have HZ := HZ6.out.store HS6.out.blk HOF.out hs9.out hb9 ho9))
                have HF := Lib.hid (HM2.out hE0 (by first | exact hx2 | exact Int.not_lt.2 hx2) _ HS HZ)
                clear HS HZ
                go_roundw
                case rel => exact ⟨i + 1, by omega, by go_num, HF.out⟩
                case measure => simp [intOf]; omega
            · have t1 : (E == 0) = false := by rw [beq_eq_false_iff_ne]; exact hE0
              have t2 : (E != 0) = true := by rw [bne, t1]; rfl
              go_wp2_with fail
              have HZ7 := HZ6.out.drew
              refine wp_region_held_drew (S := (DrS w g3 g7 V A L zs)) (by kernel_rfl) HS6.out.drew (fun hH => ?_)
              refine wpAnyH_letter #[false, false, false, false, false] (by kernel_rfl) (fun _ _ d _ _ h => by cases d <;> exact h) (fun QL HQ1 HQ2 => ?_)
              refine held_row 0 (some 48) rfl (by kernel_rfl) (by kernel_rfl) (by kernel_rfl) (by kernel_rfl) (fun c a v w h => HQ2.out c a _ v w h) (by kernel_rfl) 28 (.tmp 3) rfl g3 (by kernel_rfl) 28 V (fun _ h => h.blk) _ Tryz.underlying28 rfl SV.out hH ?_
              try simp only [Act.put, List.setIfInBounds_toArray, List.set_cons_zero, List.set_cons_succ]
              refine held_v 1 (some 49) rfl (by kernel_rfl) (by kernel_rfl) (by kernel_rfl) (by kernel_rfl) (fun c a v w h => HQ2.out c a _ v w h) (by kernel_rfl) (.int .i64 E) (fun W h => by kernel_rfl) hH ?_
              try simp only [Act.put, List.setIfInBounds_toArray, List.set_cons_zero, List.set_cons_succ]
              refine held_v 2 (some 6) rfl (by kernel_rfl) (by kernel_rfl) (by kernel_rfl) (by kernel_rfl) (fun c a v w h => HQ2.out c a _ v w h) (by kernel_rfl) (.int .u64 0) (fun W h => by kernel_rfl) hH ?_
              try simp only [Act.put, List.setIfInBounds_toArray, List.set_cons_zero, List.set_cons_succ]
              refine wpAnyH_ready (rs := [3]) (by kernel_rfl) (by decide) ?_
              refine AllReadyH.cons rfl (fun K hK => ?_) AllReadyH.nil
              refine step_store none (by kernel_rfl) (by kernel_rfl) 28 (.tmp 7) (.tmp 48) rfl g7 (by kernel_rfl) 28 Z V HZ7.1 (by kernel_rfl) ZV.out SV.out OV.out ?_
              intro w141 hkw141 hsw141 hbw141 how141
              have ex142 : Fx [.blk g7 28 V] w141 := ⟨hkw141.out, trivial⟩
              refine hK.out _ _ (hH.store HZ7.1 hH.store7 hsw141.out hbw141 how141) (fun hw141 => ?_)
              clear hK K
              try simp only [Act.put, List.setIfInBounds_toArray, List.set_cons_zero, List.set_cons_succ]
              refine held_v 4 (some 8) rfl (by kernel_rfl) (by kernel_rfl) (by kernel_rfl) (by kernel_rfl) (fun c a v w h => HQ2.out c a _ v w h) (by kernel_rfl) (.int .i64 E) (fun W h => by kernel_rfl) hw141 ?_
              try simp only [Act.put, List.setIfInBounds_toArray, List.set_cons_zero, List.set_cons_succ]
              refine wpAnyH_done (by kernel_rfl) ?_ _
              refine HQ1.out _ _ ?_
              clear HQ1 HQ2
              go_wp2_with (refine bodyPost_mid 6 7 8 28 rfl g7 rfl (.int .u64 0) (.int .i64 E) rfl rfl 28 V ex142.1 _ Tryz.underlying28 rfl SV.out rfl ?_)
              exact HEZ.out hE0 _ hw141.rd.rd hw141.bel
        · refine step_alloc (some 11) (by kernel_rfl) (by kernel_rfl) 28 rfl Z HZ0.out ?_
          intro w64 hkw64 hsw64 hbw64
          obtain ⟨g11, hg11⟩ : ∃ g, wr.drew.heap.size = g := ⟨_, rfl⟩
          have hAo11 := Apt.of_lt (g := g11) hH.rd.rd (Nat.le_of_eq hg11)
          have hn3 : g3 ≠ g11 := by have := hH.lt3; omega
          have hn7 : g7 ≠ g11 := by have := hH.lt7; omega
          have hle11 : w.heap.size ≤ g11 := by have := hH.bel.size; omega
          rw [hg11] at hkw64
          rw [hg11]
          have ex65 := HZ7.below hbw64
          have ex66 : Fx [.blk g11 28 Z] w64 := ⟨hkw64.out, trivial⟩
          refine hK.out _ _ (hH.below hbw64) (fun hw64 => ?_)
          clear hK K
          try simp only [Act.put, List.setIfInBounds_toArray, List.set_cons_zero, List.set_cons_succ]
          refine wpAnyH_ready (rs := [2]) (by kernel_rfl) (by decide) ?_
          refine AllReadyH.cons rfl (fun K hK => ?_) AllReadyH.nil
          refine step_call (some 41) (by kernel_rfl) (by kernel_rfl) _ _ (by kernel_rfl) _ (HND.out _) ?_
          rintro e _ ⟨rfl, rfl⟩
          refine ⟨_, rfl, ?_⟩
          refine hK.out _ _ hw64 (fun _ => ?_)
          clear hK K
          try simp only [Act.put, List.setIfInBounds_toArray, List.set_cons_zero, List.set_cons_succ]
          refine wpAnyH_ready (rs := [3]) (by kernel_rfl) (by decide) ?_
          refine AllReadyH.cons rfl (fun K hK => ?_) AllReadyH.nil
          refine step_call (some 42) (by kernel_rfl) (by kernel_rfl) _ _ (by kernel_rfl) _ (HTK.out w64 hw64.rd) ?_
          rintro e w68 ⟨A2, c2, rfl, hrd2, hc2, hm2, hsp2, hbw68⟩
          have hSP : Hid (Sep w A0 A2) := Lib.hid (Sep.trans HSP.out hsp2 hw64.bel.size)
          have hA23 := Lib.hid (Apt.of_sep hsp2 hw64.apt3 hw64.lt3)
          have hA27 := Lib.hid (Apt.of_sep hsp2 hw64.apt7 hw64.lt7)
          have hC2 := Lib.hid hc2
          have hM2 := Lib.hid hm2
          have hA11 := Apt.of_sep hsp2 hAo11 ex66.1.lt
          have ex69 := ex65.below hbw68
          have ex70 := ex66.below hbw68
          have ex71 : RdP A2 L zs w68 := hrd2
          clear hrd2 hc2 hm2 hsp2
          refine ⟨_, rfl, ?_⟩
          refine hK.out _ _ (hw64.below hbw68) (fun hw68 => ?_)
          clear hK K
          try simp only [Act.put, List.setIfInBounds_toArray, List.set_cons_zero, List.set_cons_succ]
          refine held_v 4 (some 38) rfl (by kernel_rfl) (by kernel_rfl) (by kernel_rfl) (by kernel_rfl) (fun c a v w h => HQ2.out c a _ v w h) (by kernel_rfl) (.tuple #[.int .u64 X, .agg (srcV t A2 c2), .int .i64 E]) (fun W h => by kernel_rfl) hw68 ?_
          try simp only [Act.put, List.setIfInBounds_toArray, List.set_cons_zero, List.set_cons_succ]
          refine held_v 5 (some 43) rfl (by kernel_rfl) (by kernel_rfl) (by kernel_rfl) (by kernel_rfl) (fun c a v w h => HQ2.out c a _ v w h) (by kernel_rfl) (.int .u64 X) (fun W h => by kernel_rfl) hw68 ?_
          try simp only [Act.put, List.setIfInBounds_toArray, List.set_cons_zero, List.set_cons_succ]
          refine held_v 6 (some 44) rfl (by kernel_rfl) (by kernel_rfl) (by kernel_rfl) (by kernel_rfl) (fun c a v w h => HQ2.out c a _ v w h) (by kernel_rfl) (.agg (srcV t A2 c2)) (fun W h => by kernel_rfl) hw68 ?_
          try simp only [Act.put, List.setIfInBounds_toArray, List.set_cons_zero, List.set_cons_succ]
          refine held_v 7 (some 45) rfl (by kernel_rfl) (by kernel_rfl) (by kernel_rfl) (by kernel_rfl) (fun c a v w h => HQ2.out c a _ v w h) (by kernel_rfl) (.int .i64 E) (fun W h => by kernel_rfl) hw68 ?_
          try simp only [Act.put, List.setIfInBounds_toArray, List.set_cons_zero, List.set_cons_succ]
          refine held_v 9 (some 10) rfl (by kernel_rfl) (by kernel_rfl) (by kernel_rfl) (by kernel_rfl) (fun c a v w h => HQ2.out c a _ v w h) (by kernel_rfl) (.int .u64 X) (fun W h => by kernel_rfl) hw68 ?_
          try simp only [Act.put, List.setIfInBounds_toArray, List.set_cons_zero, List.set_cons_succ]
          refine wpAnyH_ready (rs := [10]) (by kernel_rfl) (by decide) ?_
          refine AllReadyH.cons rfl (fun K hK => ?_) AllReadyH.nil
          refine step_store none (by kernel_rfl) (by kernel_rfl) 28 (.tmp 11) (.tmp 44) rfl g11 (by kernel_rfl) 28 Z (srcV t A2 c2) ex70.1 (by kernel_rfl) (ZT.out _ _) (ST.out _ _) (OT.out _ _) ?_
          intro w72 hkw72 hsw72 hbw72 how72
          have ex73 := ex69.store ex70.1 ⟨hn7, trivial⟩ hsw72.out hbw72 how72
          have ex74 := ex71.store ex70.1 hA11 hsw72.out hbw72 how72
          have ex75 : Fx [.blk g11 28 (srcV t A2 c2)] w72 := ⟨hkw72.out, trivial⟩
          refine hK.out _ _ (hw68.store ex70.1 ⟨hn3, hAo11, hle11⟩ hsw72.out hbw72 how72) (fun hw72 => ?_)
          clear hK K
          try simp only [Act.put, List.setIfInBounds_toArray, List.set_cons_zero, List.set_cons_succ]
          refine held_v 11 (some 12) rfl (by kernel_rfl) (by kernel_rfl) (by kernel_rfl) (by kernel_rfl) (fun c a v w h => HQ2.out c a _ v w h) (by kernel_rfl) (.int .i64 E) (fun W h => by kernel_rfl) hw72 ?_
          try simp only [Act.put, List.setIfInBounds_toArray, List.set_cons_zero, List.set_cons_succ]
          refine wpAnyH_done (by kernel_rfl) ?_ _
          refine HQ1.out _ _ ?_
          clear HQ1 HQ2
          have HS6 := Lib.hid hw72
          have HZ6 := Lib.hid ex73
          have H11 : Hid (Blk w72 g11 28 (srcV t A2 c2)) := Lib.hid ex75.1
          have HR2 := Lib.hid ex74
          have HOF : Hid (Fx.off g3 V [.blk g7 28 Z]) := Lib.hid ⟨Nat.ne_of_gt HS6.out.lt, trivial⟩
          have HV2 : Hid (∃ V2, srcV t A2 c2 = V2) := Lib.hid ⟨_, rfl⟩
          have SV2 := Lib.hid (ST.out A2 c2)
          have OV2 := Lib.hid (OT.out A2 c2)
          have ZV2 := Lib.hid (ZT.out A2 c2)
          have HM2 := Lib.hid (fun h h2 W h3 h4 => HEM.out h h2 A2 c2 W h3 h4 hSP.out hC2.out hM2.out)
          have HH2 := Lib.hid (fun h h2 w' h3 h4 => HEH.out h h2 A2 c2 w' hSP.out hC2.out hM2.out h3 h4)
          obtain ⟨V2, hV2⟩ := HV2.out
          rw [hV2] at H11 SV2 OV2 ZV2 HM2 HH2
          have A23 := Lib.hid hA23.out
          have A27 := Lib.hid hA27.out
          by_cases hE0 : E = 0
          · have t1 : (E == 0) = true := by rw [beq_iff_eq]; exact hE0
            have t2 : (E != 0) = false := by rw [bne, t1]; rfl
            by_cases hx : X < n
            · have VV2 := Lib.hid (show V.size = V2.size by rw [← ZV.out, ZV2.out])
              go_wp2_with (first
                | (with_reducible refine at_any ?_; refine at_dst 50 rfl ?_; refine wpList_load_blk rfl 28 (.tmp 11) rfl g11 rfl 28 V2 H11.out _ Tryz.underlying28 rfl SV2.out ?_)
                | (with_reducible refine at_any ?_; refine at_store 3 rfl ?_; refine wpList_store_any rfl 28 (.tmp 3) (.tmp 50) rfl g3 rfl 28 V V2 HS6.out.blk rfl VV2.out SV2.out OV2.out ?_; intro w9 hk9 hs9 hb9 ho9; have HS := HS6.out.put3 HR2.out A23.out A27.out hk9.out hs9.out hb9 ho9; have HZ := HZ6.out.store HS6.out.blk HOF.out hs9.out hb9 ho9))
              have HZ7 := HZ.drew
              refine wp_region_held_drew (S := (DrS w g3 g7 V2 A2 L zs)) (by kernel_rfl) HS.drew (fun hH => ?_)
              refine wpAnyH_letter #[false, false, false, false, false] (by kernel_rfl) (fun _ _ d _ _ h => by cases d <;> exact h) (fun QL HQ1 HQ2 => ?_)
              refine held_v 0 (some 54) rfl (by kernel_rfl) (by kernel_rfl) (by kernel_rfl) (by kernel_rfl) (fun c a v w h => HQ2.out c a _ v w h) (by kernel_rfl) (.int .u64 X) (fun W h => by kernel_rfl) hH ?_
              try simp only [Act.put, List.setIfInBounds_toArray, List.set_cons_zero, List.set_cons_succ]
              refine held_row 1 (some 55) rfl (by kernel_rfl) (by kernel_rfl) (by kernel_rfl) (by kernel_rfl) (fun c a v w h => HQ2.out c a _ v w h) (by kernel_rfl) 28 (.tmp 3) rfl g3 (by kernel_rfl) 28 V2 (fun _ h => h.blk) _ Tryz.underlying28 rfl SV2.out hH ?_
              try simp only [Act.put, List.setIfInBounds_toArray, List.set_cons_zero, List.set_cons_succ]
              refine held_v 2 (some 6) rfl (by kernel_rfl) (by kernel_rfl) (by kernel_rfl) (by kernel_rfl) (fun c a v w h => HQ2.out c a _ v w h) (by kernel_rfl) (.int .u64 X) (fun W h => by kernel_rfl) hH ?_
              try simp only [Act.put, List.setIfInBounds_toArray, List.set_cons_zero, List.set_cons_succ]
              refine wpAnyH_ready (rs := [3]) (by kernel_rfl) (by decide) ?_
              refine AllReadyH.cons rfl (fun K hK => ?_) AllReadyH.nil
              refine step_store none (by kernel_rfl) (by kernel_rfl) 28 (.tmp 7) (.tmp 55) rfl g7 (by kernel_rfl) 28 Z V2 HZ7.1 (by kernel_rfl) ZV2.out SV2.out OV2.out ?_
              intro w141 hkw141 hsw141 hbw141 how141
              have ex142 : Fx [.blk g7 28 V2] w141 := ⟨hkw141.out, trivial⟩
              refine hK.out _ _ (hH.store HZ7.1 hH.store7 hsw141.out hbw141 how141) (fun hw141 => ?_)
              clear hK K
              try simp only [Act.put, List.setIfInBounds_toArray, List.set_cons_zero, List.set_cons_succ]
              refine held_v 4 (some 8) rfl (by kernel_rfl) (by kernel_rfl) (by kernel_rfl) (by kernel_rfl) (fun c a v w h => HQ2.out c a _ v w h) (by kernel_rfl) (.int .i64 0) (fun W h => by kernel_rfl) hw141 ?_
              try simp only [Act.put, List.setIfInBounds_toArray, List.set_cons_zero, List.set_cons_succ]
              refine wpAnyH_done (by kernel_rfl) ?_ _
              refine HQ1.out _ _ ?_
              clear HQ1 HQ2
              go_wp2_with (refine bodyPost_mid 6 7 8 28 rfl g7 rfl (.int .u64 X) (.int .i64 0) rfl rfl 28 V2 ex142.1 _ Tryz.underlying28 rfl SV2.out rfl ?_)
              exact HH2.out hE0 hx _ hw141.rd.rd hw141.bel
            · have hx2 : n ≤ X := by omega
              have VV2 := Lib.hid (show V.size = V2.size by rw [← ZV.out, ZV2.out])
              go_wp2_with (first
                | (with_reducible refine at_any ?_; refine at_dst 50 rfl ?_; refine wpList_load_blk rfl 28 (.tmp 11) rfl g11 rfl 28 V2 H11.out _ Tryz.underlying28 rfl SV2.out ?_)
                | (with_reducible refine at_any ?_; refine at_store 3 rfl ?_; refine wpList_store_any rfl 28 (.tmp 3) (.tmp 50) rfl g3 rfl 28 V V2 HS6.out.blk rfl VV2.out SV2.out OV2.out ?_; intro w9 hk9 hs9 hb9 ho9; have HS := HS6.out.put3 HR2.out A23.out A27.out hk9.out hs9.out hb9 ho9; have HZ := HZ6.out.store HS6.out.blk HOF.out hs9.out hb9 ho9))
              have HF := Lib.hid (HM2.out hE0 (by first | exact hx2 | exact Int.not_lt.2 hx2) _ HS HZ)
              clear HS HZ
              go_roundw
              case rel => exact ⟨i + 1, by omega, by go_num, HF.out⟩
              case measure => simp [intOf]; omega
          · have t1 : (E == 0) = false := by rw [beq_eq_false_iff_ne]; exact hE0
            have t2 : (E != 0) = true := by rw [bne, t1]; rfl
            go_wp2_with fail
            have HZ7 := HZ6.out.drew
            refine wp_region_held_drew (S := (DrS w g3 g7 V A L zs)) (by kernel_rfl) HS6.out.drew (fun hH => ?_)
            refine wpAnyH_letter #[false, false, false, false, false] (by kernel_rfl) (fun _ _ d _ _ h => by cases d <;> exact h) (fun QL HQ1 HQ2 => ?_)
            refine held_row 0 (some 48) rfl (by kernel_rfl) (by kernel_rfl) (by kernel_rfl) (by kernel_rfl) (fun c a v w h => HQ2.out c a _ v w h) (by kernel_rfl) 28 (.tmp 3) rfl g3 (by kernel_rfl) 28 V (fun _ h => h.blk) _ Tryz.underlying28 rfl SV.out hH ?_
            try simp only [Act.put, List.setIfInBounds_toArray, List.set_cons_zero, List.set_cons_succ]
            refine held_v 1 (some 49) rfl (by kernel_rfl) (by kernel_rfl) (by kernel_rfl) (by kernel_rfl) (fun c a v w h => HQ2.out c a _ v w h) (by kernel_rfl) (.int .i64 E) (fun W h => by kernel_rfl) hH ?_
            try simp only [Act.put, List.setIfInBounds_toArray, List.set_cons_zero, List.set_cons_succ]
            refine held_v 2 (some 6) rfl (by kernel_rfl) (by kernel_rfl) (by kernel_rfl) (by kernel_rfl) (fun c a v w h => HQ2.out c a _ v w h) (by kernel_rfl) (.int .u64 0) (fun W h => by kernel_rfl) hH ?_
            try simp only [Act.put, List.setIfInBounds_toArray, List.set_cons_zero, List.set_cons_succ]
            refine wpAnyH_ready (rs := [3]) (by kernel_rfl) (by decide) ?_
            refine AllReadyH.cons rfl (fun K hK => ?_) AllReadyH.nil
            refine step_store none (by kernel_rfl) (by kernel_rfl) 28 (.tmp 7) (.tmp 48) rfl g7 (by kernel_rfl) 28 Z V HZ7.1 (by kernel_rfl) ZV.out SV.out OV.out ?_
            intro w141 hkw141 hsw141 hbw141 how141
            have ex142 : Fx [.blk g7 28 V] w141 := ⟨hkw141.out, trivial⟩
            refine hK.out _ _ (hH.store HZ7.1 hH.store7 hsw141.out hbw141 how141) (fun hw141 => ?_)
            clear hK K
            try simp only [Act.put, List.setIfInBounds_toArray, List.set_cons_zero, List.set_cons_succ]
            refine held_v 4 (some 8) rfl (by kernel_rfl) (by kernel_rfl) (by kernel_rfl) (by kernel_rfl) (fun c a v w h => HQ2.out c a _ v w h) (by kernel_rfl) (.int .i64 E) (fun W h => by kernel_rfl) hw141 ?_
            try simp only [Act.put, List.setIfInBounds_toArray, List.set_cons_zero, List.set_cons_succ]
            refine wpAnyH_done (by kernel_rfl) ?_ _
            refine HQ1.out _ _ ?_
            clear HQ1 HQ2
            go_wp2_with (refine bodyPost_mid 6 7 8 28 rfl g7 rfl (.int .u64 0) (.int .i64 E) rfl rfl 28 V ex142.1 _ Tryz.underlying28 rfl SV.out rfl ?_)
            exact HEZ.out hE0 _ hw141.rd.rd hw141.bel
      · obtain rfl : i = a := by omega
        rw [Nat.sub_self, drawGo_zero] at hgo
        have HEND : Hid (∀ w', RdP A s.tape.length s.tape w' → Below w.heap.size w w' → RetDraw w s A0 rr (.returned (.tuple #[.int .u64 0, .agg (srcV si A c), .int .i64 9])) w') := Lib.hid (fun w' hr hb => ⟨A, c, by rw [hgo], hr, hcl, hcm, hsp, hb⟩)
        obtain ⟨zs, hzs⟩ : ∃ zs, s.tape = zs := ⟨_, rfl⟩
        obtain ⟨L, hL⟩ : ∃ L, zs.length = L := ⟨_, rfl⟩
        rw [hzs, hL] at HEND HS
        obtain ⟨V, hV⟩ : ∃ V, srcV si A c = V := ⟨_, rfl⟩
        rw [hV] at SV OV ZV HEND HS
        clear hgo oki htp hsp hcl hcm hzs hL hV HTAKE HND HZSS
        go_wp2_with fail
        have HZ7 := HZ.drew
        refine wp_region_held_drew (S := (DrS w g3 g7 V A L zs)) (by kernel_rfl) HS.drew (fun hH => ?_)
        refine wpAnyH_letter #[false, false, false, false] (by kernel_rfl) (fun _ _ d _ _ h => by cases d <;> exact h) (fun QL HQ1 HQ2 => ?_)
        refine held_row 0 (some 56) rfl (by kernel_rfl) (by kernel_rfl) (by kernel_rfl) (by kernel_rfl) (fun c a v w h => HQ2.out c a _ v w h) (by kernel_rfl) 28 (.tmp 3) rfl g3 (by kernel_rfl) 28 V (fun _ h => h.blk) _ Tryz.underlying28 rfl SV.out hH ?_
        try simp only [Act.put, List.setIfInBounds_toArray, List.set_cons_zero, List.set_cons_succ]
        refine held_v 1 (some 6) rfl (by kernel_rfl) (by kernel_rfl) (by kernel_rfl) (by kernel_rfl) (fun c a v w h => HQ2.out c a _ v w h) (by kernel_rfl) (.int .u64 0) (fun W h => by kernel_rfl) hH ?_
        try simp only [Act.put, List.setIfInBounds_toArray, List.set_cons_zero, List.set_cons_succ]
        refine wpAnyH_ready (rs := [2]) (by kernel_rfl) (by decide) ?_
        refine AllReadyH.cons rfl (fun K hK => ?_) AllReadyH.nil
        refine step_store none (by kernel_rfl) (by kernel_rfl) 28 (.tmp 7) (.tmp 56) rfl g7 (by kernel_rfl) 28 Z V HZ7.1 (by kernel_rfl) ZV.out SV.out OV.out ?_
        intro w41 hkw41 hsw41 hbw41 how41
        have ex42 : Fx [.blk g7 28 V] w41 := ⟨hkw41.out, trivial⟩
        refine hK.out _ _ (hH.store HZ7.1 hH.store7 hsw41.out hbw41 how41) (fun hw41 => ?_)
        clear hK K
        try simp only [Act.put, List.setIfInBounds_toArray, List.set_cons_zero, List.set_cons_succ]
        refine held_v 3 (some 8) rfl (by kernel_rfl) (by kernel_rfl) (by kernel_rfl) (by kernel_rfl) (fun c a v w h => HQ2.out c a _ v w h) (by kernel_rfl) (.int .i64 9) (fun W h => by kernel_rfl) hw41 ?_
        try simp only [Act.put, List.setIfInBounds_toArray, List.set_cons_zero, List.set_cons_succ]
        refine wpAnyH_done (by kernel_rfl) ?_ _
        refine HQ1.out _ _ ?_
        clear HQ1 HQ2
        go_wp2_with (refine bodyPost_mid 6 7 8 28 rfl g7 rfl (.int .u64 0) (.int .i64 9) rfl rfl 28 V ex42.1 _ Tryz.underlying28 rfl SV.out rfl ?_)
        exact HEND.out _ hw41.rd hw41.bel
end Go.Proofs.YtepclbmcacdhlaaGreatDoor
/-
  What the reference's calls of stage 13 return (Draw, Great), and that memory is left as it was.
  Conditions: the arguments lie in their types' ranges.
-/
set_option maxRecDepth 100000
set_option linter.unusedVariables false
set_option linter.unusedSimpArgs false
namespace Go.Proofs.YtepclbmcacdhlaaGreatDoor
open Go.ChangeShapes Go.WideShapes Go.ChangeAt Go.RowKit
set_option maxHeartbeats 8000000 in
theorem r13draw_c (l : List Int) (hz : ∀ z ∈ l, 0 ≤ z ∧ z < 18446744073709551616) (s : Src) (ok : s.Ok) (a : Int) (a0 : -9223372036854775808 ≤ a) (a1 : a < 9223372036854775808) (AL : Option Addr) (n c : Nat) (hn : n ≤ maxLen) (A0 : Option Addr) (c0 : Nat) (hc : s.tape.length ≤ c0) (hcm : c0 ≤ maxLen) (w : World) (hrl : Rd .u64 w w.heap.size AL n l) (hrd : Rd .u8 w w.heap.size A0 s.tape.length s.tape) :
    Calls Tryz.prog 8 #[.slice AL n c, .agg (srcV s A0 c0), .int .i64 a] w (RetLead w s A0 (ledR l s a)) := by
  have HZ0 := Lib.hid zero_src
  have hRd := Lib.hid hrd
  have HZSS := Lib.hid (fun (t : Src) (h : t.seed.length = 32) A c => srcV_same Src.zero t rfl h none A 0 c)
  have HRL : ∀ {W : World}, Below w.heap.size w W → Rd .u64 W W.heap.size AL n l := fun hb => (hrl.below hb).mono hb.size
  have hto := fun W h => r9total_c l hz AL n c hn W h
  have hz0 : ∀ z ∈ l, 0 ≤ z := fun z h => (hz z h).1
  have hs0 := sumL_nn hz0
  obtain ⟨Z, hZ⟩ : ∃ Z, srcV Src.zero none 0 = Z := ⟨_, rfl⟩
  rw [hZ] at HZ0 HZSS
  have SV := Lib.hid (sizedS s ok.sl A0 c0)
  have OV := Lib.hid (srcV_ones s A0 c0)
  have ZV := Lib.hid (HZSS.out s ok.sl A0 c0)
  by_cases hs : sumL l < 9223372036854775808
  · rw [led_ok s a hs]
    rw [(sumV_ok hs).1, (sumV_ok hs).2] at hto
    by_cases hnz : sumL l = 0
    · rw [ledT_zero s a hnz]
      rw [hnz] at hto
      have HTO := Lib.hid hto
      have HEND0 : Hid (∀ w', RdP A0 s.tape.length s.tape w' → Below w.heap.size w w' → RetLead w s A0 (0, s, 10) (.returned (.tuple #[.int .i64 0, .agg (srcV s A0 c0), .int .i64 10])) w') := Lib.hid (fun w' hr hb => ⟨A0, c0, rfl, hr, hc, hcm, .inl rfl, hb⟩)
      obtain ⟨rr, hrr⟩ : ∃ r : Int × Src × Int, (0, s, 10) = r := ⟨_, rfl⟩
      rw [hrr] at HEND0 ⊢
      obtain ⟨V, hV⟩ : ∃ V, srcV s A0 c0 = V := ⟨_, rfl⟩
      rw [hV] at SV OV ZV HEND0 ⊢
      obtain ⟨zs, hzs⟩ : ∃ zs, s.tape = zs := ⟨_, rfl⟩
      obtain ⟨L, hL⟩ : ∃ L, zs.length = L := ⟨_, rfl⟩
      rw [hzs, hL] at HEND0
      rw [hzs, hL] at hRd
      have HEND := HEND0
      clear HEND0 hrr hV hzs hL hto hz hz0 hs0 hrd hrl hc hcm hZ hn a0 a1 hs HZSS
      go_enter Tryz.func8, Tryz.ntmps8
      go_wp2_with (first
        | (with_reducible refine at_any ?_; refine at_dst 4 rfl ?_; refine wpList_box_any rfl 28 (.tmp 1) rfl V rfl ?_; intro w1 hk1 hs1 hb1)
        | (with_reducible refine at_any ?_; refine at_dst 7 rfl ?_; refine wpList_alloc_any rfl 28 rfl Z HZ0.out ?_; intro w2 hk2 hs2 hb2; have HS := DrS.mk2 hRd.out hk1.out hb1 hk2.out hb2 (Below.refl _ _); have HZ := fx1 hk2.out; have HR2 := Lib.hid (HRL (hb1.trans (hb2.mono hb1.size))); clear hs1 hb1 hs2 hb2)
        | (go_at_call 16; (with_reducible refine (HTO.out _ HR2.out).mono ?_); rintro e _ ⟨rfl, rfl⟩))
      obtain ⟨g3, hg3⟩ : ∃ g, w.heap.size = g := ⟨_, rfl⟩
      obtain ⟨g7, hg7⟩ : ∃ g, w1.heap.size = g := ⟨_, rfl⟩
      rw [hg3, hg7] at HS
      rw [hg7] at HZ
      rw [hg3, hg7]
      clear hg3 hg7 hk1 hk2
      have HZ7 := HZ.drew
      refine wp_region_held_drew (S := (DrS w g3 g7 V A0 L zs)) (by kernel_rfl) HS.drew (fun hH => ?_)
      refine wpAnyH_letter #[false, false, false, false] (by kernel_rfl) (fun _ _ d _ _ h => by cases d <;> exact h) (fun QL HQ1 HQ2 => ?_)
      refine held_row 0 (some 26) rfl (by kernel_rfl) (by kernel_rfl) (by kernel_rfl) (by kernel_rfl) (fun c a v w h => HQ2.out c a _ v w h) (by kernel_rfl) 28 (.tmp 4) rfl g3 (by kernel_rfl) 28 V (fun _ h => h.blk) _ Tryz.underlying28 rfl SV.out hH ?_
      try simp only [Act.put, List.setIfInBounds_toArray, List.set_cons_zero, List.set_cons_succ]
      refine held_v 1 (some 6) rfl (by kernel_rfl) (by kernel_rfl) (by kernel_rfl) (by kernel_rfl) (fun c a v w h => HQ2.out c a _ v w h) (by kernel_rfl) (.int .i64 0) (fun W h => by kernel_rfl) hH ?_
      try simp only [Act.put, List.setIfInBounds_toArray, List.set_cons_zero, List.set_cons_succ]
      refine wpAnyH_ready (rs := [2]) (by kernel_rfl) (by decide) ?_
      refine AllReadyH.cons rfl (fun K hK => ?_) AllReadyH.nil
      refine step_store none (by kernel_rfl) (by kernel_rfl) 28 (.tmp 7) (.tmp 26) rfl g7 (by kernel_rfl) 28 Z V HZ7.1 (by kernel_rfl) ZV.out SV.out OV.out ?_
      intro w41 hkw41 hsw41 hbw41 how41
      have ex42 : Fx [.blk g7 28 V] w41 := ⟨hkw41.out, trivial⟩
      refine hK.out _ _ (hH.store HZ7.1 hH.store7 hsw41.out hbw41 how41) (fun hw41 => ?_)
      clear hK K
      try simp only [Act.put, List.setIfInBounds_toArray, List.set_cons_zero, List.set_cons_succ]
      refine held_v 3 (some 8) rfl (by kernel_rfl) (by kernel_rfl) (by kernel_rfl) (by kernel_rfl) (fun c a v w h => HQ2.out c a _ v w h) (by kernel_rfl) (.int .i64 10) (fun W h => by kernel_rfl) hw41 ?_
      try simp only [Act.put, List.setIfInBounds_toArray, List.set_cons_zero, List.set_cons_succ]
      refine wpAnyH_done (by kernel_rfl) ?_ _
      refine HQ1.out _ _ ?_
      clear HQ1 HQ2
      go_wp2_with (refine bodyPost_mid 6 7 8 28 rfl g7 rfl (.int .i64 0) (.int .i64 10) rfl rfl 28 V ex42.1 _ Tryz.underlying28 rfl SV.out rfl ?_)
      exact HEND.out _ hw41.rd hw41.bel
    · rw [ledT_go s a hnz]
      have hdr := fun W h => r8draw_c s ok (sumL l) (by omega) (by omega) a a0 a1 A0 c0 hc hcm W h
      have okt : (drawT s (sumL l) a).Ok := drawT_ok s (sumL l) a ok
      have HEND0 : Hid (∀ A2 c2 w', Sep w A0 A2 → s.tape.length ≤ c2 → c2 ≤ maxLen → RdP A2 s.tape.length s.tape w' → Below w.heap.size w w' → RetLead w s A0 (ledGo l (drawR s (sumL l) a)) (.returned (.tuple #[.int .i64 (ledGo l (drawR s (sumL l) a)).1, .agg (srcV (ledGo l (drawR s (sumL l) a)).2.1 A2 c2), .int .i64 (ledGo l (drawR s (sumL l) a)).2.2])) w') := Lib.hid (fun A2 c2 w' h1 h2 h3 h4 h5 => ⟨A2, c2, rfl, h4, h2, h3, h1, h5⟩)
      have how := fun W h => r11owner_c l hz AL n c hn (drawR s (sumL l) a).1 (draw_in s (sumL l) a).1 (draw_in s (sumL l) a).2 W h
      have hgo : (drawR s (sumL l) a).2.2 = 0 → ledGo l (drawR s (sumL l) a) = (ownV l (drawR s (sumL l) a).1, (drawR s (sumL l) a).2.1, 0) := fun h => if_pos h
      have hgn : (drawR s (sumL l) a).2.2 ≠ 0 → ledGo l (drawR s (sumL l) a) = (0, (drawR s (sumL l) a).2.1, (drawR s (sumL l) a).2.2) := fun h => if_neg h
      obtain ⟨S, hS⟩ : ∃ x, sumL l = x := ⟨_, rfl⟩
      rw [hS] at hto hnz hdr okt HEND0 how hgo hgn ⊢
      obtain ⟨t, ht⟩ : ∃ x, drawT s S a = x := ⟨_, rfl⟩
      have ht2 : (drawR s S a).2.1 = t := ht
      obtain ⟨x, hx⟩ : ∃ x, (drawR s S a).1 = x := ⟨_, rfl⟩
      obtain ⟨E, hE⟩ : ∃ x, (drawR s S a).2.2 = x := ⟨_, rfl⟩
      rw [ht] at okt
      unfold RetDraw at hdr
      rw [ht2, hx, hE] at hdr hgo
      rw [ht2, hE] at hgn
      rw [hx] at how
      have t1 : (S == 0) = false := by rw [beq_eq_false_iff_ne]; exact hnz
      have HTO := Lib.hid hto
      have HDR0 := Lib.hid hdr
      have ST := Lib.hid (fun A c => sizedS t okt.sl A c)
      have OT := Lib.hid (fun A c => srcV_ones t A c)
      have ZT := Lib.hid (fun A c => HZSS.out t okt.sl A c)
      obtain ⟨ov, hov⟩ : ∃ y, ownV l x = y := ⟨_, rfl⟩
      obtain ⟨oe, hoe⟩ : ∃ y, ownE l x = y := ⟨_, rfl⟩
      rw [hov, hoe] at how
      rw [hov] at hgo
      have HOW := Lib.hid how
      by_cases hE0 : E = 0
      · have e1 := hgo hE0
        rw [e1] at HEND0 ⊢
        have t2 : (E == 0) = true := by rw [beq_iff_eq]; exact hE0
        have t3 : (E != 0) = false := by rw [bne, t2]; rfl
        obtain ⟨rr, hrr⟩ : ∃ r : Int × Src × Int, (ov, t, 0) = r := ⟨_, rfl⟩
        have HEND1 : Hid (∀ A2 c2 w', Sep w A0 A2 → s.tape.length ≤ c2 → c2 ≤ maxLen → RdP A2 s.tape.length s.tape w' → Below w.heap.size w w' → RetLead w s A0 rr (.returned (.tuple #[.int .i64 ov, .agg (srcV t A2 c2), .int .i64 0])) w') := by rw [← hrr]; exact HEND0
        rw [hrr]
        obtain ⟨V, hV⟩ : ∃ V, srcV s A0 c0 = V := ⟨_, rfl⟩
        have HDR := HDR0
        rw [hV] at SV OV ZV HDR ⊢
        obtain ⟨zs, hzs⟩ : ∃ zs, s.tape = zs := ⟨_, rfl⟩
        obtain ⟨L, hL⟩ : ∃ L, zs.length = L := ⟨_, rfl⟩
        rw [hzs, hL] at HEND1 hRd HDR
        have HEND := HEND1
        clear HEND1 HEND0 HDR0 hrr hV hzs hL hto hdr how hgo hgn e1 hov hoe hx hE ht ht2 hS okt hz hz0 hs0 hrd hrl hc hcm hZ hn a0 a1 hs HZSS hnz hE0
        go_enter Tryz.func8, Tryz.ntmps8
        go_wp2_with (first
          | (with_reducible refine at_any ?_; refine at_dst 4 rfl ?_; refine wpList_box_any rfl 28 (.tmp 1) rfl V rfl ?_; intro w1 hk1 hs1 hb1)
          | (with_reducible refine at_any ?_; refine at_dst 7 rfl ?_; refine wpList_alloc_any rfl 28 rfl Z HZ0.out ?_; intro w2 hk2 hs2 hb2; have HS := DrS.mk2 hRd.out hk1.out hb1 hk2.out hb2 (Below.refl _ _); have HZ := fx1 hk2.out; have HR2 := Lib.hid (HRL (hb1.trans (hb2.mono hb1.size))); clear hs1 hb1 hs2 hb2)
          | (go_at_call 16; (with_reducible refine (HTO.out _ HR2.out).mono ?_); rintro e _ ⟨rfl, rfl⟩)
          | (with_reducible refine at_any ?_; refine at_dst 28 rfl ?_; refine wpList_load_blk rfl 28 (.tmp 4) rfl w.heap.size rfl 28 V HS.blk _ Tryz.underlying28 rfl SV.out ?_)
          | (go_at_call 17; (with_reducible refine (HDR.out _ HS.rd.rd).mono ?_); rintro e w5 ⟨A2, c2, rfl, hrd2, hc2, hm2, hsp2, hb5⟩; obtain ⟨V2, hV2⟩ : ∃ V2, srcV t A2 c2 = V2 := ⟨_, rfl⟩; have SV2 := Lib.hid (ST.out A2 c2); have OV2 := Lib.hid (OT.out A2 c2); have ZV2 := Lib.hid (ZT.out A2 c2); have HH2 := Lib.hid (fun w' h3 h4 => HEND.out A2 c2 w' (sep_from hsp2 HS.bel.size) hc2 hm2 h3 h4); rw [hV2] at SV2 OV2 ZV2 HH2 ⊢; clear hV2 hc2 hm2)
          | (with_reducible refine at_any ?_; refine at_dst 12 rfl ?_; refine wpList_alloc_any rfl 28 rfl Z HZ0.out ?_; intro w6 hk6 hs6 hb6)
          | (with_reducible refine at_any ?_; refine at_store 12 rfl ?_; refine wpList_store_any rfl 28 (.tmp 12) (.tmp 33) rfl w5.heap.size rfl 28 Z V2 hk6.out rfl ZV2.out SV2.out OV2.out ?_; intro w7 hk7 hs7 hb7 ho7; have T := Lib.hid (HS.took HZ hrd2 hsp2 hb5 hb6 hk6.out hk7.out hs7.out hb7 ho7))
          | (go_at_call 18; (with_reducible refine (HOW.out _ (HRL T.out.2.2.2.2.2.bel)).mono ?_); rintro e _ ⟨rfl, rfl⟩))
        obtain ⟨-, HZ9, -, -, -, HD⟩ := T.out
        obtain ⟨g7, hg7⟩ : ∃ g, w1.heap.size = g := ⟨_, rfl⟩
        obtain ⟨g11, hg11⟩ : ∃ g, w5.heap.size = g := ⟨_, rfl⟩
        rw [hg7] at HZ9 HD
        rw [hg11] at HD
        rw [hg7, hg11]
        clear hg7 hg11 T
        have HZ7 := HZ9.drew
        refine wp_region_held_drew (S := (DrH w g7 g11 V2 A2 L zs)) (by kernel_rfl) HD.drew (fun hH => ?_)
        refine wpAnyH_letter #[false, false, false, false, false] (by kernel_rfl) (fun _ _ d _ _ h => by cases d <;> exact h) (fun QL HQ1 HQ2 => ?_)
        refine held_v 0 (some 45) rfl (by kernel_rfl) (by kernel_rfl) (by kernel_rfl) (by kernel_rfl) (fun c a v w h => HQ2.out c a _ v w h) (by kernel_rfl) (.int .i64 ov) (fun W h => by kernel_rfl) hH ?_
        try simp only [Act.put, List.setIfInBounds_toArray, List.set_cons_zero, List.set_cons_succ]
        refine held_row 1 (some 46) rfl (by kernel_rfl) (by kernel_rfl) (by kernel_rfl) (by kernel_rfl) (fun c a v w h => HQ2.out c a _ v w h) (by kernel_rfl) 28 (.tmp 12) rfl g11 (by kernel_rfl) 28 V2 (fun _ h => h.blk) _ Tryz.underlying28 rfl SV2.out hH ?_
        try simp only [Act.put, List.setIfInBounds_toArray, List.set_cons_zero, List.set_cons_succ]
        refine held_v 2 (some 6) rfl (by kernel_rfl) (by kernel_rfl) (by kernel_rfl) (by kernel_rfl) (fun c a v w h => HQ2.out c a _ v w h) (by kernel_rfl) (.int .i64 ov) (fun W h => by kernel_rfl) hH ?_
        try simp only [Act.put, List.setIfInBounds_toArray, List.set_cons_zero, List.set_cons_succ]
        refine wpAnyH_ready (rs := [3]) (by kernel_rfl) (by decide) ?_
        refine AllReadyH.cons rfl (fun K hK => ?_) AllReadyH.nil
        refine step_store none (by kernel_rfl) (by kernel_rfl) 28 (.tmp 7) (.tmp 46) rfl g7 (by kernel_rfl) 28 Z V2 HZ7.1 (by kernel_rfl) ZV2.out SV2.out OV2.out ?_
        intro w141 hkw141 hsw141 hbw141 how141
        have ex142 : Fx [.blk g7 28 V2] w141 := ⟨hkw141.out, trivial⟩
        refine hK.out _ _ (hH.store HZ7.1 hH.store7 hsw141.out hbw141 how141) (fun hw141 => ?_)
        clear hK K
        try simp only [Act.put, List.setIfInBounds_toArray, List.set_cons_zero, List.set_cons_succ]
        refine held_v 4 (some 8) rfl (by kernel_rfl) (by kernel_rfl) (by kernel_rfl) (by kernel_rfl) (fun c a v w h => HQ2.out c a _ v w h) (by kernel_rfl) (.int .i64 0) (fun W h => by kernel_rfl) hw141 ?_
        try simp only [Act.put, List.setIfInBounds_toArray, List.set_cons_zero, List.set_cons_succ]
        refine wpAnyH_done (by kernel_rfl) ?_ _
        refine HQ1.out _ _ ?_
        clear HQ1 HQ2
        go_wp2_with (refine bodyPost_mid 6 7 8 28 rfl g7 rfl (.int .i64 ov) (.int .i64 0) rfl rfl 28 V2 ex142.1 _ Tryz.underlying28 rfl SV2.out rfl ?_)
        exact HH2.out _ hw141.rd.rd hw141.bel
      · have e1 := hgn hE0
        rw [e1] at HEND0 ⊢
        have t2 : (E == 0) = false := by rw [beq_eq_false_iff_ne]; exact hE0
        have t3 : (E != 0) = true := by rw [bne, t2]; rfl
        obtain ⟨rr, hrr⟩ : ∃ r : Int × Src × Int, (0, t, E) = r := ⟨_, rfl⟩
        have HEND1 : Hid (∀ A2 c2 w', Sep w A0 A2 → s.tape.length ≤ c2 → c2 ≤ maxLen → RdP A2 s.tape.length s.tape w' → Below w.heap.size w w' → RetLead w s A0 rr (.returned (.tuple #[.int .i64 0, .agg (srcV t A2 c2), .int .i64 E])) w') := by rw [← hrr]; exact HEND0
        rw [hrr]
        obtain ⟨V, hV⟩ : ∃ V, srcV s A0 c0 = V := ⟨_, rfl⟩
        have HDR := HDR0
        rw [hV] at SV OV ZV HDR ⊢
        obtain ⟨zs, hzs⟩ : ∃ zs, s.tape = zs := ⟨_, rfl⟩
        obtain ⟨L, hL⟩ : ∃ L, zs.length = L := ⟨_, rfl⟩
        rw [hzs, hL] at HEND1 hRd HDR
        have HEND := HEND1
        clear HEND1 HEND0 HDR0 hrr hV hzs hL hto hdr how hgo hgn e1 hov hoe hx hE ht ht2 hS okt hz hz0 hs0 hrd hrl hc hcm hZ hn a0 a1 hs HZSS hnz hE0
        go_enter Tryz.func8, Tryz.ntmps8
        go_wp2_with (first
          | (with_reducible refine at_any ?_; refine at_dst 4 rfl ?_; refine wpList_box_any rfl 28 (.tmp 1) rfl V rfl ?_; intro w1 hk1 hs1 hb1)
          | (with_reducible refine at_any ?_; refine at_dst 7 rfl ?_; refine wpList_alloc_any rfl 28 rfl Z HZ0.out ?_; intro w2 hk2 hs2 hb2; have HS := DrS.mk2 hRd.out hk1.out hb1 hk2.out hb2 (Below.refl _ _); have HZ := fx1 hk2.out; have HR2 := Lib.hid (HRL (hb1.trans (hb2.mono hb1.size))); clear hs1 hb1 hs2 hb2)
          | (go_at_call 16; (with_reducible refine (HTO.out _ HR2.out).mono ?_); rintro e _ ⟨rfl, rfl⟩)
          | (with_reducible refine at_any ?_; refine at_dst 28 rfl ?_; refine wpList_load_blk rfl 28 (.tmp 4) rfl w.heap.size rfl 28 V HS.blk _ Tryz.underlying28 rfl SV.out ?_)
          | (go_at_call 17; (with_reducible refine (HDR.out _ HS.rd.rd).mono ?_); rintro e w5 ⟨A2, c2, rfl, hrd2, hc2, hm2, hsp2, hb5⟩; obtain ⟨V2, hV2⟩ : ∃ V2, srcV t A2 c2 = V2 := ⟨_, rfl⟩; have SV2 := Lib.hid (ST.out A2 c2); have OV2 := Lib.hid (OT.out A2 c2); have ZV2 := Lib.hid (ZT.out A2 c2); have HH2 := Lib.hid (fun w' h3 h4 => HEND.out A2 c2 w' (sep_from hsp2 HS.bel.size) hc2 hm2 h3 h4); rw [hV2] at SV2 OV2 ZV2 HH2 ⊢; clear hV2 hc2 hm2)
          | (with_reducible refine at_any ?_; refine at_dst 12 rfl ?_; refine wpList_alloc_any rfl 28 rfl Z HZ0.out ?_; intro w6 hk6 hs6 hb6)
          | (with_reducible refine at_any ?_; refine at_store 12 rfl ?_; refine wpList_store_any rfl 28 (.tmp 12) (.tmp 33) rfl w5.heap.size rfl 28 Z V2 hk6.out rfl ZV2.out SV2.out OV2.out ?_; intro w7 hk7 hs7 hb7 ho7; have T := Lib.hid (HS.took HZ hrd2 hsp2 hb5 hb6 hk6.out hk7.out hs7.out hb7 ho7)))
        obtain ⟨-, HZ9, -, -, -, HD⟩ := T.out
        obtain ⟨g7, hg7⟩ : ∃ g, w1.heap.size = g := ⟨_, rfl⟩
        obtain ⟨g11, hg11⟩ : ∃ g, w5.heap.size = g := ⟨_, rfl⟩
        rw [hg7] at HZ9 HD
        rw [hg11] at HD
        rw [hg7, hg11]
        clear hg7 hg11 T
        have HZ7 := HZ9.drew
        refine wp_region_held_drew (S := (DrH w g7 g11 V2 A2 L zs)) (by kernel_rfl) HD.drew (fun hH => ?_)
        refine wpAnyH_letter #[false, false, false, false, false] (by kernel_rfl) (fun _ _ d _ _ h => by cases d <;> exact h) (fun QL HQ1 HQ2 => ?_)
        refine held_row 0 (some 37) rfl (by kernel_rfl) (by kernel_rfl) (by kernel_rfl) (by kernel_rfl) (fun c a v w h => HQ2.out c a _ v w h) (by kernel_rfl) 28 (.tmp 12) rfl g11 (by kernel_rfl) 28 V2 (fun _ h => h.blk) _ Tryz.underlying28 rfl SV2.out hH ?_
        try simp only [Act.put, List.setIfInBounds_toArray, List.set_cons_zero, List.set_cons_succ]
        refine held_v 1 (some 38) rfl (by kernel_rfl) (by kernel_rfl) (by kernel_rfl) (by kernel_rfl) (fun c a v w h => HQ2.out c a _ v w h) (by kernel_rfl) (.int .i64 E) (fun W h => by kernel_rfl) hH ?_
        try simp only [Act.put, List.setIfInBounds_toArray, List.set_cons_zero, List.set_cons_succ]
        refine held_v 2 (some 6) rfl (by kernel_rfl) (by kernel_rfl) (by kernel_rfl) (by kernel_rfl) (fun c a v w h => HQ2.out c a _ v w h) (by kernel_rfl) (.int .i64 0) (fun W h => by kernel_rfl) hH ?_
        try simp only [Act.put, List.setIfInBounds_toArray, List.set_cons_zero, List.set_cons_succ]
        refine wpAnyH_ready (rs := [3]) (by kernel_rfl) (by decide) ?_
        refine AllReadyH.cons rfl (fun K hK => ?_) AllReadyH.nil
        refine step_store none (by kernel_rfl) (by kernel_rfl) 28 (.tmp 7) (.tmp 37) rfl g7 (by kernel_rfl) 28 Z V2 HZ7.1 (by kernel_rfl) ZV2.out SV2.out OV2.out ?_
        intro w141 hkw141 hsw141 hbw141 how141
        have ex142 : Fx [.blk g7 28 V2] w141 := ⟨hkw141.out, trivial⟩
        refine hK.out _ _ (hH.store HZ7.1 hH.store7 hsw141.out hbw141 how141) (fun hw141 => ?_)
        clear hK K
        try simp only [Act.put, List.setIfInBounds_toArray, List.set_cons_zero, List.set_cons_succ]
        refine held_v 4 (some 8) rfl (by kernel_rfl) (by kernel_rfl) (by kernel_rfl) (by kernel_rfl) (fun c a v w h => HQ2.out c a _ v w h) (by kernel_rfl) (.int .i64 E) (fun W h => by kernel_rfl) hw141 ?_
        try simp only [Act.put, List.setIfInBounds_toArray, List.set_cons_zero, List.set_cons_succ]
        refine wpAnyH_done (by kernel_rfl) ?_ _
        refine HQ1.out _ _ ?_
        clear HQ1 HQ2
        go_wp2_with (refine bodyPost_mid 6 7 8 28 rfl g7 rfl (.int .i64 0) (.int .i64 E) rfl rfl 28 V2 ex142.1 _ Tryz.underlying28 rfl SV2.out rfl ?_)
        exact HH2.out _ hw141.rd.rd hw141.bel
  · rw [led_big s a hs]
    rw [(sumV_no hs).1, (sumV_no hs).2] at hto
    have HTO := Lib.hid hto
    have HEND0 : Hid (∀ w', RdP A0 s.tape.length s.tape w' → Below w.heap.size w w' → RetLead w s A0 (0, s, 11) (.returned (.tuple #[.int .i64 0, .agg (srcV s A0 c0), .int .i64 11])) w') := Lib.hid (fun w' hr hb => ⟨A0, c0, rfl, hr, hc, hcm, .inl rfl, hb⟩)
    obtain ⟨rr, hrr⟩ : ∃ r : Int × Src × Int, (0, s, 11) = r := ⟨_, rfl⟩
    rw [hrr] at HEND0 ⊢
    obtain ⟨V, hV⟩ : ∃ V, srcV s A0 c0 = V := ⟨_, rfl⟩
    rw [hV] at SV OV ZV HEND0 ⊢
    obtain ⟨zs, hzs⟩ : ∃ zs, s.tape = zs := ⟨_, rfl⟩
    obtain ⟨L, hL⟩ : ∃ L, zs.length = L := ⟨_, rfl⟩
    rw [hzs, hL] at HEND0
    rw [hzs, hL] at hRd
    have HEND := HEND0
    clear HEND0 hrr hV hzs hL hto hz hz0 hs0 hrd hrl hc hcm hZ hn a0 a1 hs HZSS
    go_enter Tryz.func8, Tryz.ntmps8
    go_wp2_with (first
      | (with_reducible refine at_any ?_; refine at_dst 4 rfl ?_; refine wpList_box_any rfl 28 (.tmp 1) rfl V rfl ?_; intro w1 hk1 hs1 hb1)
      | (with_reducible refine at_any ?_; refine at_dst 7 rfl ?_; refine wpList_alloc_any rfl 28 rfl Z HZ0.out ?_; intro w2 hk2 hs2 hb2; have HS := DrS.mk2 hRd.out hk1.out hb1 hk2.out hb2 (Below.refl _ _); have HZ := fx1 hk2.out; have HR2 := Lib.hid (HRL (hb1.trans (hb2.mono hb1.size))); clear hs1 hb1 hs2 hb2)
      | (go_at_call 16; (with_reducible refine (HTO.out _ HR2.out).mono ?_); rintro e _ ⟨rfl, rfl⟩))
    obtain ⟨g3, hg3⟩ : ∃ g, w.heap.size = g := ⟨_, rfl⟩
    obtain ⟨g7, hg7⟩ : ∃ g, w1.heap.size = g := ⟨_, rfl⟩
    rw [hg3, hg7] at HS
    rw [hg7] at HZ
    rw [hg3, hg7]
    clear hg3 hg7 hk1 hk2
    have HZ7 := HZ.drew
    refine wp_region_held_drew (S := (DrS w g3 g7 V A0 L zs)) (by kernel_rfl) HS.drew (fun hH => ?_)
    refine wpAnyH_letter #[false, false, false, false] (by kernel_rfl) (fun _ _ d _ _ h => by cases d <;> exact h) (fun QL HQ1 HQ2 => ?_)
    refine held_row 0 (some 23) rfl (by kernel_rfl) (by kernel_rfl) (by kernel_rfl) (by kernel_rfl) (fun c a v w h => HQ2.out c a _ v w h) (by kernel_rfl) 28 (.tmp 4) rfl g3 (by kernel_rfl) 28 V (fun _ h => h.blk) _ Tryz.underlying28 rfl SV.out hH ?_
    try simp only [Act.put, List.setIfInBounds_toArray, List.set_cons_zero, List.set_cons_succ]
    refine held_v 1 (some 6) rfl (by kernel_rfl) (by kernel_rfl) (by kernel_rfl) (by kernel_rfl) (fun c a v w h => HQ2.out c a _ v w h) (by kernel_rfl) (.int .i64 0) (fun W h => by kernel_rfl) hH ?_
    try simp only [Act.put, List.setIfInBounds_toArray, List.set_cons_zero, List.set_cons_succ]
    refine wpAnyH_ready (rs := [2]) (by kernel_rfl) (by decide) ?_
    refine AllReadyH.cons rfl (fun K hK => ?_) AllReadyH.nil
    refine step_store none (by kernel_rfl) (by kernel_rfl) 28 (.tmp 7) (.tmp 23) rfl g7 (by kernel_rfl) 28 Z V HZ7.1 (by kernel_rfl) ZV.out SV.out OV.out ?_
    intro w41 hkw41 hsw41 hbw41 how41
    have ex42 : Fx [.blk g7 28 V] w41 := ⟨hkw41.out, trivial⟩
    refine hK.out _ _ (hH.store HZ7.1 hH.store7 hsw41.out hbw41 how41) (fun hw41 => ?_)
    clear hK K
    try simp only [Act.put, List.setIfInBounds_toArray, List.set_cons_zero, List.set_cons_succ]
    refine held_v 3 (some 8) rfl (by kernel_rfl) (by kernel_rfl) (by kernel_rfl) (by kernel_rfl) (fun c a v w h => HQ2.out c a _ v w h) (by kernel_rfl) (.int .i64 11) (fun W h => by kernel_rfl) hw41 ?_
    try simp only [Act.put, List.setIfInBounds_toArray, List.set_cons_zero, List.set_cons_succ]
    refine wpAnyH_done (by kernel_rfl) ?_ _
    refine HQ1.out _ _ ?_
    clear HQ1 HQ2
    go_wp2_with (refine bodyPost_mid 6 7 8 28 rfl g7 rfl (.int .i64 0) (.int .i64 11) rfl rfl 28 V ex42.1 _ Tryz.underlying28 rfl SV.out rfl ?_)
    exact HEND.out _ hw41.rd hw41.bel

end Go.Proofs.YtepclbmcacdhlaaGreatDoor

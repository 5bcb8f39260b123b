/-
  What the laws of stage 14 need of memory: tables in blocks of two cells, their cells as facts that are kept, answers said by what they are.
  Conditions: those that each theorem names.
-/
import Derived.Test.YtkgajcifanobnaaLitL
import Derived.Test.YtkgajcifanobnaaTabN
import Derived.Test.YtkgajcifanobnaaTabQ
set_option maxRecDepth 100000
set_option linter.unusedVariables false
set_option linter.unusedSimpArgs false
namespace Go.Proofs.Ytkgajcifanobnaa
open Go.ChangeShapes Go.WideShapes Go.ChangeAt Go.RowKit
theorem zero_tabL : ∀ W, (zeroValue 27).run Try.prog W = .ok (.agg #[.int .u64 0, .slice none 0 0]) W := (zero_of_info (n := 2) (by kernel_rfl)).1
theorem sizedT (u v : Value) : (Try.prog.info? 27).map (·.size) = some (#[u, v] : Array Value).size := by kernel_rfl
theorem onesT (T : Int) (A : Option Addr) (n c : Nat) : (#[.int .u64 T, .slice A n c] : Array Value).all (·.oneCell') = true := by simp [Value.oneCell']
theorem sameT2 (u v u' v' : Value) : (#[u, v] : Array Value).size = (#[u', v'] : Array Value).size := rfl
/-- The cells of a table, kept. -/
theorem Fx.addP {l : List Fact} {w w' : World} {k0 k1 : IntKind} {A : Option Addr} {n : Nat} {ts : List (Int × Int)} (h : Fx l w) (hb : Below w.heap.size w w') (hr : RdPr k0 k1 w' w'.heap.size A n ts) : Fx (.kept w'.heap.size (fun W => RdPr k0 k1 W W.heap.size A n ts) :: l) w' :=
  Fx.addK h hb (fun w2 h2 => hr.to h2)
theorem RdPr.kept {k0 k1 : IntKind} {w : World} {A : Option Addr} {n : Nat} {ts : List (Int × Int)} (h : RdPr k0 k1 w w.heap.size A n ts) : (Fact.kept w.heap.size (fun W => RdPr k0 k1 W W.heap.size A n ts)).on w := ⟨fun w2 h2 => h.to h2, Nat.le_refl _⟩
theorem Fx.lit22 {l : List Fact} {w : World} (h : Fx l w) (a b c d : Int) : Fx (.kept (w.alloc (.cells #[.int .u64 a, .int .i64 b, .int .u64 c, .int .i64 d] 44)).heap.size (fun W => RdPr .u64 .i64 W W.heap.size (some ⟨w.heap.size, 0, none⟩) 2 [(a, b), (c, d)]) :: l) (w.alloc (.cells #[.int .u64 a, .int .i64 b, .int .u64 c, .int .i64 d] 44)) :=
  Fx.addP h ((Below.refl _ _).alloc (Nat.le_refl _) _) (RdPr.of_blk (ts := [(a, b), (c, d)]) (Blk.new w _ _))
section
variable {ops : Array Oper} {rest : List Oper} {o : Oper} {a : Act} {w : World} {Q : Exit → Act → World → Prop}
/-- A whole table, loaded. -/
theorem wpList_load_tab (hw : Region.wanted o (yielded ops a.tmps) = true) (x : Operand) (ho : o.op = .load 27 x) (g : Nat) (hx : a.eval x = .pointer (some ⟨g, 0, none⟩)) (t : TypeId) (u v : Value) (hb : Blk w g t #[u, v])
    (h : wpList Try.prog ops Q rest (a.put o.dst (.agg #[u, v])) w) : wpList Try.prog ops Q (o :: rest) a w := by
  refine wpList_run_gd hw (.agg #[u, v]) w ?_ h
  have p : w.cell? ⟨g, 0, none⟩ = some u := by rw [hb.cell]; rfl
  have q : w.cell? ⟨g, 1, none⟩ = some v := by rw [hb.cell]; rfl
  unfold execOp
  simp only [ho, hx]
  go_simp
end
theorem tab_c0 {w : World} {g : Nat} {t : TypeId} {u v : Value} (hb : Blk w g t #[u, v]) : w.cell? ⟨g, 0, none⟩ = some u := by rw [hb.cell]; rfl
theorem tab_c1 {w : World} {g : Nat} {t : TypeId} {u v : Value} (hb : Blk w g t #[u, v]) : w.cell? ⟨g, 1, none⟩ = some v := by rw [hb.cell]; rfl
theorem tb_in {l : List Int} (hz : ∀ z ∈ l, 0 ≤ z) : 0 ≤ tbT l ∧ tbT l < 9223372036854775808 ∧ (tbC l).length ≤ l.length ∧ ((l.length : Int) < 9223372036854775808 → PrOk (tbC l)) := by
  by_cases h : tbE l = 0
  · obtain ⟨h1, h2, h3, h4⟩ := tbE_iff.1 h
    obtain ⟨e1, e2, e3, -⟩ := tb_right hz h
    have h5 := sumL_nn hz
    obtain ⟨e4, I, e5, -⟩ := tb_abi hz h
    refine ⟨by omega, by omega, Nat.le_of_eq e1, fun hl p hp => ?_⟩
    obtain ⟨k, hk, rfl⟩ := List.getElem_of_mem hp
    have hc : (tbC l)[k] = cellL (tbC l) k := by simp [cellL, hk]
    have h6 := (tabR_iff.1 e2).2.2.2 k hk
    have h7 := e3 k (by omega)
    rw [hc]
    omega
  · obtain ⟨e1, e2⟩ := tb_no h
    rw [e1, e2]
    exact ⟨Int.le_refl _, by omega, Nat.zero_le _, fun _ p hp => by cases hp⟩
theorem size_u64l : (Try.prog.info? 24).map (·.size) = some 1 := by kernel_rfl
theorem rd_at {k : IntKind} {w : World} {B b off n j : Nat} {zs : List Int} (h : Rd k w B (some ⟨b, off, none⟩) n zs) (hj : j < n) : w.cell? ⟨b, off + j, none⟩ = some (.int k (zs.getD j 0)) := by
  obtain ⟨b', off', e, _, hc⟩ := h.at_ (by omega)
  cases e
  exact hc j hj
theorem prOk_wf {ts : List (Int × Int)} (h : ∀ q ∈ ts, (Lit.int .u64 q.1).wf = true ∧ (Lit.int .i64 q.2).wf = true) : PrOk ts := fun p hp => by
  obtain ⟨a, b⟩ := h p hp
  have h1 := bounds_u64 a
  have h2 := bounds_i64 b
  omega
theorem calls_tab {P : Program} {f : FuncId} {args : Array Value} {w : World} {T T' er er' : Int} {n n' : Nat} {ts ts' : List (Int × Int)} (h : Calls P f args w (RetTab w T n ts er)) (h0 : T = T') (h1 : ts = ts') (h2 : er = er') (hn : n = n') : Calls P f args w (RetTab w T' n' ts' er') := by
  subst h0 h1 h2 hn
  exact h
end Go.Proofs.Ytkgajcifanobnaa

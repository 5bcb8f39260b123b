/-
  Texts of this claim, joined: AlsL, PlainA, ArrA, WordA, RefA, RefB, PlanP, PlanQ, CompP, ShaP, ShaQ, StrmP, SrcP, RefC, RefD, RefE, RefF, RefG, RefH, RefI, RefJ, ShaM, StrmM, SrcM, EqA, NedP. What each shows, and its conditions, stand at its own head.
-/
import Derived.Test.YtomkidgmpbjgeaaGreatDoorGa
import Derived.Laws.BitsAllLaws
import Derived.Test.YtomkidgmpbjgeaaGreatDoorRows
import Derived.Handy
import Derived.Lib.Hide
import Derived.Below
import Derived.ChangeSame
import Derived.KernelRfl
import Derived.Deep.RegionHeld3
/-
  What the laws of stage 14 need of memory: tables in blocks of two cells, their cells as facts that are kept, answers said by what they are.
  Conditions: those that each theorem names.
-/
set_option maxRecDepth 100000
set_option linter.unusedVariables false
set_option linter.unusedSimpArgs false
namespace Go.Proofs.YtomkidgmpbjgeaaGreatDoor
open Go.ChangeShapes Go.WideShapes Go.ChangeAt Go.RowKit
theorem zero_tabL : ∀ W, (zeroValue 25).run Tryz.prog W = .ok (.agg #[.int .u64 0, .slice none 0 0]) W := (zero_of_info (n := 2) (by kernel_rfl)).1
theorem sizedT (u v : Value) : (Tryz.prog.info? 25).map (·.size) = some (#[u, v] : Array Value).size := by kernel_rfl
theorem onesT (T : Int) (A : Option Addr) (n c : Nat) : (#[.int .u64 T, .slice A n c] : Array Value).all (·.oneCell') = true := by simp [Value.oneCell']
theorem sameT2 (u v u' v' : Value) : (#[u, v] : Array Value).size = (#[u', v'] : Array Value).size := rfl
/-- The cells of a table, kept. -/
theorem Fx.addP {l : List Fact} {w w' : World} {k0 k1 : IntKind} {A : Option Addr} {n : Nat} {ts : List (Int × Int)} (h : Fx l w) (hb : Below w.heap.size w w') (hr : RdPr k0 k1 w' w'.heap.size A n ts) : Fx (.kept w'.heap.size (fun W => RdPr k0 k1 W W.heap.size A n ts) :: l) w' :=
  Fx.addK h hb (fun w2 h2 => hr.to h2)
theorem RdPr.kept {k0 k1 : IntKind} {w : World} {A : Option Addr} {n : Nat} {ts : List (Int × Int)} (h : RdPr k0 k1 w w.heap.size A n ts) : (Fact.kept w.heap.size (fun W => RdPr k0 k1 W W.heap.size A n ts)).on w := ⟨fun w2 h2 => h.to h2, Nat.le_refl _⟩
theorem Fx.lit22 {l : List Fact} {w : World} (h : Fx l w) (a b c d : Int) : Fx (.kept (w.alloc (.cells #[.int .u64 a, .int .i64 b, .int .u64 c, .int .i64 d] 58)).heap.size (fun W => RdPr .u64 .i64 W W.heap.size (some ⟨w.heap.size, 0, none⟩) 2 [(a, b), (c, d)]) :: l) (w.alloc (.cells #[.int .u64 a, .int .i64 b, .int .u64 c, .int .i64 d] 58)) :=
  Fx.addP h ((Below.refl _ _).alloc (Nat.le_refl _) _) (RdPr.of_blk (ts := [(a, b), (c, d)]) (Blk.new w _ _))
section
variable {ops : Array Oper} {rest : List Oper} {o : Oper} {a : Act} {w : World} {Q : Exit → Act → World → Prop}
/-- A whole table, loaded. -/
theorem wpList_load_tab (hw : Region.wanted o (yielded ops a.tmps) = true) (x : Operand) (ho : o.op = .load 25 x) (g : Nat) (hx : a.eval x = .pointer (some ⟨g, 0, none⟩)) (t : TypeId) (u v : Value) (hb : Blk w g t #[u, v])
    (h : wpList Tryz.prog ops Q rest (a.put o.dst (.agg #[u, v])) w) : wpList Tryz.prog ops Q (o :: rest) a w := by
  refine wpList_run_gd hw (.agg #[u, v]) w ?_ h
  have p : w.cell? ⟨g, 0, none⟩ = some u := by rw [hb.cell]; rfl
  have q : w.cell? ⟨g, 1, none⟩ = some v := by rw [hb.cell]; rfl
  unfold execOp
  simp only [ho, hx]
  go_simp
end
theorem tab_c0 {w : World} {g : Nat} {t : TypeId} {u v : Value} (hb : Blk w g t #[u, v]) : w.cell? ⟨g, 0, none⟩ = some u := by rw [hb.cell]; rfl
theorem tab_c1 {w : World} {g : Nat} {t : TypeId} {u v : Value} (hb : Blk w g t #[u, v]) : w.cell? ⟨g, 1, none⟩ = some v := by rw [hb.cell]; rfl
theorem tb_in {l : List Int} (hz : ∀ z ∈ l, 0 ≤ z) : 0 ≤ tbT l ∧ tbT l < 9223372036854775808 ∧ (tbC l).length ≤ l.length ∧ ((l.length : Int) < 9223372036854775808 → PrOk (tbC l)) := by
  by_cases h : tbE l = 0
  · obtain ⟨h1, h2, h3, h4⟩ := tbE_iff.1 h
    obtain ⟨e1, e2, e3, -⟩ := tb_right hz h
    have h5 := sumL_nn hz
    obtain ⟨e4, I, e5, -⟩ := tb_abi hz h
    refine ⟨by omega, by omega, Nat.le_of_eq e1, fun hl p hp => ?_⟩
    obtain ⟨k, hk, rfl⟩ := List.getElem_of_mem hp
    have hc : (tbC l)[k] = cellL (tbC l) k := by simp [cellL, hk]
    have h6 := (tabR_iff.1 e2).2.2.2 k hk
    have h7 := e3 k (by omega)
    rw [hc]
    omega
  · obtain ⟨e1, e2⟩ := tb_no h
    rw [e1, e2]
    exact ⟨Int.le_refl _, by omega, Nat.zero_le _, fun _ p hp => by cases hp⟩
theorem size_u64l : (Tryz.prog.info? 22).map (·.size) = some 1 := by kernel_rfl
theorem rd_at {k : IntKind} {w : World} {B b off n j : Nat} {zs : List Int} (h : Rd k w B (some ⟨b, off, none⟩) n zs) (hj : j < n) : w.cell? ⟨b, off + j, none⟩ = some (.int k (zs.getD j 0)) := by
  obtain ⟨b', off', e, _, hc⟩ := h.at_ (by omega)
  cases e
  exact hc j hj
theorem prOk_wf {ts : List (Int × Int)} (h : ∀ q ∈ ts, (Lit.int .u64 q.1).wf = true ∧ (Lit.int .i64 q.2).wf = true) : PrOk ts := fun p hp => by
  obtain ⟨a, b⟩ := h p hp
  have h1 := bounds_u64 a
  have h2 := bounds_i64 b
  omega
theorem calls_tab {P : Program} {f : FuncId} {args : Array Value} {w : World} {T T' er er' : Int} {n n' : Nat} {ts ts' : List (Int × Int)} (h : Calls P f args w (RetTab w T n ts er)) (h0 : T = T') (h1 : ts = ts') (h2 : er = er') (hn : n = n') : Calls P f args w (RetTab w T' n' ts' er') := by
  subst h0 h1 h2 hn
  exact h
end Go.Proofs.YtomkidgmpbjgeaaGreatDoor
/-
  Plain arithmetic on words of 32 and 64 bits (shifts, turns, bytes, number of bits), with no program in it.
  Conditions: none beyond those that each theorem names.
-/
set_option maxRecDepth 100000
namespace Go.Proofs.YtomkidgmpbjgeaaGreatDoor.Wd

def left (x n : Int) : Int := if n < 1 then x else if 31 < n then 0 else x * 2 ^ n.toNat % 4294967296
def right (x n : Int) : Int := if n < 1 then x else if 31 < n then 0 else x / 2 ^ n.toNat
def rot (x : Int) (k : Nat) : Int := x / 2 ^ k + x % 2 ^ k * 2 ^ (32 - k)
def rotate (x n : Int) : Int := rot x (n % 32).toNat
/-- The byte of x that has k bytes behind it. -/
def byt (x : Int) (k : Nat) : Int := x / 256 ^ k % 256
def get4 (a b c d : Int) : Int := ((a * 256 + b) * 256 + c) * 256 + d
/-- How many bits a number has. -/
def bitsL (x : Nat) : Nat := if x = 0 then 0 else x.log2 + 1
theorem bitsL_zero : bitsL 0 = 0 := rfl
theorem bitsL_step (x : Nat) (h : 0 < x) : bitsL x = bitsL (x / 2) + 1 := by
  unfold bitsL
  rw [if_neg (by omega), Nat.log2_def]
  by_cases h2 : 2 ≤ x
  · rw [if_pos h2, if_neg (by omega)]
  · rw [if_neg h2, if_pos (by omega)]
theorem bitsL_le (x : Nat) (h : x < 18446744073709551616) : bitsL x ≤ 64 := by
  unfold bitsL
  split
  · omega
  · have : x.log2 < 64 := (Nat.log2_lt (by omega)).2 h
    omega

theorem pow_pos2 (k : Nat) : (0 : Int) < 2 ^ k := Int.pow_pos (by decide)

theorem left_low (x n : Int) (h : n < 1) : left x n = x := by simp [left, h]
theorem right_low (x n : Int) (h : n < 1) : right x n = x := by simp [right, h]
theorem left_high (x n : Int) (h : 31 < n) : left x n = 0 := by
  unfold left; rw [if_neg (by omega), if_pos h]
theorem right_high (x n : Int) (h : 31 < n) : right x n = 0 := by
  unfold right; rw [if_neg (by omega), if_pos h]

/-- What the model answers of a shift to the highest bit. -/
theorem left_model (x n : Int) (h : 1 ≤ n) : x * 2 ^ min n.toNat 32 % 4294967296 = left x n := by
  by_cases h2 : 31 < n
  · rw [left_high x n h2, show min n.toNat 32 = 32 by omega, show (2 : Int) ^ 32 = 4294967296 by decide]
    exact Int.mul_emod_left _ _
  · unfold left
    rw [if_neg (by omega), if_neg h2, show min n.toNat 32 = n.toNat by omega]

theorem right_model (x n : Int) (h0 : 0 ≤ x) (h1 : x < 4294967296) (h : 1 ≤ n) : x / 2 ^ min n.toNat 32 = right x n := by
  by_cases h2 : 31 < n
  · rw [right_high x n h2, show min n.toNat 32 = 32 by omega, show (2 : Int) ^ 32 = 4294967296 by decide]
    exact Int.ediv_eq_zero_of_lt h0 h1
  · unfold right
    rw [if_neg (by omega), if_neg h2, show min n.toNat 32 = n.toNat by omega]

theorem shl_split (x : Int) (k : Nat) (hk : k ≤ 32) : x * 2 ^ (32 - k) % 4294967296 = x % 2 ^ k * 2 ^ (32 - k) := by
  have e : (4294967296 : Int) = 2 ^ k * 2 ^ (32 - k) := by
    rw [← Int.pow_add, show k + (32 - k) = 32 by omega]; decide
  rw [e, Int.mul_comm x, Int.mul_comm (2 ^ k), Int.mul_emod_mul_of_pos _ _ (pow_pos2 _), Int.mul_comm]

theorem rot_bounds (x : Int) (k : Nat) (h0 : 0 ≤ x) (h1 : x < 4294967296) (hk : k ≤ 32) : 0 ≤ rot x k ∧ rot x k < 4294967296 := by
  unfold rot
  have e : (4294967296 : Int) = 2 ^ (32 - k) * 2 ^ k := by
    rw [← Int.pow_add, show 32 - k + k = 32 by omega]; decide
  have p := pow_pos2 k
  have q := pow_pos2 (32 - k)
  have hd : x / 2 ^ k < 2 ^ (32 - k) := Int.ediv_lt_of_lt_mul p (by rw [← e]; exact h1)
  have hd0 : 0 ≤ x / 2 ^ k := Int.ediv_nonneg h0 (by omega)
  have hm0 := Int.emod_nonneg x (show (2 : Int) ^ k ≠ 0 by omega)
  have hm1 := Int.emod_lt_of_pos x p
  have hq := Int.mul_nonneg hm0 (show (0 : Int) ≤ 2 ^ (32 - k) by omega)
  have hlt : (x % 2 ^ k + 1) * 2 ^ (32 - k) ≤ 2 ^ k * 2 ^ (32 - k) := Int.mul_le_mul_of_nonneg_right (by omega) (by omega)
  rw [Int.add_mul, Int.one_mul, Int.mul_comm (2 ^ k) (2 ^ (32 - k)), ← e] at hlt
  omega

theorem toNat_mul_pow (a : Int) (k : Nat) (h : 0 ≤ a) : (a * 2 ^ k).toNat = 2 ^ k * a.toNat := by
  obtain ⟨n, rfl⟩ := Int.eq_ofNat_of_zero_le h
  rw [show ((n : Int) * 2 ^ k) = ((n * 2 ^ k : Nat) : Int) by push_cast; rfl, Int.toNat_natCast, Int.toNat_natCast, Nat.mul_comm]

/-- Both shifts, joined bit by bit, are their sum. -/
theorem rot_or (x : Int) (k : Nat) (h0 : 0 ≤ x) (h1 : x < 4294967296) (hk : k < 32) :
    Go.bits .or .u32 (x / 2 ^ k) (x * 2 ^ (32 - k) % 4294967296) = rot x k := by
  have hb := rot_bounds x k h0 h1 (by omega)
  rw [shl_split x k (by omega)]
  unfold rot at hb ⊢
  have e : (4294967296 : Int) = 2 ^ (32 - k) * 2 ^ k := by
    rw [← Int.pow_add, show 32 - k + k = 32 by omega]; decide
  have p := pow_pos2 k
  have q := pow_pos2 (32 - k)
  have hd : x / 2 ^ k < 2 ^ (32 - k) := Int.ediv_lt_of_lt_mul p (by rw [← e]; exact h1)
  have hd0 : 0 ≤ x / 2 ^ k := Int.ediv_nonneg h0 (by omega)
  have hm0 := Int.emod_nonneg x (show (2 : Int) ^ k ≠ 0 by omega)
  have hq := Int.mul_nonneg hm0 (show (0 : Int) ≤ 2 ^ (32 - k) by omega)
  generalize x / 2 ^ k = A at *
  generalize x % 2 ^ k = M at *
  rw [Go.u32_or _ _ hd0 (by omega) hq (by omega), toNat_mul_pow M _ hm0, Nat.or_comm, ← Nat.two_pow_add_eq_or_of_lt]
  · push_cast
    rw [Int.toNat_of_nonneg hm0, Int.toNat_of_nonneg hd0, Int.mul_comm, Int.add_comm]
  · have : ((A.toNat : Nat) : Int) < ((2 ^ (32 - k) : Nat) : Int) := by
      rw [Int.toNat_of_nonneg hd0]; push_cast; exact hd
    exact_mod_cast this

theorem rot_zero (x : Int) : rot x 0 = x := by simp [rot, Int.emod_one]

/-- One bit more. -/
theorem rot_succ (x : Int) (k : Nat) (hk : k < 32) : rot x k / 2 + rot x k % 2 * 2147483648 = rot x (k + 1) := by
  unfold rot
  have e1 : (2 : Int) ^ (32 - k) = 2 ^ (32 - (k + 1)) * 2 := by
    rw [show 32 - k = 32 - (k + 1) + 1 by omega, Int.pow_succ]
  have e2 : (2147483648 : Int) = 2 ^ k * 2 ^ (32 - (k + 1)) := by
    rw [← Int.pow_add, show k + (32 - (k + 1)) = 31 by omega]; decide
  have e3 : x / 2 ^ (k + 1) = x / 2 ^ k / 2 := by
    rw [Int.pow_succ, Int.ediv_ediv_of_nonneg (Int.le_of_lt (pow_pos2 k))]
  have e4 : x % 2 ^ (k + 1) = x % 2 ^ k + 2 ^ k * (x / 2 ^ k % 2) := by
    rw [Int.pow_succ]
    have p := pow_pos2 k
    have a1 := Int.mul_ediv_add_emod x (2 ^ k * 2)
    have a2 := Int.mul_ediv_add_emod x (2 ^ k)
    have a3 := Int.mul_ediv_add_emod (x / 2 ^ k) 2
    rw [Int.ediv_ediv_of_nonneg (Int.le_of_lt p)] at a3
    generalize x / (2 ^ k * 2) = Q at *
    generalize x / 2 ^ k = A at *
    rw [← a3, Int.mul_add, ← Int.mul_assoc] at a2
    omega
  rw [e1, e3, e4, e2]
  generalize x / 2 ^ k = A
  generalize x % 2 ^ k = M
  generalize (2 : Int) ^ (32 - (k + 1)) = T
  generalize (2 : Int) ^ k = U
  rw [← Int.mul_assoc, Int.add_mul M, show (A + M * T * 2) / 2 = A / 2 + M * T by omega, show (A + M * T * 2) % 2 = A % 2 by omega,
    show A % 2 * (U * T) = U * (A % 2) * T by rw [← Int.mul_assoc, Int.mul_comm (A % 2) U]]
  omega

theorem rot_32 (x : Int) (h0 : 0 ≤ x) (h1 : x < 4294967296) : rot x 32 = x := by
  unfold rot
  rw [show (2 : Int) ^ 32 = 4294967296 by decide, Int.ediv_eq_zero_of_lt h0 h1, Int.emod_eq_of_lt h0 h1]
  simp

theorem rot_add (x : Int) (a b : Nat) (h : a + b ≤ 32) : rot (rot x a) b = rot x (a + b) := by
  induction b with
  | zero => rw [rot_zero]; rfl
  | succ b ih => rw [← rot_succ _ b (by omega), ih (by omega), rot_succ _ _ (by omega)]; rfl

theorem rotate_bounds (x n : Int) (h0 : 0 ≤ x) (h1 : x < 4294967296) : 0 ≤ rotate x n ∧ rotate x n < 4294967296 :=
  rot_bounds x _ h0 h1 (by omega)

/-- Turned, and turned back. -/
theorem rotate_back (x n : Int) (h0 : 0 ≤ x) (h1 : x < 4294967296) : rotate (rotate x n) (0 - n) = x := by
  unfold rotate
  by_cases hz : n % 32 = 0
  · rw [show (n % 32).toNat = 0 by omega, show ((0 - n) % 32).toNat = 0 by omega, rot_zero, rot_zero]
  · rw [rot_add x _ _ (by omega), show (n % 32).toNat + ((0 - n) % 32).toNat = 32 by omega, rot_32 x h0 h1]

/-- A turned word is both shifts of it. -/
theorem rotate_shifts (x k : Int) (hk : 1 ≤ k) (hk2 : k ≤ 31) : rotate x k = right x k + left x (32 - k) := by
  unfold rotate right left
  rw [if_neg (by omega), if_neg (by omega), if_neg (by omega), if_neg (by omega), show (k % 32).toNat = k.toNat by omega, show (32 - k).toNat = 32 - k.toNat by omega,
    shl_split x _ (by omega)]
  rfl

theorem left_bounds (x n : Int) (h0 : 0 ≤ x) (h1 : x < 4294967296) : 0 ≤ left x n ∧ left x n < 4294967296 := by
  unfold left; split
  · exact ⟨h0, h1⟩
  · split <;> omega
theorem right_bounds (x n : Int) (h0 : 0 ≤ x) (h1 : x < 4294967296) : 0 ≤ right x n ∧ right x n < 4294967296 := by
  unfold right; split
  · exact ⟨h0, h1⟩
  · split
    · omega
    · exact ⟨Int.ediv_nonneg h0 (Int.le_of_lt (pow_pos2 _)), Int.lt_of_le_of_lt (Int.ediv_le_self _ h0) h1⟩

theorem left_succ (x : Int) (k : Nat) (hk : k ≤ 30) : 2 * left x k % 4294967296 = left x (k + 1 : Nat) := by
  unfold left
  rw [if_neg (show ¬ ((k + 1 : Nat) : Int) < 1 by omega), if_neg (show ¬ 31 < ((k + 1 : Nat) : Int) by omega), Int.toNat_natCast, Int.toNat_natCast]
  by_cases hz : k = 0
  · subst hz; simp; omega
  · rw [if_neg (by omega), if_neg (by omega), Int.pow_succ, ← Int.mul_assoc]
    generalize x * 2 ^ k = y
    omega
theorem right_succ (x : Int) (k : Nat) (hk : k ≤ 30) : right x k / 2 = right x (k + 1 : Nat) := by
  unfold right
  rw [if_neg (show ¬ ((k + 1 : Nat) : Int) < 1 by omega), if_neg (show ¬ 31 < ((k + 1 : Nat) : Int) by omega), Int.toNat_natCast, Int.toNat_natCast]
  by_cases hz : k = 0
  · subst hz; simp
  · rw [if_neg (by omega), if_neg (by omega), Int.pow_succ, Int.ediv_ediv_of_nonneg (Int.le_of_lt (pow_pos2 k))]

theorem or_add_nat (a b k : Nat) (h : b < 2 ^ k) : a * 2 ^ k ||| b = a * 2 ^ k + b := by
  rw [Nat.mul_comm, Nat.two_pow_add_eq_or_of_lt h]
/-- Bits that stand apart: joined, they are the sum. -/
theorem u32_or_add (a b : Int) (k : Nat) (h0 : 0 ≤ a) (hb0 : 0 ≤ b) (hb : b < 2 ^ k) (h : a * 2 ^ k + b < 4294967296) : Go.bits .or .u32 (a * 2 ^ k) b = a * 2 ^ k + b := by
  obtain ⟨A, rfl⟩ := Int.eq_ofNat_of_zero_le h0
  obtain ⟨B, rfl⟩ := Int.eq_ofNat_of_zero_le hb0
  have e : (A : Int) * 2 ^ k = ((A * 2 ^ k : Nat) : Int) := by push_cast; rfl
  have hB : B < 2 ^ k := by exact_mod_cast hb
  rw [e] at h ⊢
  rw [Go.u32_or_nat _ _ (by omega) (by omega), or_add_nat _ _ _ hB]
  push_cast; rfl
theorem u64_or_add (a b : Int) (k : Nat) (h0 : 0 ≤ a) (hb0 : 0 ≤ b) (hb : b < 2 ^ k) (h : a * 2 ^ k + b < 18446744073709551616) : Go.bits .or .u64 (a * 2 ^ k) b = a * 2 ^ k + b := by
  obtain ⟨A, rfl⟩ := Int.eq_ofNat_of_zero_le h0
  obtain ⟨B, rfl⟩ := Int.eq_ofNat_of_zero_le hb0
  have e : (A : Int) * 2 ^ k = ((A * 2 ^ k : Nat) : Int) := by push_cast; rfl
  have hB : B < 2 ^ k := by exact_mod_cast hb
  rw [e] at h ⊢
  rw [Go.u64_or_nat _ _ (by omega) (by omega), or_add_nat _ _ _ hB]
  push_cast; rfl
theorem get4_or (a b c d : Int) (a0 : 0 ≤ a) (a1 : a < 256) (b0 : 0 ≤ b) (b1 : b < 256) (c0 : 0 ≤ c) (c1 : c < 256) (d0 : 0 ≤ d) (d1 : d < 256) :
    Go.bits .or .u32 (Go.bits .or .u32 (Go.bits .or .u32 (a * 16777216) (b * 65536)) (c * 256)) d = get4 a b c d := by
  unfold get4
  have e1 := u32_or_add a (b * 65536) 24 a0 (by omega) (by omega) (by omega)
  rw [show (2 : Int) ^ 24 = 16777216 by decide] at e1
  rw [e1]
  have e2 := u32_or_add (a * 256 + b) (c * 256) 16 (by omega) (by omega) (by omega) (by omega)
  rw [show (2 : Int) ^ 16 = 65536 by decide, show (a * 256 + b) * 65536 = a * 16777216 + b * 65536 by omega] at e2
  rw [e2]
  have e3 := u32_or_add ((a * 256 + b) * 256 + c) d 8 (by omega) (by omega) (by omega) (by omega)
  rw [show (2 : Int) ^ 8 = 256 by decide, show ((a * 256 + b) * 256 + c) * 256 = a * 16777216 + b * 65536 + c * 256 by omega] at e3
  rw [e3]; omega
/-- One byte more. -/
theorem get_step (x c : Int) (h0 : 0 ≤ x) (h1 : x < 72057594037927936) (c0 : 0 ≤ c) (c1 : c < 256) : Go.bits .or .u64 (x * 256) c = x * 256 + c := by
  have e := u64_or_add x c 8 h0 c0 (by omega) (by omega)
  rw [show (2 : Int) ^ 8 = 256 by decide] at e
  exact e

theorem and31 (n : Int) : Go.bits .and .u64 (Go.IntKind.u64.wrap n) 31 = n % 32 := by
  rw [Go.IntKind.wrap_u64, Go.u64_and _ _ (by omega) (by omega) (by omega) (by omega), show (31 : Int).toNat = 2 ^ 5 - 1 by decide, Nat.and_two_pow_sub_one_eq_mod]
  omega

end Go.Proofs.YtomkidgmpbjgeaaGreatDoor.Wd
/-
  Arrays of integers by value: an element of one, its reading as an argument, and that reading given back behind a call.
  Conditions: the element's type is an integer type of one cell.
-/
set_option maxRecDepth 100000
namespace Go.Proofs.YtomkidgmpbjgeaaGreatDoor
open Go.ChangeShapes Go.WideShapes Go.ChangeAt Go.RowKit

theorem run_index_arr {P : Program} {t e : TypeId} {n : Nat} {q : IntKind} {f : TypeInfo} (h : P.underlying t = some (.array n e)) (he : P.underlying e = some (.int q)) (hi : P.info? e = some f) (hs : f.size = 1)
    (cs : Array Value) (k : IntKind) (i : Int) (v : Value) (i0 : 0 ≤ i) (i1 : i < n) (hv : cs[i.toNat]? = some v) (w : World) : (Instr.index t (.agg cs) (.int k i)).run P w = .ok v w := by
  simp [Instr.index, run_underlying h, asIntOf, i0, i1, part, isAgg, run_underlying he, sizeOf, typeInfo, hi, hs, hv, go_sem]

theorem run_eqItems_ints {P : Program} {e : TypeId} {q : IntKind} {f : TypeInfo} (d : Nat) (he : P.underlying e = some (.int q)) (hi : P.info? e = some f) (hs : f.size = 1) (w : World) (zs ys : List Int) :
    ∀ is : List Nat, (∀ i ∈ is, i < zs.length ∧ i < ys.length) → (Op.eqItems (d + 1) e 1 (zs.map (Value.int q)).toArray (ys.map (Value.int q)).toArray is).run P w = .ok (is.all fun i => zs.getD i 0 == ys.getD i 0) w
  | [], _ => by simp [Op.eqItems]
  | i :: is, h => by
    obtain ⟨h1, h2⟩ := h i (by simp)
    have ih := run_eqItems_ints d he hi hs w zs ys is fun j hj => h j (by simp [hj])
    have p1 : (part e (zs.map (Value.int q)).toArray (i * 1)).run P w = .ok (.int q (zs.getD i 0)) w := by
      simp [part, isAgg, run_underlying he, h1, go_sem]
    have p2 : (part e (ys.map (Value.int q)).toArray (i * 1)).run P w = .ok (.int q (ys.getD i 0)) w := by
      simp [part, isAgg, run_underlying he, h2, go_sem]
    simp only [Op.eqItems, Sem.run_bind, p1, p2, Result.andThen_ok, run_equalIn_int w d e q q _ _ he]
    by_cases hz : zs.getD i 0 = ys.getD i 0
    · rw [beq_iff_eq.2 hz]
      simp only [Bool.not_true, Bool.false_eq_true, if_false, List.all_cons, beq_iff_eq.2 hz, Bool.true_and]
      exact ih
    · rw [beq_eq_false_iff_ne.2 hz]
      simp only [Bool.not_false, if_true, List.all_cons, beq_eq_false_iff_ne.2 hz, Bool.false_and, Sem.run_pure]

/-- Two arrays of integers are compared number by number. -/
theorem run_equal_ints {P : Program} {t e : TypeId} {n : Nat} {q : IntKind} {f : TypeInfo} (h : P.underlying t = some (.array n e)) (he : P.underlying e = some (.int q)) (hi : P.info? e = some f) (hs : f.size = 1) (hc : P.cellsOf e = 1)
    (zs ys : List Int) (hz : zs.length = n) (hy : ys.length = n) (w : World) :
    (Op.equalIn 10000 t (.agg (zs.map (Value.int q)).toArray) (.agg (ys.map (Value.int q)).toArray)).run P w = .ok (decide (zs = ys)) w := by
  rw [run_equalIn_array w 9999 _ _ h hi, hc, run_eqItems_ints 9998 he hi hs w zs ys _ (fun i hi' => by simp at hi'; omega)]
  congr 1
  rw [Bool.eq_iff_iff, List.all_eq_true, decide_eq_true_iff]
  constructor
  · intro ha
    apply List.ext_getElem?
    intro i
    by_cases hi' : i < n
    · have := ha i (by simpa using hi')
      simp only [beq_iff_eq] at this
      rw [List.getElem?_eq_getElem (by omega), List.getElem?_eq_getElem (by omega)]
      simpa [List.getD, List.getElem?_eq_getElem (show i < zs.length by omega), List.getElem?_eq_getElem (show i < ys.length by omega)] using this
    · rw [List.getElem?_eq_none (by omega), List.getElem?_eq_none (by omega)]
  · rintro rfl i _
    simp

theorem list_of {α : Type} (n : Nat) {Q : Nat → α → Prop} (h : ∀ i, i < n → ∃ z, Q i z) : ∃ zs : List α, zs.length = n ∧ ∀ i, i < n → ∃ z, zs[i]? = some z ∧ Q i z := by
  induction n with
  | zero => exact ⟨[], rfl, fun i hi => by omega⟩
  | succ n ih =>
    obtain ⟨zs, hl, hz⟩ := ih fun i hi => h i (by omega)
    obtain ⟨z, hq⟩ := h n (by omega)
    refine ⟨zs ++ [z], by simp [hl], fun i hi => ?_⟩
    by_cases hi' : i < n
    · obtain ⟨y, e, hy⟩ := hz i hi'
      exact ⟨y, by rw [List.getElem?_append_left (by omega), e], hy⟩
    · obtain rfl : i = n := by omega
      exact ⟨z, by rw [List.getElem?_append_right (by omega)]; simp [hl], hq⟩

section
variable {H : Type} {enc : TypeId × Value → H} {P : Program} {w w' : World} {base : Nat} {spare : Nat → Bool} {held : Bool}

/-- The argument, opened: its numbers. -/
theorem open_arr_ints {r : Reach} {b0 n : Nat} {t e : TypeId} {q : IntKind} {v : Value} {d : DataW H} {p : List MemPlace} (ht : P.underlying t = some (.array n e)) (he : P.underlying e = some (.int q)) (hc : P.cellsOf e = 1) (hC : P.cellsOf t = n)
    (hv : Value.okWide P w r b0 t v) (h : DataW.Trod enc P w base spare held t v d p) :
    ∃ zs : List Int, zs.length = n ∧ v = .agg (zs.map (Value.int q)).toArray ∧ d = .agg (zs.map fun z => .lit (.int q z)) ∧ p = [] ∧ ∀ z ∈ zs, (Lit.int q z).wf = true := by
  have hv' : ∃ cs : Array Value, v = .agg cs := by
    simp only [Value.okWide, ht] at hv
    obtain ⟨cs, h1, _⟩ := hv
    exact ⟨cs, h1⟩
  obtain ⟨cs, rfl⟩ := hv'
  obtain ⟨fuel, hf⟩ := h
  obtain ⟨xs, m, _, hx, hl, hxl, hat⟩ := DataW.trod_array ht hf
  rw [hC] at hl
  rw [hc] at hat
  have hl' : cs.size = n := by simpa [Value.cells] using hl
  have hz : ∀ i (hi : i < n), ∃ z : Int, cs[i]? = some (.int q z) ∧ xs[i]? = some (.lit (.int q z), []) ∧ (Lit.int q z).wf = true := by
    intro i hi
    have h1 := hat i hi
    have e1 : List.take 1 (List.drop (i * 1) (Value.cells (.agg cs)).toList) = [cs[i]'(by omega)] := by
      simp only [Value.cells, Nat.mul_one]
      rw [List.drop_eq_getElem_cons (by simpa using (show i < cs.size by omega))]
      simp
    rw [e1] at h1
    have hxi : xs[i]? = some (xs[i]'(by omega)) := List.getElem?_eq_getElem (by omega)
    rw [hxi] at h1
    obtain ⟨a, ea, ex, wa⟩ := DataW.trod_int he h1
    refine ⟨a, ?_, ?_, wa⟩
    · rw [Array.getElem?_eq_getElem (by omega)]
      simpa using ea
    · rw [hxi, ex]
  obtain ⟨zs, hzl, hzs⟩ := list_of n hz
  have hcs : cs = (zs.map (Value.int q)).toArray := by
    apply Array.ext_getElem?
    intro i
    by_cases hi : i < n
    · obtain ⟨z, e1, e2, _⟩ := hzs i hi
      rw [e2, List.getElem?_toArray, List.getElem?_map, e1]
      rfl
    · rw [Array.getElem?_eq_none (by omega), Array.getElem?_eq_none (by simp; omega)]
  have hxs : xs = zs.map fun z => (DataW.lit (.int q z), []) := by
    apply List.ext_getElem?
    intro i
    by_cases hi : i < n
    · obtain ⟨z, e1, _, e3, _⟩ := hzs i hi
      rw [e3, List.getElem?_map, e1]
      rfl
    · rw [List.getElem?_eq_none (by omega), List.getElem?_eq_none (by simp; omega)]
  refine ⟨zs, hzl, by rw [hcs], ?_, ?_, ?_⟩
  · have := congrArg Prod.fst hx
    simp only at this
    rw [this, hxs]
    simp [Function.comp_def]
  · have := congrArg Prod.snd hx
    simp only at this
    rw [this, hxs]
    simp [List.flatMap_map]
  · intro z hz'
    obtain ⟨i, hi, e⟩ := List.mem_iff_getElem.1 hz'
    obtain ⟨z', e1, _, _, e4⟩ := hzs i (by omega)
    rw [List.getElem?_eq_getElem hi, e] at e1
    injection e1 with e1
    rw [e1]
    exact e4

/-- The argument, shut again, in whatever world. -/
theorem shut_arr_ints {n : Nat} {t e : TypeId} {q : IntKind} (ht : P.underlying t = some (.array n e)) (he : P.underlying e = some (.int q)) (hc : P.cellsOf e = 1) (hC : P.cellsOf t = n)
    {zs : List Int} (hl : zs.length = n) (hw : ∀ z ∈ zs, (Lit.int q z).wf = true) : DataW.Trod enc P w base spare held t (.agg (zs.map (Value.int q)).toArray) (.agg (zs.map fun z => .lit (.int q z))) [] := by
  refine ⟨2, ?_⟩
  have key : (List.range n).mapM (fun i => DataW.trod enc P w base spare held 1 e (List.take 1 (List.drop (i * 1) (Value.cells (.agg (zs.map (Value.int q)).toArray)).toList))) = some ((List.range n).map fun i => (DataW.lit (.int q (zs.getD i 0)), ([] : List MemPlace))) := by
    refine mapM_range_of n fun i hi => ?_
    have hi' : i < zs.length := by rw [hl]; exact hi
    have e1 : List.take 1 (List.drop (i * 1) (Value.cells (.agg (zs.map (Value.int q)).toArray)).toList) = [.int q zs[i]] := by
      simp only [Value.cells, Nat.mul_one]
      rw [List.drop_eq_getElem_cons (by simpa using hi')]
      simp
    rw [e1]
    simp [DataW.trod, he, hw _ (List.getElem_mem hi'), hi']
  have hzs : (List.range n).map (fun i => zs.getD i 0) = zs := by
    apply List.ext_getElem?
    intro i
    by_cases hi : i < n
    · simp [hi, hl]
    · rw [List.getElem?_eq_none (by simp; omega), List.getElem?_eq_none (by omega)]
  unfold DataW.trod
  rw [ht]
  simp only [hc, hC]
  rw [if_pos (by simp [Value.cells, hl]), key]
  simp only [Option.map_some, List.map_map, Function.comp_def, Option.some.injEq, Prod.mk.injEq, DataW.agg.injEq]
  refine ⟨?_, by simp [List.flatMap_map]⟩
  have := congrArg (List.map fun z => DataW.lit (H := H) (.int q z)) hzs
  rw [List.map_map] at this
  exact this
end
end Go.Proofs.YtomkidgmpbjgeaaGreatDoor
/-
  What each function of package word returns, and what it leaves of memory, for all arguments that its types let in.
  Conditions: the arguments lie in their types' ranges.
-/
set_option maxRecDepth 100000
namespace Go.Proofs.YtomkidgmpbjgeaaGreatDoor
open Go.ChangeShapes Go.WideShapes Go.ChangeAt Go.RowKit
set_option linter.unusedVariables false

theorem ret_int {k : IntKind} {a b : Int} (h : a = b) : Ending.returned (.int k a) = .returned (.int k b) := by rw [h]


theorem right_c (x n : Int) (h0 : 0 ≤ x) (h1 : x < 4294967296) (n0 : -9223372036854775808 ≤ n) (n1 : n ≤ 9223372036854775807) (w : World) :
    Calls Tryz.prog 108 #[.int .u32 x, .int .i64 n] w fun e w' => e = .returned (.int .u32 (Wd.right x n)) ∧ w = w' := by
  by_cases h : n < 1
  · have H := Lib.hid (Wd.right_low x n h)
    go_enter Tryz.func108, Tryz.ntmps108
    go_wp2
    go_ret
    exact ⟨ret_int H.out.symm, rfl⟩
  · have g : 0 ≤ n := by omega
    have H := Lib.hid (Wd.right_model x n h0 h1 (by omega))
    go_enter Tryz.func108, Tryz.ntmps108
    go_wp2
    go_ret
    exact ⟨ret_int H.out, rfl⟩

theorem rotate_c (x n : Int) (h0 : 0 ≤ x) (h1 : x < 4294967296) (n0 : -9223372036854775808 ≤ n) (n1 : n ≤ 9223372036854775807) (w : World) :
    Calls Tryz.prog 107 #[.int .u32 x, .int .i64 n] w fun e w' => e = .returned (.int .u32 (Wd.rotate x n)) ∧ w = w' := by
  have a := Wd.and31 n
  obtain ⟨k, hk⟩ : ∃ k : Int, n % 32 = k := ⟨_, rfl⟩
  rw [hk] at a
  have k0 : 0 ≤ k := by omega
  have k1 : k ≤ 31 := by omega
  have k2 : 0 ≤ 32 - k := by omega
  have H : Wd.rotate x n = bits .or .u32 (x / 2 ^ k.toNat) (x * 2 ^ (32 - k).toNat % 4294967296) := by
    unfold Wd.rotate
    rw [hk, show (32 - k).toNat = 32 - k.toNat by omega, Wd.rot_or x _ h0 h1 (by omega)]
  have H1 := Lib.hid H
  clear H hk
  go_enter Tryz.func107, Tryz.ntmps107
  go_wp2
  go_ret
  exact ⟨ret_int H1.out.symm, rfl⟩

def put4 (x : Int) : Array Value := #[.int .u8 (x / 16777216), .int .u8 (x / 65536 % 256), .int .u8 (x / 256 % 256), .int .u8 (x % 256)]
def put8 (x : Int) : Array Value := #[.int .u8 (x / 256 / 256 / 256 / 256 / 256 / 256 / 256), .int .u8 (x / 256 / 256 / 256 / 256 / 256 / 256 % 256), .int .u8 (x / 256 / 256 / 256 / 256 / 256 % 256),
  .int .u8 (x / 256 / 256 / 256 / 256 % 256), .int .u8 (x / 256 / 256 / 256 % 256), .int .u8 (x / 256 / 256 % 256), .int .u8 (x / 256 % 256), .int .u8 (x % 256)]
def get8 (a b c d a' b' c' d' : Int) : Int := ((((((a * 256 + b) * 256 + c) * 256 + d) * 256 + a') * 256 + b') * 256 + c') * 256 + d'

theorem put32_c (x : Int) (h0 : 0 ≤ x) (h1 : x < 4294967296) (w : World) :
    Calls Tryz.prog 91 #[.int .u32 x] w fun e w' => e = .returned (.agg (put4 x)) ∧ Below w.heap.size w w' ∧ Grown w w' := by
  go_enter Tryz.func91, Tryz.ntmps91
  go_wp2
  refine bodyPost_ret (v := .agg (put4 x)) (by simp [results, Tryz.results91, go_sem, put4]) rfl ⟨rfl, ?_, ?_⟩
  · go_grown
  · go_grown

theorem put64_c (x : Int) (h0 : 0 ≤ x) (h1 : x < 18446744073709551616) (w : World) :
    Calls Tryz.prog 66 #[.int .u64 x] w fun e w' => e = .returned (.agg (put8 x)) ∧ Below w.heap.size w w' ∧ Grown w w' := by
  go_enter Tryz.func66, Tryz.ntmps66
  go_wp2
  go_rounds 9
  refine bodyPost_ret (v := .agg (put8 x)) (by simp [results, Tryz.results66, go_sem, put8]) rfl ⟨rfl, ?_, ?_⟩
  · go_grown
  · go_grown

theorem get32_c (a b c d : Int) (a0 : 0 ≤ a) (a1 : a < 256) (b0 : 0 ≤ b) (b1 : b < 256) (c0 : 0 ≤ c) (c1 : c < 256) (d0 : 0 ≤ d) (d1 : d < 256) (w : World) :
    Calls Tryz.prog 102 #[.agg #[.int .u8 a, .int .u8 b, .int .u8 c, .int .u8 d]] w fun e w' => e = .returned (.int .u32 (Wd.get4 a b c d)) ∧ Below w.heap.size w w' ∧ Grown w w' := by
  have H := Lib.hid (Wd.get4_or a b c d a0 a1 b0 b1 c0 c1 d0 d1)
  go_enter Tryz.func102, Tryz.ntmps102
  go_wp2
  go_ret
  refine ⟨ret_int H.out, ?_, ?_⟩
  · go_grown
  · go_grown


theorem bits_c (X : Nat) (h1 : X < 18446744073709551616) (w : World) :
    Calls Tryz.prog 43 #[.int .u64 X] w fun e w' => e = .returned (.int .i64 (Wd.bitsL X : Nat)) ∧ w = w' := by
  have hb := Wd.bitsL_le X h1
  obtain ⟨B, hB⟩ : ∃ B, Wd.bitsL X = B := ⟨_, rfl⟩
  have HB := Lib.hid hB
  rw [hB] at hb ⊢
  clear hB
  go_enter Tryz.func43, Tryz.ntmps43
  go_wp2
  go_loop [0, 3] (fun x n => ∃ y k : Nat, y < 18446744073709551616 ∧ k ≤ 64 ∧ Hid (Wd.bitsL y + k = B) ∧ x = .int .u64 y ∧ n = .int .i64 k) (fun x _ => (intOf x).toNat)
  case atStart => exact ⟨X, 0, h1, by omega, HB, rfl, rfl⟩
  case round =>
    obtain ⟨y, k, hy, hk, HR, rfl, rfl⟩ := hrel
    by_cases hz : y = 0
    · subst hz
      go_wp2
      go_ret
      refine ⟨ret_int ?_, rfl⟩
      have := HR.out
      rw [Wd.bitsL_zero] at this
      omega
    · have h0 : ((y : Int) != 0) = true := by rw [bne_iff_ne]; omega
      have hle : Wd.bitsL y + k ≤ 64 := by rw [HR.out]; exact hb
      have hs := Wd.bitsL_step y (by omega)
      have hk1 : k ≤ 63 := by omega
      have hy0 : 0 < y := by omega
      have HS := Lib.hid hs
      clear hs hle hz
      go_wp2
      go_round
      case rel => exact ⟨y / 2, k + 1, by omega, by omega, by have := HR.out; rw [HS.out] at this; show _ = _; omega, by go_num, by go_num⟩
      case measure => simp [intOf]; omega

theorem bits_i (x : Int) (h0 : 0 ≤ x) (h1 : x < 18446744073709551616) (w : World) :
    Calls Tryz.prog 43 #[.int .u64 x] w fun e w' => e = .returned (.int .i64 (Wd.bitsL x.toNat : Nat)) ∧ w = w' := by
  obtain ⟨X, rfl⟩ := Int.eq_ofNat_of_zero_le h0
  rw [Int.toNat_natCast]
  exact bits_c X (by omega) w

end Go.Proofs.YtomkidgmpbjgeaaGreatDoor
/-
  What each function of the document's answers for layer 1 returns, and what it leaves of memory.
  Conditions: the arguments lie in their types' ranges.
-/
set_option maxRecDepth 100000
namespace Go.Proofs.YtomkidgmpbjgeaaGreatDoor
open Go.ChangeShapes Go.WideShapes Go.ChangeAt Go.RowKit
set_option linter.unusedVariables false


theorem rright_c (x n : Int) (h0 : 0 ≤ x) (h1 : x < 4294967296) (n0 : -9223372036854775808 ≤ n) (n1 : n ≤ 9223372036854775807) (w : World) :
    Calls Tryz.prog 57 #[.int .u32 x, .int .i64 n] w fun e w' => e = .returned (.int .u32 (Wd.right x n)) ∧ w = w' := by
  by_cases hh : 31 < n
  · have H := Lib.hid (Wd.right_high x n hh)
    go_enter Tryz.func57, Tryz.ntmps57
    go_wp2
    go_ret
    exact ⟨ret_int H.out.symm, rfl⟩
  · by_cases hl : n < 1
    · have H := Lib.hid (Wd.right_low x n hl)
      go_enter Tryz.func57, Tryz.ntmps57
      go_wp2
      go_rounds 1
      go_ret
      exact ⟨ret_int H.out.symm, rfl⟩
    · obtain ⟨m, rfl⟩ := Int.eq_ofNat_of_zero_le (show 0 ≤ n by omega)
      have m1 : m ≤ 31 := by omega
      clear hh hl
      go_enter Tryz.func57, Tryz.ntmps57
      go_wp2
      go_loop [0, 5] (fun v i => ∃ (k : Nat) (y : Int), k ≤ m ∧ 0 ≤ y ∧ y < 4294967296 ∧ Hid (y = Wd.right x k) ∧ i = .int .i64 k ∧ v = .int .u32 y) (fun _ i => m - (intOf i).toNat)
      case atStart => exact ⟨0, x, by omega, h0, h1, by show _ = _; rw [Wd.right_low x _ (by omega)], rfl, rfl⟩
      case round =>
        obtain ⟨k, y, hk, y0, y1, HY, rfl, rfl⟩ := hrel
        by_cases hlt : k < m
        · have hs := Wd.right_succ x k (by omega)
          rw [← HY.out] at hs
          have HS := Lib.hid hs
          clear hs
          go_wp2
          go_round
          case rel => exact ⟨k + 1, _, by omega, by omega, by omega, by show _ = _; rw [← HS.out], by go_num, rfl⟩
          case measure => simp [intOf]; omega
        · go_wp2
          go_ret
          obtain rfl : k = m := by omega
          exact ⟨ret_int HY.out, rfl⟩

theorem rrotate_c (x n : Int) (h0 : 0 ≤ x) (h1 : x < 4294967296) (n0 : -9223372036854775808 ≤ n) (n1 : n ≤ 9223372036854775807) (w : World) :
    Calls Tryz.prog 101 #[.int .u32 x, .int .i64 n] w fun e w' => e = .returned (.int .u32 (Wd.rotate x n)) ∧ w = w' := by
  obtain ⟨m, hm⟩ : ∃ m : Nat, (n % 32).toNat = m := ⟨_, rfl⟩
  have m1 : m < 32 := by omega
  have hr : Wd.rotate x n = Wd.rot x m := by unfold Wd.rotate; rw [hm]
  have HR := Lib.hid hr
  clear hr
  obtain ⟨t, ht⟩ : ∃ t : Int, n.tmod 32 = t := ⟨_, rfl⟩
  by_cases hneg : t < 0
  all_goals
    first
    | (have e : t + 32 = m := by
        have h2 := Int.tmod_eq_emod (a := n) (b := 32)
        rw [ht] at h2
        split at h2 <;> omega)
    | (have e : t = m := by
        have h2 := Int.tmod_eq_emod (a := n) (b := 32)
        rw [ht] at h2
        split at h2 <;> omega)
    clear hm
    go_enter Tryz.func101, Tryz.ntmps101
    go_wp2
    clear e ht
    go_loop [0, 5] (fun v i => ∃ (k : Nat) (y : Int), k ≤ m ∧ 0 ≤ y ∧ y < 4294967296 ∧ Hid (y = Wd.rot x k) ∧ i = .int .i64 k ∧ v = .int .u32 y) (fun _ i => m - (intOf i).toNat)
    case atStart => exact ⟨0, x, by omega, h0, h1, by show _ = _; rw [Wd.rot_zero], rfl, rfl⟩
    case round =>
      obtain ⟨k, y, hk, y0, y1, HY, rfl, rfl⟩ := hrel
      by_cases hlt : k < m
      · have hs := Wd.rot_succ x k (by omega)
        have b := Wd.rot_bounds x (k + 1) h0 h1 (by omega)
        rw [← HY.out] at hs
        have HS := Lib.hid hs
        rw [← hs] at b
        clear hs
        go_wp2
        go_round
        case rel => exact ⟨k + 1, _, by omega, b.1, b.2, by show _ = _; rw [← HS.out], by go_num, rfl⟩
        case measure => simp [intOf]; omega
      · go_wp2
        go_ret
        obtain rfl : k = m := by omega
        exact ⟨ret_int (HY.out.trans HR.out.symm), rfl⟩

theorem rput32_c (x : Int) (h0 : 0 ≤ x) (h1 : x < 4294967296) (w : World) :
    Calls Tryz.prog 78 #[.int .u32 x] w fun e w' => e = .returned (.agg (put4 x)) ∧ Below w.heap.size w w' ∧ Grown w w' := by
  go_enter Tryz.func78, Tryz.ntmps78
  go_wp2
  refine bodyPost_ret (v := .agg (put4 x)) (by simp [results, Tryz.results78, go_sem, put4]) rfl ⟨rfl, ?_, ?_⟩
  · go_grown
  · go_grown

theorem rput64_c (x : Int) (h0 : 0 ≤ x) (h1 : x < 18446744073709551616) (w : World) :
    Calls Tryz.prog 64 #[.int .u64 x] w fun e w' => e = .returned (.agg (put8 x)) ∧ Below w.heap.size w w' ∧ Grown w w' := by
  have HT := Lib.hid (show x / 256 / 256 / 256 / 256 / 256 / 256 / 256 % 256 = x / 256 / 256 / 256 / 256 / 256 / 256 / 256 by omega)
  go_enter Tryz.func64, Tryz.ntmps64
  go_wp2
  go_rounds 9
  refine bodyPost_ret (v := .agg (put8 x)) (by simp [results, Tryz.results64, go_sem, put8, HT.out]) rfl ⟨rfl, ?_, ?_⟩
  · go_grown
  · go_grown

theorem rget32_c (a b c d : Int) (a0 : 0 ≤ a) (a1 : a < 256) (b0 : 0 ≤ b) (b1 : b < 256) (c0 : 0 ≤ c) (c1 : c < 256) (d0 : 0 ≤ d) (d1 : d < 256) (w : World) :
    Calls Tryz.prog 92 #[.agg #[.int .u8 a, .int .u8 b, .int .u8 c, .int .u8 d]] w fun e w' => e = .returned (.int .u32 (Wd.get4 a b c d)) ∧ Below w.heap.size w w' ∧ Grown w w' := by
  go_enter Tryz.func92, Tryz.ntmps92
  go_wp2
  go_rounds 5
  go_ret
  refine ⟨rfl, ?_, ?_⟩
  · go_grown
  · go_grown


theorem rbits_c (X : Nat) (h1 : X < 18446744073709551616) (w : World) :
    Calls Tryz.prog 48 #[.int .u64 X] w fun e w' => e = .returned (.int .i64 (Wd.bitsL X : Nat)) ∧ w = w' := by
  have hb := Wd.bitsL_le X h1
  obtain ⟨B, hB⟩ : ∃ B, Wd.bitsL X = B := ⟨_, rfl⟩
  have HB := Lib.hid hB
  rw [hB] at hb ⊢
  clear hB
  go_enter Tryz.func48, Tryz.ntmps48
  go_wp2
  go_loop [0, 3] (fun x n => ∃ y k : Nat, y < 18446744073709551616 ∧ k ≤ 64 ∧ Hid (Wd.bitsL y + k = B) ∧ x = .int .u64 y ∧ n = .int .i64 k) (fun x _ => (intOf x).toNat)
  case atStart => exact ⟨X, 0, h1, by omega, HB, rfl, rfl⟩
  case round =>
    obtain ⟨y, k, hy, hk, HR, rfl, rfl⟩ := hrel
    by_cases hz : y = 0
    · subst hz
      go_wp2
      go_ret
      refine ⟨ret_int ?_, rfl⟩
      have := HR.out
      rw [Wd.bitsL_zero] at this
      omega
    · have hy0 : 0 < y := by omega
      have hle : Wd.bitsL y + k ≤ 64 := by rw [HR.out]; exact hb
      have hs := Wd.bitsL_step y (by omega)
      have hk1 : k ≤ 63 := by omega
      have HS := Lib.hid hs
      clear hs hle hz
      go_wp2
      go_round
      case rel => exact ⟨y / 2, k + 1, by omega, by omega, by have := HR.out; rw [HS.out] at this; show _ = _; omega, by go_num, by go_num⟩
      case measure => simp [intOf]; omega

theorem rbits_i (x : Int) (h0 : 0 ≤ x) (h1 : x < 18446744073709551616) (w : World) :
    Calls Tryz.prog 48 #[.int .u64 x] w fun e w' => e = .returned (.int .i64 (Wd.bitsL x.toNat : Nat)) ∧ w = w' := by
  obtain ⟨X, rfl⟩ := Int.eq_ofNat_of_zero_le h0
  rw [Int.toNat_natCast]
  exact rbits_c X (by omega) w

end Go.Proofs.YtomkidgmpbjgeaaGreatDoor
/-
  What the document's answers for layer 2 return, and that they leave memory as it was.
  Conditions: the arguments lie in their types' ranges; a message's length is small.
-/
set_option maxRecDepth 100000
namespace Go.Proofs.YtomkidgmpbjgeaaGreatDoor
open Go.ChangeShapes Go.WideShapes Go.ChangeAt Go.RowKit
set_option linter.unusedVariables false

def put8L (x : Int) : List Int := [x / 256 / 256 / 256 / 256 / 256 / 256 / 256, x / 256 / 256 / 256 / 256 / 256 / 256 % 256, x / 256 / 256 / 256 / 256 / 256 % 256, x / 256 / 256 / 256 / 256 % 256, x / 256 / 256 / 256 % 256, x / 256 / 256 % 256, x / 256 % 256, x % 256]
theorem info_u8' : (Tryz.prog.info? 5).map (fun i => (i.zero, i.size, i.bytes)) = some (some (.int .u8 0), 1, 1) := by kernel_rfl

theorem put8_list (x : Int) : put8 x = ((put8L x).map (Value.int .u8)).toArray := rfl
theorem arr_at (l : List Int) (j : Nat) (hj : j < l.length) : ((l.map (Value.int .u8)).toArray)[j]? = some (.int .u8 (l.getD j 0)) := by
  simp [hj]
theorem take_snoc (l : List Int) (j : Nat) (hj : j < l.length) : l.take j ++ [l.getD j 0] = l.take (j + 1) := by
  rw [List.take_succ_eq_append_getElem hj]; simp [hj]
def RetTail (w : World) (zs : List Int) (e : Ending) (w' : World) : Prop := ∃ A c, e = .returned (.tuple #[.slice A zs.length c, .bool true]) ∧ OwnI w' w.heap.size 5 .u8 (.slice A zs.length c) zs ∧ Below w.heap.size w w'

theorem zeros_snoc (l : List Int) (m : Nat) : l ++ 128 :: List.replicate m 0 ++ [0] = l ++ 128 :: List.replicate (m + 1) 0 := by
  rw [List.append_assoc, List.cons_append, ← List.replicate_succ']

def zer (r : Nat) : Nat := if r ≤ 55 then 55 - r else 119 - r
def tailL (rest : List Int) (n : Int) : List Int := rest ++ 128 :: List.replicate (zer rest.length) 0 ++ put8L (8 * n)
def padL (b : List Int) : List Int := b.take (b.length - b.length % 64) ++ tailL (b.drop (b.length - b.length % 64)) b.length
theorem tailL_len (rest : List Int) (n : Int) : (tailL rest n).length = rest.length + 1 + zer rest.length + 8 := by
  simp [tailL, put8L]; omega
theorem zer_le (r : Nat) : zer r ≤ 119 := by unfold zer; split <;> omega

set_option maxRecDepth 100000 in
set_option maxHeartbeats 1000000 in
theorem rtail_yes (A : Option Addr) (c r z : Nat) (rest : List Int) (n : Int) (w : World) (hr : Rd .u8 w w.heap.size A r rest) (n0 : 0 ≤ n) (n1 : n < 2305843009213693952) (hn : (r : Int) = n % 64)
    (hz : r + z = 55 ∨ r + z = 119) (hz2 : z < 64) :
    Calls Tryz.prog 77 #[.slice A r c, .int .u64 n] w (RetTail w (rest ++ 128 :: List.replicate z 0 ++ put8L (8 * n))) := by
  obtain ⟨ps, hps⟩ : ∃ ps, put8L (8 * n) = ps := ⟨_, rfl⟩
  obtain ⟨p0, p1, p2, p3, p4, p5, p6, p7, rfl⟩ : ∃ p0 p1 p2 p3 p4 p5 p6 p7, ps = [p0, p1, p2, p3, p4, p5, p6, p7] := ⟨_, _, _, _, _, _, _, _, hps.symm⟩
  have hput := fun W => rput64_c (8 * n) (by omega) (by omega) W
  rw [put8_list, hps] at hput
  rw [hps]
  have HP := Lib.hid hput
  clear hput hps
  have hps8 : [p0, p1, p2, p3, p4, p5, p6, p7].length = 8 := rfl
  have hrd := fun j (hj : j < 8) => arr_at [p0, p1, p2, p3, p4, p5, p6, p7] j hj
  obtain ⟨ps, hps⟩ : ∃ ps, [p0, p1, p2, p3, p4, p5, p6, p7] = ps := ⟨_, rfl⟩
  rw [hps] at hps8 ⊢
  have HPS := Lib.hid hps
  have HP8 := Lib.hid hps8
  clear hps hps8 hrd
  obtain ⟨i0, hi, hz0, hz1, hzb⟩ := info_parts info_u8'
  have r1 : r < 64 := by omega
  have t1 : ((r : Int) != n % 64) = false := by rw [hn]; simp
  have hl := hr.len
  have HL := Lib.hid hl
  have HZ := Lib.hid hz
  clear hn hl hz
  go_enter Tryz.func77, Tryz.ntmps77
  go_wp2_with (first
    | (at_builtin; refine wpList_append_ints _ rfl (.tmp 19) (.tmp 20) 26 rfl w.heap.size 5 i0 _ 1 .u8 Tryz.underlying26 hi hz0 hz1 hzb rfl _ [] rfl (own_empty w 5 .u8 (Nat.le_refl _)) w.heap.size A r c rest rfl (hr.alloc (Nat.le_refl _) _) (by simp [maxLen]; omega) (by simp; omega) (by simp) ?_; intro v1 w1 hown1 hg1 hat1; have hb1 : Below w.heap.size w w1 := (own_empty w 5 .u8 (Nat.le_refl _)).below_ ((Below.refl _ _).alloc (Nat.le_refl _) _) (by simp) hg1; simp only [List.nil_append] at hown1; clear hg1 hat1)
    | (at_builtin; refine wpList_append_ints _ rfl (.tmp 21) (.tmp 22) 26 rfl w.heap.size 5 i0 _ 1 .u8 Tryz.underlying26 hi hz0 hz1 hzb rfl _ rest rfl (hown1.alloc _) (w1.heap.size + 1) (some ⟨w1.heap.size, 0, none⟩) 1 1 [128] rfl (rd_one w1 5 .u8 128) (by rw [HL.out]; simp [maxLen]; omega) (by rw [HL.out]; omega) (by have := hb1.size; simp; omega) ?_; intro v2 w2 hown2 hg2 hat2; have hb2 : Below w.heap.size w w2 := (hown1.alloc _).below_ (hb1.alloc hb1.size _) (by have := hb1.size; simp; omega) hg2; clear hg2 hat2 hown1))
  go_loopw [6] (fun v wr => ∃ m : Nat, m ≤ z ∧ OwnI wr w.heap.size 5 .u8 v (rest ++ 128 :: List.replicate m 0) ∧ Below w.heap.size w wr) (fun v _ => r + 1 + z - lenV v)
  case atStart => exact ⟨0, by omega, hown2, hb2⟩
  case round =>
    clear hown2 hb2 hb1
    obtain ⟨m, hm, hown, hb⟩ := hrel
    obtain ⟨A1, c1, rfl, hl1, hl2⟩ := hown.form
    have e : (rest ++ 128 :: List.replicate m 0).length = r + 1 + m := by simp [HL.out]; omega
    rw [e] at hown hl1 ⊢
    have HE := Lib.hid e
    clear e
    have HO := Lib.hid hown
    clear hown
    by_cases hlt : m < z
    · have tb : (((r : Int) + 1 + (m : Int)) % 64 != 56) = true := by
        rw [bne_iff_ne]; rcases HZ.out with h | h <;> omega
      go_wp2_with (first
        | (at_builtin; refine wpList_append_ints _ rfl (.tmp 28) (.tmp 29) 26 rfl w.heap.size 5 i0 _ 1 .u8 Tryz.underlying26 hi hz0 hz1 hzb rfl _ (rest ++ 128 :: List.replicate m 0) rfl (HO.out.alloc _) (wr.heap.size + 1) (some ⟨wr.heap.size, 0, none⟩) 1 1 [0] rfl (rd_one wr 5 .u8 0) (by rw [HE.out]; simp [maxLen]; omega) (by rw [HE.out]; omega) (by have := hb.size; simp; omega) ?_; intro v3 w3 hown3 hg3 hat3; have hb3 : Below w.heap.size w w3 := (HO.out.alloc _).below_ (hb.alloc hb.size _) (by have := hb.size; simp; omega) hg3; rw [zeros_snoc] at hown3; clear hg3 hat3))
      go_roundw
      case rel => exact ⟨m + 1, by omega, hown3, hb3⟩
      case measure =>
        obtain ⟨A3, c3, rfl, _, _⟩ := hown3.form
        simp [lenV, HL.out]; omega
    · obtain rfl : m = z := by omega
      have tb : (((r : Int) + 1 + (m : Int)) % 64 != 56) = false := by
        rw [bne_eq_false_iff_eq]; rcases HZ.out with h | h <;> omega
      go_wp2_with (go_at_call 64; (with_reducible refine (HP.out _).mono ?_); rintro e w4 ⟨rfl, hb4, _⟩)
      have BK : Blk (w4.alloc (Obj.cells #[.int .u8 p0, .int .u8 p1, .int .u8 p2, .int .u8 p3, .int .u8 p4, .int .u8 p5, .int .u8 p6, .int .u8 p7] 95)) w4.heap.size 95 ((ps.map (Value.int .u8)).toArray) := by rw [← HPS.out]; exact Blk.new _ _ _
      have HO4 : OwnI (w4.alloc (Obj.cells #[.int .u8 p0, .int .u8 p1, .int .u8 p2, .int .u8 p3, .int .u8 p4, .int .u8 p5, .int .u8 p6, .int .u8 p7] 95)) w.heap.size 5 .u8 (.slice A1 (r + 1 + m) c1) (rest ++ 128 :: List.replicate m 0) := (HO.out.below hb4).alloc _
      have hb5 : Below w.heap.size w (w4.alloc (Obj.cells #[.int .u8 p0, .int .u8 p1, .int .u8 p2, .int .u8 p3, .int .u8 p4, .int .u8 p5, .int .u8 p6, .int .u8 p7] 95)) := by
        have h1 := hb.size
        have h2 := hb4.size
        exact (hb.trans (hb4.mono h1)).alloc (by omega) _
      have hgg : wr.heap.size ≤ w4.heap.size := hb4.size
      have HB4 := Lib.hid hb4
      clear hb4 hm hlt
      obtain ⟨g, hg⟩ : ∃ g, g = w4.heap.size := ⟨_, rfl⟩
      rw [← hg] at BK ⊢
      clear hg
      obtain ⟨base, hbase⟩ : ∃ base, base = w.heap.size := ⟨_, rfl⟩
      go_loopw [6, 8] (fun v i wq => ∃ j : Nat, j ≤ 8 ∧ i = .int .i64 j ∧ OwnI wq w.heap.size 5 .u8 v (rest ++ 128 :: List.replicate m 0 ++ ps.take j) ∧ Blk wq g 95 ((ps.map (Value.int .u8)).toArray) ∧ Below w.heap.size w wq) (fun _ i _ => 8 - (intOf i).toNat)
      case atStart => exact ⟨0, by omega, rfl, by simpa using HO4, BK, hb5⟩
      case round =>
        clear HO4 BK hb5
        obtain ⟨j, hj, rfl, hown, hblk, hbq⟩ := hrel
        have hlen : (rest ++ 128 :: List.replicate m 0 ++ ps.take j).length = r + 1 + m + j := by
          rw [List.length_append, HE.out, List.length_take, HP8.out]; omega
        have HLN := Lib.hid hlen
        clear hlen
        by_cases hlt : j < 8
        · obtain ⟨q, hq⟩ : ∃ q, ps.getD j 0 = q := ⟨_, rfl⟩
          have hc : wr.cell? ⟨g, j, none⟩ = some (.int .u8 q) := by rw [hblk.cell, ← hq]; exact arr_at ps j (by rw [HP8.out]; exact hlt)
          have hsn := take_snoc ps j (by rw [HP8.out]; exact hlt)
          rw [hq] at hsn
          have HSN := Lib.hid hsn
          have HBK := Lib.hid hblk
          have HOW := Lib.hid hown
          clear hq hsn hblk hown hbase
          go_wp2_with (first
            | (at_builtin; refine wpList_append_ints _ rfl (.tmp 38) (.tmp 42) 26 rfl w.heap.size 5 i0 _ 1 .u8 Tryz.underlying26 hi hz0 hz1 hzb rfl _ (rest ++ 128 :: List.replicate m 0 ++ ps.take j) rfl (HOW.out.alloc _) (wr.heap.size + 1) (some ⟨wr.heap.size, 0, none⟩) 1 1 [q] rfl (rd_one wr 5 .u8 q) (by rw [HLN.out]; simp [maxLen]; omega) (by rw [HLN.out]; omega) (by have := hbq.size; simp; omega) ?_; intro v6 w6 hown6 hg6 hat6; have hb6 : Below w.heap.size w w6 := (HOW.out.alloc _).below_ (hbq.alloc hbq.size _) (by have := hbq.size; simp; omega) hg6; have hk6 : Blk w6 g 95 ((ps.map (Value.int .u8)).toArray) := (HBK.out.alloc _).grown (HOW.out.alloc _) (by decide) hg6; rw [List.append_assoc, HSN.out] at hown6; clear hg6 hat6))
          go_roundw
          case rel => exact ⟨j + 1, by omega, by go_num, hown6, hk6, hb6⟩
          case measure => simp [intOf]; omega
        · obtain rfl : j = 8 := by omega
          rw [List.take_of_length_le (by rw [HP8.out]; exact Nat.le_refl _)] at hown
          obtain ⟨A7, c7, rfl, hl7, _⟩ := hown.form
          go_wp2
          go_ret2
          exact ⟨A7, c7, rfl, hown, hbq⟩

/-- How many noughts a rest of r bytes gets. -/
theorem rtail_c (A : Option Addr) (c r : Nat) (rest : List Int) (n : Int) (w : World) (hr : Rd .u8 w w.heap.size A r rest) (n0 : 0 ≤ n) (n1 : n < 2305843009213693952) (hn : (r : Int) = n % 64) :
    Calls Tryz.prog 77 #[.slice A r c, .int .u64 n] w (RetTail w (tailL rest n)) := by
  have h := rtail_yes A c r (zer r) rest n w hr n0 n1 hn (by unfold zer; split <;> omega) (by unfold zer; split <;> omega)
  have e : tailL rest n = rest ++ 128 :: List.replicate (zer r) 0 ++ put8L (8 * n) := by unfold tailL; rw [hr.len]
  rw [e]
  exact h

theorem rtail_no (A : Option Addr) (c r : Nat) (n : Int) (w : World) (hm : r ≤ 1000000) (n0 : 0 ≤ n) (n1 : n < 18446744073709551616) (hn : 2305843009213693952 ≤ n ∨ (r : Int) ≠ n % 64) :
    Calls Tryz.prog 77 #[.slice A r c, .int .u64 n] w fun e w' => e = .returned (.tuple #[.slice none 0 0, .bool false]) ∧ w = w' := by
  by_cases h : 2305843009213693952 ≤ n
  · have t : decide (2305843009213693952 ≤ n) = true := by simpa using h
    go_enter Tryz.func77, Tryz.ntmps77
    go_wp2
    go_ret2
    exact ⟨rfl, rfl⟩
  · have h3 : (r : Int) ≠ n % 64 := by rcases hn with h1 | h1; exact absurd h1 h; exact h1
    have t1 : ((r : Int) != n % 64) = true := by rw [bne_iff_ne]; exact h3
    clear hn h3
    go_enter Tryz.func77, Tryz.ntmps77
    go_wp2
    go_ret2
    exact ⟨rfl, rfl⟩


def RetB (w : World) (zs : List Int) (e : Ending) (w' : World) : Prop := ∃ A c, e = .returned (.slice A zs.length c) ∧ OwnI w' w.heap.size 5 .u8 (.slice A zs.length c) zs ∧ Below w.heap.size w w'

theorem rpad_c (A : Option Addr) (c L : Nat) (b : List Int) (w : World) (hr : Rd .u8 w w.heap.size A L b) (hc : L ≤ c) (hL : L ≤ 1000000) :
    Calls Tryz.prog 69 #[.slice A L c] w (RetB w (padL b)) := by
  obtain ⟨i0, hi, hz0, hz1, hzb⟩ := info_parts info_u8'
  obtain ⟨N, hN⟩ : ∃ N : Nat, N = L - L % 64 := ⟨_, rfl⟩
  have hN1 : (L : Int) - (L : Int) % 64 = (N : Int) := by omega
  have hN2 : N ≤ L := by omega
  have hN3 : L < N + 64 := by omega
  have hrest := hr.from_ hN2 hc
  have hhead := hr.upto hN2
  have hp : padL b = b.take N ++ tailL (b.drop N) L := by unfold padL; rw [hr.len, ← hN]
  rw [hp]
  have hl := hr.len
  have e1 : (b.take N).length = N := by rw [List.length_take, hl]; omega
  have e2 : (tailL (b.drop N) L).length ≤ L - N + 128 := by
    rw [tailL_len, List.length_drop, hl]
    have := zer_le (L - N)
    omega
  have e3 : ((L - N : Nat) : Int) = (L : Int) % 64 := by omega
  have HE1 := Lib.hid e1
  have HH := Lib.hid hhead
  have E3 := Lib.hid e3
  obtain ⟨tl, htl⟩ : ∃ tl, tailL (b.drop N) L = tl := ⟨_, rfl⟩
  have HTL := Lib.hid htl
  rw [htl] at e2 ⊢
  clear hN hp hl e1 e3 htl hhead hr
  rw [Nat.mul_one] at hrest
  by_cases hcN : c = N
  all_goals
    first | rw [if_pos hcN] at hrest | rw [if_neg hcN] at hrest
    have HR := Lib.hid hrest
    clear hrest
    go_enter Tryz.func69, Tryz.ntmps69
    go_wp2_with (first
      | (go_at_call 77; (with_reducible refine (rtail_c _ _ _ _ _ _ HR.out (by omega) (by omega) E3.out).mono ?_); rw [HTL.out]; rintro e w1 ⟨A1, c1, rfl, ho1, hb1⟩; have HO1 := Lib.hid ho1; clear ho1)
      | (at_builtin; refine wpList_append_ints _ rfl (.tmp 22) (.tmp 25) 26 rfl w.heap.size 5 i0 _ 1 .u8 Tryz.underlying26 hi hz0 hz1 hzb rfl _ [] rfl (own_empty w1 5 .u8 hb1.size) w.heap.size A N _ (b.take N) rfl ((HH.out.below hb1).alloc hb1.size _) (by simp [maxLen]; omega) (by simp; omega) (by have := hb1.size; simp; omega) ?_; intro v2 w2 hown2 hg2 hat2; have hb2 : Below w.heap.size w w2 := (own_empty w1 5 .u8 hb1.size).below_ (hb1.alloc hb1.size _) (by have := hb1.size; simp; omega) hg2; have hb12 : Below w1.heap.size w1 w2 := (own_empty w1 5 .u8 (Nat.le_refl _)).below_ ((Below.refl _ _).alloc (Nat.le_refl _) _) (by simp) hg2; simp only [List.nil_append] at hown2; clear hg2 hat2)
      | (at_builtin; refine wpList_append_ints _ rfl (.tmp 26) (.tmp 27) 26 rfl w.heap.size 5 i0 _ 1 .u8 Tryz.underlying26 hi hz0 hz1 hzb rfl _ (b.take N) rfl hown2 w1.heap.size A1 tl.length c1 tl rfl ((HO1.out.rd rfl).below hb12) (by rw [HE1.out]; simp [maxLen]; omega) (by rw [HE1.out]; omega) hb2.size ?_; intro v3 w3 hown3 hg3 hat3; have hb3 : Below w.heap.size w w3 := hown2.below_ hb2 hb2.size hg3; clear hg3 hat3))
    obtain ⟨A7, c7, rfl, _, _⟩ := hown3.form
    go_ret
    exact ⟨A7, c7, rfl, hown3, hb3⟩
theorem info_a64 : (Tryz.prog.info? 116).map (fun i => (i.zero, i.size, i.bytes)) = some (some (.agg (List.replicate 64 (Value.int .u8 0)).toArray), 64, 64) := by kernel_rfl

/-- The array while it is filled. -/
def fillL (x : List Int) (i : Nat) : List Int := x.take i ++ List.replicate (64 - i) 0
theorem fillL_len (x : List Int) (hx : x.length = 64) (i : Nat) (hi : i ≤ 64) : (fillL x i).length = 64 := by
  simp [fillL, hx]; omega
theorem fillL_full (x : List Int) (hx : x.length = 64) : fillL x 64 = x := by
  simp [fillL, List.take_of_length_le (show x.length ≤ 64 by omega)]
theorem fillL_set (x : List Int) (hx : x.length = 64) (i : Nat) (hi : i < 64) : (fillL x i).set i (x.getD i 0) = fillL x (i + 1) := by
  apply List.ext_getElem?
  intro j
  rw [List.getElem?_set]
  unfold fillL
  simp only [List.length_append, List.length_take, List.length_replicate, hx]
  by_cases h1 : i = j
  · subst h1
    rw [if_pos rfl, if_pos (by omega), List.getElem?_append_left (by simp [hx]; omega), List.getElem?_take, if_pos (by omega)]
    simp [hx, hi]
  · rw [if_neg h1]
    by_cases h2 : j < i
    · rw [List.getElem?_append_left (by simp [hx]; omega), List.getElem?_append_left (by simp [hx]; omega), List.getElem?_take, List.getElem?_take, if_pos h2, if_pos (by omega)]
    · rw [List.getElem?_append_right (by simp [hx]; omega), List.getElem?_append_right (by simp [hx]; omega)]
      simp only [List.length_take, hx, List.getElem?_replicate]
      by_cases h3 : j < 64
      · rw [if_pos (by omega), if_pos (by omega)]
      · rw [if_neg (by omega), if_neg (by omega)]

def RetCut (w : World) (zs : List Int) (q L : Nat) (bs : List (List Int)) (e : Ending) (w' : World) : Prop :=
  ∃ A1 c1 A2 c2, e = .returned (.tuple #[.slice A1 bs.length c1, .slice A2 (L - 64 * q) c2]) ∧ OwnA w' w.heap.size 116 64 .u8 (.slice A1 bs.length c1) bs ∧ Rd .u8 w w.heap.size A2 (L - 64 * q) (zs.drop (64 * q)) ∧ L - 64 * q ≤ c2 ∧ Below w.heap.size w w'

def cutN (zs : List Int) (q : Nat) : List (List Int) := (List.range q).map fun i => (zs.drop (64 * i)).take 64

set_option maxHeartbeats 1000000 in
set_option maxRecDepth 100000 in
theorem rcut_c (A : Option Addr) (c L : Nat) (zs : List Int) (w : World) (hr : Rd .u8 w w.heap.size A L zs) (hc : L ≤ c) (hL : L ≤ 1000000) :
    Calls Tryz.prog 68 #[.slice A L c] w (RetCut w zs (L / 64) L (cutN zs (L / 64))) := by
  obtain ⟨i0, hi, hz0, hz1, hzb⟩ := info_parts info_a64
  obtain ⟨q, hq⟩ : ∃ q, L / 64 = q := ⟨_, rfl⟩
  rw [hq]
  have hq1 : 64 * q ≤ L := by omega
  have hq2 : L < 64 * q + 64 := by omega
  have hlen := Lib.hid hr.len
  clear hq
  go_enter Tryz.func68, Tryz.ntmps68
  go_wp2
  go_loopw [4, 5] (fun v a wr => ∃ j : Nat, j ≤ q ∧ a = .int .i64 (64 * j : Nat) ∧ OwnA wr w.heap.size 116 64 .u8 v (cutN zs j) ∧ Below w.heap.size w wr) (fun _ a _ => L + 64 - (intOf a).toNat)
  case atStart => exact ⟨0, by omega, rfl, ownA_nil _ _ _ _ _, Below.refl _ _⟩
  case round =>
    obtain ⟨wo, rfl⟩ : ∃ wo, wo = wr := ⟨_, rfl⟩
    obtain ⟨j, hj, rfl, hown, hb⟩ := hrel
    by_cases hlt : j < q
    · obtain ⟨b0, off, rfl, hb0, hcell⟩ := hr.at_ (by omega)
      have HC := Lib.hid hcell
      have HOW := Lib.hid hown
      clear hown hr hcell
      have t1 : 64 * j + 64 ≤ L := by omega
      obtain ⟨x, hx⟩ : ∃ x, (zs.drop (64 * j)).take 64 = x := ⟨_, rfl⟩
      have hx64 : x.length = 64 := by rw [← hx, List.length_take, List.length_drop, hlen.out]; omega
      have hxat : ∀ i, i < 64 → zs.getD (64 * j + i) 0 = x.getD i 0 := by
        intro i hi
        rw [← hx]
        simp [hi]
      have HX := Lib.hid hx
      have HX64 := Lib.hid hx64
      have HXA := Lib.hid hxat
      clear hx hx64 hxat
      have hwr := hb.size
      go_wp2
      obtain ⟨W1, hW1⟩ : ∃ W1, wo.alloc (Obj.cells ((fillL x 0).map (Value.int .u8)).toArray 116) = W1 := ⟨_, rfl⟩
      have hBK : Blk W1 wo.heap.size 116 ((fillL x 0).map (Value.int .u8)).toArray := by rw [← hW1]; exact Blk.new _ _ _
      have hB1 : Below wo.heap.size wo W1 := by rw [← hW1]; exact (Below.refl _ _).alloc (Nat.le_refl _) _
      have hlit : wo.alloc (Obj.cells ((fillL x 0).map (Value.int .u8)).toArray 116) = wo.alloc (Obj.cells #[.int .u8 0, .int .u8 0, .int .u8 0, .int .u8 0, .int .u8 0, .int .u8 0, .int .u8 0, .int .u8 0, .int .u8 0, .int .u8 0, .int .u8 0, .int .u8 0, .int .u8 0, .int .u8 0, .int .u8 0, .int .u8 0, .int .u8 0, .int .u8 0, .int .u8 0, .int .u8 0, .int .u8 0, .int .u8 0, .int .u8 0, .int .u8 0, .int .u8 0, .int .u8 0, .int .u8 0, .int .u8 0, .int .u8 0, .int .u8 0, .int .u8 0, .int .u8 0, .int .u8 0, .int .u8 0, .int .u8 0, .int .u8 0, .int .u8 0, .int .u8 0, .int .u8 0, .int .u8 0, .int .u8 0, .int .u8 0, .int .u8 0, .int .u8 0, .int .u8 0, .int .u8 0, .int .u8 0, .int .u8 0, .int .u8 0, .int .u8 0, .int .u8 0, .int .u8 0, .int .u8 0, .int .u8 0, .int .u8 0, .int .u8 0, .int .u8 0, .int .u8 0, .int .u8 0, .int .u8 0, .int .u8 0, .int .u8 0, .int .u8 0, .int .u8 0] 116) := by
        simp [fillL]
      rw [← hlit, hW1]
      clear hlit hW1
      go_loopw [7] (fun a wq => ∃ i : Nat, i ≤ 64 ∧ a = .int .i64 i ∧ Blk wq wo.heap.size 116 ((fillL x i).map (Value.int .u8)).toArray ∧ Below wo.heap.size wo wq) (fun a _ => 64 - (intOf a).toNat)
      case atStart => exact ⟨0, by omega, rfl, hBK, hB1⟩
      case round =>
        clear hBK hB1
        obtain ⟨i, hi64, rfl, hblk, hbq⟩ := hrel
        by_cases hil : i < 64
        · obtain ⟨y, hy⟩ : ∃ y, x.getD i 0 = y := ⟨_, rfl⟩
          have hc1 : wr.cell? ⟨b0, off + (64 * j + i), none⟩ = some (.int .u8 y) := by
            rw [hbq.cell (p := ⟨b0, off + (64 * j + i), none⟩) (by show b0 < _; omega), hb.cell (p := ⟨b0, off + (64 * j + i), none⟩) hb0, HC.out _ (by omega), HXA.out i hil, hy]
          have hc2 : ∃ u, wr.cell? ⟨wo.heap.size, i, none⟩ = some u := by
            rw [hblk.cell]
            exact ⟨_, Array.getElem?_eq_getElem (by simp [fillL_len x HX64.out i hi64]; exact hil)⟩
          obtain ⟨u, hc2⟩ := hc2
          have hf2 := hblk.frozen i
          have hset := fillL_set x HX64.out i hil
          rw [hy] at hset
          have hblk2 : Blk (wr.setCell ⟨wo.heap.size, i, none⟩ (.int .u8 y)) wo.heap.size 116 ((fillL x (i + 1)).map (Value.int .u8)).toArray := by
            have h1 := hblk.set_ i (.int .u8 y)
            rw [← hset, List.map_set]
            simpa using h1
          have hbq2 : Below wo.heap.size wo (wr.setCell ⟨wo.heap.size, i, none⟩ (.int .u8 y)) := hbq.setCell (p := ⟨wo.heap.size, i, none⟩) (Nat.le_refl _) _
          have HK2 := Lib.hid hblk2
          have HQ2 := Lib.hid hbq2
          clear hblk hbq hset hblk2 hbq2 hy
          go_wp2
          go_roundw
          case rel => exact ⟨i + 1, by omega, by go_num, HK2.out, HQ2.out⟩
          case measure => simp [intOf]; omega
        · obtain rfl : i = 64 := by omega
          rw [fillL_full x HX64.out] at hblk
          have hrng := hblk.range
          have hsz : (Tryz.prog.info? 116).map (·.size) = some (x.map (Value.int .u8)).length := by rw [hi]; simp [hz1, HX64.out]
          have HB := Lib.hid hblk
          have HQ := Lib.hid hbq
          have HR := Lib.hid hrng
          have HS := Lib.hid hsz
          clear hblk hbq hrng hsz
          have hxsz : (x.map (Value.int .u8)).toArray.size = 64 := by simp [HX64.out]
          have hnews : ∀ (W : World) j u, (x.map (Value.int .u8))[j]? = some u → (W.alloc (.cells (x.map (Value.int .u8)).toArray 116)).cell? ((⟨W.heap.size, 0, none⟩ : Addr).add j) = some u := by
            intro W j u hu
            rw [add_flat, Nat.zero_add, (Blk.new W 116 (x.map (Value.int .u8)).toArray).cell]
            simpa using hu
          have hnl : (x.map (Value.int .u8)).length = 1 * 64 := by simp [HX64.out]
          have hcl : (cutN zs j).length = j := by simp [cutN]
          have HN := Lib.hid hnews
          have HNL := Lib.hid hnl
          have HCL := Lib.hid hcl
          have HXS := Lib.hid hxsz
          have HO1 := Lib.hid (ints_one .u8 x)
          clear hnews hnl hcl hxsz
          obtain ⟨xs, hxs⟩ : ∃ xs, x.map (Value.int .u8) = xs := ⟨_, rfl⟩
          rw [hxs] at HN HNL HXS HO1 HR HS
          have HXX := Lib.hid hxs
          clear hxs
          go_wp2_with (first
            | (with_reducible refine wpList_load_mid rfl 116 (.tmp 6) rfl wo.heap.size 0 rfl xs _ HR.out Tryz.underlying116 rfl HS.out ?_)
            | (with_reducible refine wpList_build_one rfl 99 116 (.tmp 26) rfl i0 _ Tryz.underlying99 hi hz0 64 hz1 (by decide) (by decide) xs.toArray rfl HXS.out ?_)
            | (at_builtin; refine wpList_append_own_at _ rfl (.tmp 25) (.tmp 27) 99 rfl w.heap.size 116 i0 _ 64 64 Tryz.underlying99 hi hz0 hz1 hzb rfl (by decide) u4 _ _ rfl ((HOW.out.below HQ.out).alloc _).1 ⟨wr.heap.size, 0, none⟩ 1 1 xs rfl HNL.out (HN.out wr) HO1.out (by rw [HCL.out]; simp [maxLen]; omega) (by rw [HCL.out]; omega) (by have := HQ.out.size; simp; omega) ?_; intro v2 w2 hown2 hg2 _ _; have hbz : Below w.heap.size w w2 := ((HOW.out.below HQ.out).alloc _).below_ ((hb.trans (HQ.out.mono hwr)).alloc (by have := HQ.out.size; omega) _) (by have := HQ.out.size; simp; omega) hg2; clear hg2))
          rw [← HXX.out] at hown2
          have hown3 := ((HOW.out.below HQ.out).alloc (.cells xs.toArray 116)).more HX64.out hown2
          rw [show cutN zs j ++ [x] = cutN zs (j + 1) by unfold cutN; rw [List.range_succ, List.map_append, ← HX.out]; rfl] at hown3
          go_roundw
          case rel => exact ⟨j + 1, by omega, by go_num, hown3, hbz⟩
          case measure => simp [intOf]; omega
    · obtain rfl : j = q := by omega
      obtain ⟨A1, c1, rfl, _, _⟩ := hown.form
      have HOW := Lib.hid hown
      have HR := Lib.hid hr
      clear hown hr
      have hfr := HR.out.from_ hq1 hc
      rw [Nat.mul_one] at hfr
      by_cases hcq : c = 64 * j
      all_goals
        first | rw [if_pos hcq] at hfr | rw [if_neg hcq] at hfr
        have HF := Lib.hid hfr
        clear hfr
        go_wp2
        go_region
        go_wp2
        go_ret2
        exact ⟨A1, c1, _, _, rfl, HOW.out, HF.out, by omega, hb.drew⟩


end Go.Proofs.YtomkidgmpbjgeaaGreatDoor
/-
  The plan of a block as a list of numbers: the two mixes, the words, what is read and what is written on the way; undone again.
  Conditions: those that each theorem names.
-/
set_option maxRecDepth 100000
namespace Go.Proofs.YtomkidgmpbjgeaaGreatDoor
open Go.ChangeShapes Go.WideShapes Go.ChangeAt Go.RowKit

def mix1 (x : Int) : Int := bits .xor .u32 (bits .xor .u32 (Wd.rotate x 7) (Wd.rotate x 18)) (Wd.right x 3)
def mix2 (x : Int) : Int := bits .xor .u32 (bits .xor .u32 (Wd.rotate x 17) (Wd.rotate x 19)) (Wd.right x 10)
theorem bits_u32_in (op : BinOp) (a b : Int) : 0 ≤ bits op .u32 a b ∧ bits op .u32 a b < 4294967296 := by
  unfold bits
  rw [IntKind.wrap_u32]
  omega
theorem mix1_in (x : Int) : 0 ≤ mix1 x ∧ mix1 x < 4294967296 := bits_u32_in _ _ _
theorem mix2_in (x : Int) : 0 ≤ mix2 x ∧ mix2 x < 4294967296 := bits_u32_in _ _ _

def word4 (b : List Int) (i : Nat) : Int := Wd.get4 (b.getD (4 * i) 0) (b.getD (4 * i + 1) 0) (b.getD (4 * i + 2) 0) (b.getD (4 * i + 3) 0)
def nextW (l : List Int) (n : Nat) : Int := (mix2 (l.getD (n - 2) 0) + l.getD (n - 7) 0 + mix1 (l.getD (n - 15) 0) + l.getD (n - 16) 0) % 4294967296
/-- The first n words of a block's plan. -/
def planTo (b : List Int) : Nat → List Int
  | 0 => []
  | n + 1 => planTo b n ++ [if n < 16 then word4 b n else nextW (planTo b n) n]
def planL (b : List Int) : List Int := planTo b 64
theorem planTo_len (b : List Int) (n : Nat) : (planTo b n).length = n := by
  induction n with
  | zero => rfl
  | succ n ih => simp [planTo, ih]
/-- What lies in memory when n words are there. -/
def planF (b : List Int) (n : Nat) : List Int := planTo b n ++ List.replicate (64 - n) 0
theorem planF_len (b : List Int) (n : Nat) (hn : n ≤ 64) : (planF b n).length = 64 := by simp [planF, planTo_len]; omega
theorem planF_zero (b : List Int) : planF b 0 = List.replicate 64 0 := by simp [planF, planTo]
theorem planF_full (b : List Int) : planF b 64 = planL b := by simp [planF, planL]
theorem planF_set (b : List Int) (n : Nat) (hn : n < 64) (v : Int) (hv : v = if n < 16 then word4 b n else nextW (planTo b n) n) : (planF b n).set n v = planF b (n + 1) := by
  unfold planF
  rw [List.set_append_right _ _ (by rw [planTo_len]; exact Nat.le_refl _), planTo_len, Nat.sub_self, show 64 - n = (64 - (n + 1)) + 1 by omega, List.replicate_succ, List.set_cons_zero, planTo, ← hv, List.append_assoc]
  rfl
theorem planF_at (b : List Int) (n j : Nat) (hj : j < n) : (planF b n).getD j 0 = (planTo b n).getD j 0 := by
  unfold planF
  rw [List.getD_eq_getElem?_getD, List.getElem?_append_left (by rw [planTo_len]; exact hj), ← List.getD_eq_getElem?_getD]
theorem planTo_in (b : List Int) (hb : ∀ z ∈ b, 0 ≤ z ∧ z < 256) (n : Nat) : ∀ z ∈ planTo b n, 0 ≤ z ∧ z < 4294967296 := by
  have hg : ∀ j, 0 ≤ b.getD j 0 ∧ b.getD j 0 < 256 := by
    intro j
    rcases Nat.lt_or_ge j b.length with h | h
    · simp [h]; exact hb _ (List.getElem_mem h)
    · simp [h]
  induction n with
  | zero => intro z hz; cases hz
  | succ n ih =>
    intro z hz
    rw [planTo, List.mem_append, List.mem_singleton] at hz
    rcases hz with hz | hz
    · exact ih z hz
    · subst hz
      split
      · unfold word4 Wd.get4
        have h0 := hg (4 * n); have h1 := hg (4 * n + 1); have h2 := hg (4 * n + 2); have h3 := hg (4 * n + 3)
        omega
      · unfold nextW
        omega

/-! ### the block of sixteen words -/
def put4L (x : Int) : List Int := [x / 16777216, x / 65536 % 256, x / 256 % 256, x % 256]
/-- The bytes of the first i words. -/
def backTo (l : List Int) : Nat → List Int
  | 0 => []
  | i + 1 => backTo l i ++ put4L (l.getD i 0)
def backL (l : List Int) : List Int := backTo l 16
theorem backTo_len (l : List Int) (i : Nat) : (backTo l i).length = 4 * i := by
  induction i with
  | zero => rfl
  | succ i ih => rw [backTo, List.length_append, ih]; simp [put4L]; omega
/-- What lies in memory when i words and k bytes are there. -/
def backF (l : List Int) (i k : Nat) : List Int := backTo l i ++ ((put4L (l.getD i 0)).take k ++ List.replicate (64 - (4 * i + k)) 0)
theorem backF_len (l : List Int) (i k : Nat) (hk : k ≤ 4) (h : 4 * i + k ≤ 64) : (backF l i k).length = 64 := by
  simp [backF, backTo_len, put4L]; omega
theorem backF_zero (l : List Int) : backF l 0 0 = List.replicate 64 0 := by simp [backF, backTo]
theorem backF_next (l : List Int) (i : Nat) : backF l i 4 = backF l (i + 1) 0 := by
  unfold backF
  rw [backTo, List.take_of_length_le (by simp [put4L]), List.take_zero, List.nil_append, List.append_assoc]
  rfl
theorem backF_full (l : List Int) : backF l 16 0 = backL l := by simp [backF, backL]
theorem backF_set (l : List Int) (i k : Nat) (hk : k < 4) (h : i < 16) : (backF l i k).set (4 * i + k) ((put4L (l.getD i 0)).getD k 0) = backF l i (k + 1) := by
  have hp : (put4L (l.getD i 0)).length = 4 := rfl
  obtain ⟨p, hpe⟩ : ∃ p, put4L (l.getD i 0) = p := ⟨_, rfl⟩
  unfold backF
  rw [hpe] at hp ⊢
  rw [List.set_append_right _ _ (by rw [backTo_len]; omega), backTo_len, show 4 * i + k - 4 * i = k by omega, List.set_append_right _ _ (by rw [List.length_take]; omega),
    List.length_take, show k - min k p.length = 0 by omega, show 64 - (4 * i + k) = (64 - (4 * i + (k + 1))) + 1 by omega, List.replicate_succ, List.set_cons_zero,
    List.take_succ_eq_append_getElem (by omega), List.append_assoc (p.take k)]
  congr 2
  simp [show k < p.length by omega]
end Go.Proofs.YtomkidgmpbjgeaaGreatDoor
/-
  The words of a plan by their places; a block of its words, words of their block; a word of those behind it.
  Conditions: those that each theorem names.
-/
set_option maxRecDepth 100000
namespace Go.Proofs.YtomkidgmpbjgeaaGreatDoor
open Go.ChangeShapes Go.WideShapes Go.ChangeAt Go.RowKit

theorem planTo_at (b : List Int) (n j : Nat) (hj : j < n) : (planTo b n).getD j 0 = if j < 16 then word4 b j else nextW (planTo b j) j := by
  induction n with
  | zero => omega
  | succ n ih =>
    rw [planTo, List.getD_eq_getElem?_getD]
    rcases Nat.lt_or_ge j n with h | h
    · rw [List.getElem?_append_left (by rw [planTo_len]; exact h), ← List.getD_eq_getElem?_getD, ih h]
    · obtain rfl : j = n := by omega
      rw [List.getElem?_append_right (by rw [planTo_len]; exact Nat.le_refl _), planTo_len, Nat.sub_self]
      rfl
/-- Word j of a block's plan. -/
def pw (b : List Int) (j : Nat) : Int := (planL b).getD j 0
theorem planTo_pw (b : List Int) (n j : Nat) (hj : j < n) (hn : n ≤ 64) : (planTo b n).getD j 0 = pw b j := by
  unfold pw planL
  rw [planTo_at b n j hj, planTo_at b 64 j (by omega)]
theorem pw_low (b : List Int) (j : Nat) (hj : j < 16) : pw b j = word4 b j := by
  unfold pw planL
  rw [planTo_at b 64 j (by omega), if_pos hj]
theorem pw_high (b : List Int) (j : Nat) (h1 : 16 ≤ j) (h2 : j < 64) : pw b j = (mix2 (pw b (j - 2)) + pw b (j - 7) + mix1 (pw b (j - 15)) + pw b (j - 16)) % 4294967296 := by
  have h : pw b j = nextW (planTo b j) j := by
    unfold pw planL
    rw [planTo_at b 64 j h2, if_neg (by omega)]
  rw [h]
  unfold nextW
  rw [planTo_pw b j (j - 2) (by omega) (by omega), planTo_pw b j (j - 7) (by omega) (by omega), planTo_pw b j (j - 15) (by omega) (by omega), planTo_pw b j (j - 16) (by omega) (by omega)]
theorem planL_len (b : List Int) : (planL b).length = 64 := planTo_len b 64
theorem pw_in (b : List Int) (hb : ∀ z ∈ b, 0 ≤ z ∧ z < 256) (j : Nat) (hj : j < 64) : 0 ≤ pw b j ∧ pw b j < 4294967296 := by
  have h : j < (planL b).length := by rw [planL_len]; exact hj
  have := planTo_in b hb 64 _ (List.getElem_mem h)
  unfold pw
  simpa [h] using this
/-- A word of those behind it. -/
theorem pw_undo (b : List Int) (hb : ∀ z ∈ b, 0 ≤ z ∧ z < 256) (i : Nat) (hi : i < 48) : pw b i = (((pw b (i + 16) - mix2 (pw b (i + 14))) % 4294967296 - pw b (i + 9)) % 4294967296 - mix1 (pw b (i + 1))) % 4294967296 := by
  have h := pw_high b (i + 16) (by omega) (by omega)
  rw [show i + 16 - 2 = i + 14 by omega, show i + 16 - 7 = i + 9 by omega, show i + 16 - 15 = i + 1 by omega, show i + 16 - 16 = i by omega] at h
  have h1 := pw_in b hb i (by omega)
  have h2 := pw_in b hb (i + 16) (by omega)
  rw [h]
  omega

theorem byte_in (b : List Int) (hb : ∀ z ∈ b, 0 ≤ z ∧ z < 256) (j : Nat) : 0 ≤ b.getD j 0 ∧ b.getD j 0 < 256 := by
  rcases Nat.lt_or_ge j b.length with h | h
  · simp [h]; exact hb _ (List.getElem_mem h)
  · simp [h]
theorem put4L_word4 (b : List Int) (hb : ∀ z ∈ b, 0 ≤ z ∧ z < 256) (i : Nat) : put4L (word4 b i) = [b.getD (4 * i) 0, b.getD (4 * i + 1) 0, b.getD (4 * i + 2) 0, b.getD (4 * i + 3) 0] := by
  have h0 := byte_in b hb (4 * i)
  have h1 := byte_in b hb (4 * i + 1)
  have h2 := byte_in b hb (4 * i + 2)
  have h3 := byte_in b hb (4 * i + 3)
  unfold word4
  obtain ⟨a0, e0⟩ : ∃ a, b.getD (4 * i) 0 = a := ⟨_, rfl⟩
  obtain ⟨a1, e1⟩ : ∃ a, b.getD (4 * i + 1) 0 = a := ⟨_, rfl⟩
  obtain ⟨a2, e2⟩ : ∃ a, b.getD (4 * i + 2) 0 = a := ⟨_, rfl⟩
  obtain ⟨a3, e3⟩ : ∃ a, b.getD (4 * i + 3) 0 = a := ⟨_, rfl⟩
  rw [e0] at h0 ⊢
  rw [e1] at h1 ⊢
  rw [e2] at h2 ⊢
  rw [e3] at h3 ⊢
  unfold Wd.get4 put4L
  congr 1
  · omega
  · congr 1
    · omega
    · congr 1
      · omega
      · congr 1
        omega
/-- The block comes back of its words. -/
theorem backTo_words (b l : List Int) (hl : b.length = 64) (hb : ∀ z ∈ b, 0 ≤ z ∧ z < 256) (h : ∀ i, i < 16 → l.getD i 0 = word4 b i) (i : Nat) (hi : i ≤ 16) : backTo l i = b.take (4 * i) := by
  induction i with
  | zero => rfl
  | succ i ih =>
    rw [backTo, ih (by omega), h i (by omega), put4L_word4 b hb]
    have e : ∀ j, j < 64 → b.take j ++ [b.getD j 0] = b.take (j + 1) := by
      intro j hj
      rw [List.take_succ_eq_append_getElem (by omega)]
      simp [show j < b.length by omega]
    rw [show 4 * (i + 1) = 4 * i + 1 + 1 + 1 + 1 by omega, ← e (4 * i + 1 + 1 + 1) (by omega), ← e (4 * i + 1 + 1) (by omega), ← e (4 * i + 1) (by omega), ← e (4 * i) (by omega)]
    simp
theorem backL_words (b l : List Int) (hl : b.length = 64) (hb : ∀ z ∈ b, 0 ≤ z ∧ z < 256) (h : ∀ i, i < 16 → l.getD i 0 = pw b i) : backL l = b := by
  unfold backL
  rw [backTo_words b l hl hb (fun i hi => by rw [h i hi, pw_low b i hi]) 16 (by omega), List.take_of_length_le (by omega)]
theorem backL_len (l : List Int) : (backL l).length = 64 := backTo_len l 16
theorem backTo_get (l : List Int) (n i k : Nat) (hi : i < n) (hk : k < 4) : (backTo l n).getD (4 * i + k) 0 = (put4L (l.getD i 0)).getD k 0 := by
  induction n with
  | zero => omega
  | succ n ih =>
    rw [backTo, List.getD_eq_getElem?_getD]
    rcases Nat.lt_or_ge i n with h | h
    · rw [List.getElem?_append_left (by rw [backTo_len]; omega), ← List.getD_eq_getElem?_getD, ih h]
    · obtain rfl : i = n := by omega
      rw [List.getElem?_append_right (by rw [backTo_len]; omega), backTo_len, show 4 * i + k - 4 * i = k by omega, ← List.getD_eq_getElem?_getD]
theorem word4_back (l : List Int) (hb : ∀ z ∈ l, 0 ≤ z ∧ z < 4294967296) (i : Nat) (hi : i < 16) (hl : i < l.length) : word4 (backL l) i = l.getD i 0 := by
  have hx : 0 ≤ l.getD i 0 ∧ l.getD i 0 < 4294967296 := by simp [hl]; exact hb _ (List.getElem_mem hl)
  have g0 := backTo_get l 16 i 0 hi (by omega)
  have g1 := backTo_get l 16 i 1 hi (by omega)
  have g2 := backTo_get l 16 i 2 hi (by omega)
  have g3 := backTo_get l 16 i 3 hi (by omega)
  unfold word4 backL
  rw [Nat.add_zero] at g0
  rw [g0, g1, g2, g3]
  obtain ⟨x, e⟩ : ∃ x, l.getD i 0 = x := ⟨_, rfl⟩
  rw [e] at hx ⊢
  unfold put4L Wd.get4
  simp
  omega
theorem put4L_in (x : Int) (h0 : 0 ≤ x) (h1 : x < 4294967296) : ∀ z ∈ put4L x, 0 ≤ z ∧ z < 256 := by
  intro z hz
  simp [put4L] at hz
  rcases hz with h | h | h | h <;> omega
theorem backTo_in (l : List Int) (hb : ∀ z ∈ l, 0 ≤ z ∧ z < 4294967296) (n : Nat) : ∀ z ∈ backTo l n, 0 ≤ z ∧ z < 256 := by
  induction n with
  | zero => intro z hz; cases hz
  | succ n ih =>
    intro z hz
    rw [backTo, List.mem_append] at hz
    rcases hz with h | h
    · exact ih z h
    · have hx : 0 ≤ l.getD n 0 ∧ l.getD n 0 < 4294967296 := by
        rcases Nat.lt_or_ge n l.length with h1 | h1
        · simp [h1]; exact hb _ (List.getElem_mem h1)
        · simp [h1]
      exact put4L_in _ hx.1 hx.2 z h

/-! ### the document's examples -/
theorem mix1_zero : mix1 0 = 0 := by kernel_rfl
theorem mix2_zero : mix2 0 = 0 := by kernel_rfl
theorem mix1_eight : mix1 8 = 268566529 := by kernel_rfl
theorem mix2_kilo : mix2 1024 = 41943041 := by kernel_rfl
theorem rep_getD (m n : Nat) : (List.replicate m (0 : Int)).getD n 0 = 0 := by
  rw [List.getD_eq_getElem?_getD, List.getElem?_replicate]
  split <;> rfl
theorem pw_nought (j : Nat) (hj : j < 64) : pw (List.replicate 64 0) j = 0 := by
  induction j using Nat.strongRecOn with
  | ind j ih =>
    rcases Nat.lt_or_ge j 16 with h | h
    · rw [pw_low _ _ h]
      unfold word4
      rw [rep_getD, rep_getD, rep_getD, rep_getD]
      rfl
    · rw [pw_high _ _ h hj, ih (j - 2) (by omega) (by omega), ih (j - 7) (by omega) (by omega), ih (j - 15) (by omega) (by omega), ih (j - 16) (by omega) (by omega), mix1_zero, mix2_zero]
      rfl
/-- Sixty-four noughts. -/
def Z64 : List Int := List.replicate 64 0
theorem Z64_len : Z64.length = 64 := by simp [Z64]
theorem Z64_in : ∀ z ∈ Z64, 0 ≤ z ∧ z < 256 := by
  intro z hz
  have := (List.mem_replicate.1 hz).2
  omega
def oneB : List Int := Z64.set 3 1
theorem pw_one (j : Nat) (h0 : 0 < j) (hj : j < 16) : pw oneB j = 0 := by
  rw [pw_low _ _ hj]
  have : ∀ j : Fin 16, 0 < j.val → word4 oneB j.val = 0 := by decide +kernel
  exact this ⟨j, hj⟩ h0
theorem pw_one0 : pw oneB 0 = 1 := by rw [pw_low _ _ (by omega)]; kernel_rfl
theorem pw_one16 : pw oneB 16 = 1 := by
  rw [pw_high _ _ (by omega) (by omega), pw_one (16 - 2) (by omega) (by omega), pw_one (16 - 7) (by omega) (by omega), pw_one (16 - 15) (by omega) (by omega), pw_one0, mix1_zero, mix2_zero]
  rfl
theorem pw_one17 : pw oneB 17 = 0 := by
  rw [pw_high _ _ (by omega) (by omega), pw_one (17 - 2) (by omega) (by omega), pw_one (17 - 7) (by omega) (by omega), pw_one (17 - 15) (by omega) (by omega), pw_one (17 - 16) (by omega) (by omega), mix1_zero, mix2_zero]
  rfl
theorem pw_one18 : pw oneB 18 = mix2 1 := by
  rw [pw_high _ _ (by omega) (by omega), pw_one16, pw_one (18 - 7) (by omega) (by omega), pw_one (18 - 15) (by omega) (by omega), pw_one (18 - 16) (by omega) (by omega), mix1_zero]
  have := mix2_in 1
  omega
end Go.Proofs.YtomkidgmpbjgeaaGreatDoor
/-
  A block taken into a state, as lists of numbers: the mixes, a round and a round undone, the constants.
  Conditions: those that each theorem names.
-/
set_option maxRecDepth 100000
namespace Go.Proofs.YtomkidgmpbjgeaaGreatDoor
open Go.ChangeShapes Go.WideShapes Go.ChangeAt Go.RowKit

def turn3 (x a b c : Int) : Int := bits .xor .u32 (bits .xor .u32 (Wd.rotate x a) (Wd.rotate x b)) (Wd.rotate x c)
def chW (e f g : Int) : Int := bits .or .u32 (bits .and .u32 e f) (bits .and .u32 (4294967295 - e) g)
def majW (a b c : Int) : Int := bits .or .u32 (bits .or .u32 (bits .and .u32 a b) (bits .and .u32 a c)) (bits .and .u32 b c)
theorem turn3_in (x a b c : Int) : 0 ≤ turn3 x a b c ∧ turn3 x a b c < 4294967296 := bits_u32_in _ _ _
theorem chW_in (e f g : Int) : 0 ≤ chW e f g ∧ chW e f g < 4294967296 := bits_u32_in _ _ _
theorem majW_in (a b c : Int) : 0 ≤ majW a b c ∧ majW a b c < 4294967296 := bits_u32_in _ _ _
def roundL (s : List Int) (w k : Int) : List Int :=
  let t := (s.getD 7 0 + turn3 (s.getD 4 0) 6 11 25 + chW (s.getD 4 0) (s.getD 5 0) (s.getD 6 0) + k + w) % 4294967296
  let u := (turn3 (s.getD 0 0) 2 13 22 + majW (s.getD 0 0) (s.getD 1 0) (s.getD 2 0)) % 4294967296
  [(t + u) % 4294967296, s.getD 0 0, s.getD 1 0, s.getD 2 0, (s.getD 3 0 + t) % 4294967296, s.getD 4 0, s.getD 5 0, s.getD 6 0]
def backR (s : List Int) (w k : Int) : List Int :=
  let t := (s.getD 0 0 - turn3 (s.getD 1 0) 2 13 22 - majW (s.getD 1 0) (s.getD 2 0) (s.getD 3 0)) % 4294967296
  [s.getD 1 0, s.getD 2 0, s.getD 3 0, (s.getD 4 0 - t) % 4294967296, s.getD 5 0, s.getD 6 0, s.getD 7 0, (t - turn3 (s.getD 5 0) 6 11 25 - chW (s.getD 5 0) (s.getD 6 0) (s.getD 7 0) - k - w) % 4294967296]
def startL : List Int := [1779033703, 3144134277, 1013904242, 2773480762, 1359893119, 2600822924, 528734635, 1541459225]
def constL : List Int := [1116352408, 1899447441, 3049323471, 3921009573, 961987163, 1508970993, 2453635748, 2870763221, 3624381080, 310598401, 607225278, 1426881987, 1925078388, 2162078206, 2614888103, 3248222580, 3835390401, 4022224774, 264347078, 604807628, 770255983, 1249150122, 1555081692, 1996064986, 2554220882, 2821834349, 2952996808, 3210313671, 3336571891, 3584528711, 113926993, 338241895, 666307205, 773529912, 1294757372, 1396182291, 1695183700, 1986661051, 2177026350, 2456956037, 2730485921, 2820302411, 3259730800, 3345764771, 3516065817, 3600352804, 4094571909, 275423344, 430227734, 506948616, 659060556, 883997877, 958139571, 1322822218, 1537002063, 1747873779, 1955562222, 2024104815, 2227730452, 2361852424, 2428436474, 2756734187, 3204031479, 3329325298]
def constN (i : Int) : Int := if 0 ≤ i ∧ i ≤ 63 then constL.getD i.toNat 0 else 0
theorem constL_len : constL.length = 64 := by kernel_rfl
theorem roundL_len (s : List Int) (w k : Int) : (roundL s w k).length = 8 := rfl
theorem backR_len (s : List Int) (w k : Int) : (backR s w k).length = 8 := rfl
def WIn (s : List Int) : Prop := ∀ z ∈ s, 0 ≤ z ∧ z < 4294967296
theorem WIn.at_ {s : List Int} (h : WIn s) (j : Nat) : 0 ≤ s.getD j 0 ∧ s.getD j 0 < 4294967296 := by
  rcases Nat.lt_or_ge j s.length with h1 | h1
  · simp [h1]; exact h _ (List.getElem_mem h1)
  · simp [h1]
theorem roundL_in (s : List Int) (hs : WIn s) (w k : Int) : WIn (roundL s w k) := by
  intro z hz
  simp only [roundL, List.mem_cons, List.not_mem_nil, or_false] at hz
  rcases hz with h | h | h | h | h | h | h | h <;> subst h <;> first | exact hs.at_ _ | omega
theorem backR_in (s : List Int) (hs : WIn s) (w k : Int) : WIn (backR s w k) := by
  intro z hz
  simp only [backR, List.mem_cons, List.not_mem_nil, or_false] at hz
  rcases hz with h | h | h | h | h | h | h | h <;> subst h <;> first | exact hs.at_ _ | omega
theorem list8 (s : List Int) (hl : s.length = 8) : s = [s.getD 0 0, s.getD 1 0, s.getD 2 0, s.getD 3 0, s.getD 4 0, s.getD 5 0, s.getD 6 0, s.getD 7 0] := by
  rcases s with _ | ⟨a, _ | ⟨b, _ | ⟨c, _ | ⟨d, _ | ⟨e, _ | ⟨f, _ | ⟨g, _ | ⟨h, _ | ⟨i, s⟩⟩⟩⟩⟩⟩⟩⟩⟩ <;> simp at hl <;> rfl
/-- A round comes back. -/
theorem back_round (s : List Int) (hl : s.length = 8) (hs : WIn s) (w k : Int) : backR (roundL s w k) w k = s := by
  have h3 := hs.at_ 3
  have h7 := hs.at_ 7
  conv => rhs; rw [list8 s hl]
  simp only [backR, roundL, List.getD_cons_zero, List.getD_cons_succ]
  congr 4
  · omega
  · congr 4
    omega
theorem round_back (s : List Int) (hl : s.length = 8) (hs : WIn s) (w k : Int) : roundL (backR s w k) w k = s := by
  have h0 := hs.at_ 0
  have h4 := hs.at_ 4
  conv => rhs; rw [list8 s hl]
  simp only [backR, roundL, List.getD_cons_zero, List.getD_cons_succ]
  congr 1
  · omega
  · congr 4
    omega
/-- The state when n rounds are done. -/
def rounds (s b : List Int) : Nat → List Int
  | 0 => s
  | n + 1 => roundL (rounds s b n) (pw b n) (constN n)
theorem rounds_len (s b : List Int) (hl : s.length = 8) (n : Nat) : (rounds s b n).length = 8 := by
  cases n with
  | zero => exact hl
  | succ n => rfl
theorem rounds_in (s b : List Int) (hs : WIn s) (n : Nat) : WIn (rounds s b n) := by
  induction n with
  | zero => exact hs
  | succ n ih => exact roundL_in _ ih _ _
/-- The sums, when n of them are done. -/
def sums (x s : List Int) : Nat → List Int
  | 0 => x
  | n + 1 => (sums x s n).set n ((x.getD n 0 + s.getD n 0) % 4294967296)
def takeL (s b : List Int) : List Int := sums (rounds s b 64) s 8
theorem sums_len (x s : List Int) (n : Nat) : (sums x s n).length = x.length := by
  induction n with
  | zero => rfl
  | succ n ih => rw [sums, List.length_set, ih]
theorem sums_at (x s : List Int) (n j : Nat) (hj : n ≤ j) : (sums x s n).getD j 0 = x.getD j 0 := by
  induction n with
  | zero => rfl
  | succ n ih =>
    rw [sums, List.getD_eq_getElem?_getD, List.getElem?_set, if_neg (by omega), ← List.getD_eq_getElem?_getD, ih (by omega)]
theorem sums_in (x s : List Int) (hx : WIn x) (n : Nat) : WIn (sums x s n) := by
  induction n with
  | zero => exact hx
  | succ n ih =>
    intro z hz
    rcases List.mem_or_eq_of_mem_set hz with h | h
    · exact ih z h
    · subst h; omega
end Go.Proofs.YtomkidgmpbjgeaaGreatDoor
/-
  Hashes as lists of numbers: blocks taken into a state, a state's bytes.
  Conditions: those that each theorem names.
-/
set_option maxRecDepth 100000
namespace Go.Proofs.YtomkidgmpbjgeaaGreatDoor
open Go.ChangeShapes Go.WideShapes Go.ChangeAt Go.RowKit
theorem takeL_len (s b : List Int) (hl : s.length = 8) : (takeL s b).length = 8 := by unfold takeL; rw [sums_len, rounds_len s b hl]
theorem takeL_in (s b : List Int) (hs : WIn s) : WIn (takeL s b) := sums_in _ _ (rounds_in s b hs 64) 8
def takesL (s : List Int) (bs : List (List Int)) : List Int := bs.foldl takeL s
theorem takesL_len (s : List Int) (bs : List (List Int)) (hl : s.length = 8) : (takesL s bs).length = 8 := by
  induction bs generalizing s with
  | nil => exact hl
  | cons b bs ih => exact ih _ (takeL_len s b hl)
theorem takesL_in (s : List Int) (bs : List (List Int)) (hs : WIn s) : WIn (takesL s bs) := by
  induction bs generalizing s with
  | nil => exact hs
  | cons b bs ih => exact ih _ (takeL_in s b hs)
theorem takesL_append (s : List Int) (bs cs : List (List Int)) : takesL s (bs ++ cs) = takesL (takesL s bs) cs := List.foldl_append ..
theorem takesL_next (s : List Int) (bs : List (List Int)) (i : Nat) (hi : i < bs.length) : takesL s (bs.take (i + 1)) = takeL (takesL s (bs.take i)) (bs.getD i []) := by
  rw [List.take_succ_eq_append_getElem hi, takesL_append]
  simp [takesL, hi]
theorem startL_len : startL.length = 8 := rfl
theorem startL_in : WIn startL := by unfold WIn; decide +kernel
/-! ### a state's bytes -/
def hashL (s : List Int) : List Int := backTo s 8
theorem hashL_len (s : List Int) : (hashL s).length = 32 := backTo_len s 8
theorem hashL_in (s : List Int) (hs : WIn s) : ∀ z ∈ hashL s, 0 ≤ z ∧ z < 256 := backTo_in s hs 8
def hashF (l : List Int) (i k : Nat) : List Int := backTo l i ++ ((put4L (l.getD i 0)).take k ++ List.replicate (32 - (4 * i + k)) 0)
theorem hashF_len (l : List Int) (i k : Nat) (hk : k ≤ 4) (h : 4 * i + k ≤ 32) : (hashF l i k).length = 32 := by
  simp [hashF, backTo_len, put4L]; omega
theorem hashF_zero (l : List Int) : hashF l 0 0 = List.replicate 32 0 := by simp [hashF, backTo]
theorem hashF_next (l : List Int) (i : Nat) : hashF l i 4 = hashF l (i + 1) 0 := by
  unfold hashF
  rw [List.take_of_length_le (by simp [put4L]), List.take_zero, List.nil_append, ← List.append_assoc]
  rfl
theorem hashF_full (l : List Int) : hashF l 8 0 = hashL l := by simp [hashF, hashL]
theorem hashF_set (l : List Int) (i k : Nat) (hk : k < 4) (h : i < 8) : (hashF l i k).set (4 * i + k) ((put4L (l.getD i 0)).getD k 0) = hashF l i (k + 1) := by
  obtain ⟨ps, hps⟩ : ∃ ps, put4L (l.getD i 0) = ps := ⟨_, rfl⟩
  have hl : ps.length = 4 := by rw [← hps]; rfl
  unfold hashF
  rw [hps, List.set_append_right _ _ (by rw [backTo_len]; omega), backTo_len, List.set_append_right _ _ (by rw [List.length_take]; omega), List.length_take, show 4 * i + k - 4 * i - min k ps.length = 0 by omega, show 32 - (4 * i + k) = (32 - (4 * i + (k + 1))) + 1 by omega, List.replicate_succ, List.set_cons_zero]
  rw [List.take_succ_eq_append_getElem (by omega), List.append_assoc]
  simp [show k < ps.length by omega]
end Go.Proofs.YtomkidgmpbjgeaaGreatDoor
/-
  Hashes as lists of numbers: a padded message's blocks; what a writer has taken, and what it makes of more.
  Conditions: those that each theorem names.
-/
set_option maxRecDepth 100000
namespace Go.Proofs.YtomkidgmpbjgeaaGreatDoor
open Go.ChangeShapes Go.WideShapes Go.ChangeAt Go.RowKit
theorem padL_eq5 (b : List Int) : padL b = b ++ (128 :: (List.replicate (zer (b.length % 64)) 0 ++ put8L (8 * b.length))) := by
  have hd : (b.drop (b.length - b.length % 64)).length = b.length % 64 := by rw [List.length_drop]; omega
  unfold padL tailL
  rw [hd, ← List.append_assoc, ← List.append_assoc, List.take_append_drop]
  simp
theorem padL_len5 (b : List Int) : (padL b).length = 64 * ((b.length + 72) / 64) := by
  rw [padL_eq5, List.length_append, List.length_cons, List.length_append, List.length_replicate, show ∀ x, (put8L x).length = 8 from fun _ => rfl]
  unfold zer
  split <;> omega
theorem put8L_in (x : Int) (h0 : 0 ≤ x) (h1 : x < 18446744073709551616) : ∀ z ∈ put8L x, 0 ≤ z ∧ z < 256 := by
  intro z hz
  simp only [put8L, List.mem_cons, List.not_mem_nil, or_false] at hz
  rcases hz with h | h | h | h | h | h | h | h <;> subst h <;> omega
theorem tailL_in (r : List Int) (n : Int) (hr : ∀ z ∈ r, 0 ≤ z ∧ z < 256) (n0 : 0 ≤ n) (n1 : n < 2305843009213693952) : ∀ z ∈ tailL r n, 0 ≤ z ∧ z < 256 := by
  intro z hz
  unfold tailL at hz
  rcases List.mem_append.1 hz with h | h
  · rcases List.mem_append.1 h with h | h
    · exact hr z h
    · rcases List.mem_cons.1 h with h | h
      · omega
      · have := List.eq_of_mem_replicate h; omega
  · exact put8L_in _ (by omega) (by omega) z h
theorem padL_in (b : List Int) (hb : ∀ z ∈ b, 0 ≤ z ∧ z < 256) (hl : b.length < 2305843009213693952) : ∀ z ∈ padL b, 0 ≤ z ∧ z < 256 := by
  intro z hz
  unfold padL at hz
  rcases List.mem_append.1 hz with h | h
  · exact hb z (List.mem_of_mem_take h)
  · exact tailL_in _ _ (fun y hy => hb y (List.mem_of_mem_drop hy)) (by omega) (by omega) z h
theorem cutN_in (zs : List Int) (q : Nat) (hz : ∀ z ∈ zs, 0 ≤ z ∧ z < 256) : ∀ b ∈ cutN zs q, ∀ z ∈ b, 0 ≤ z ∧ z < 256 := by
  intro b hb z h
  unfold cutN at hb
  obtain ⟨i, _, rfl⟩ := List.mem_map.1 hb
  exact hz z (List.mem_of_mem_drop (List.mem_of_mem_take h))
theorem cutN_length (zs : List Int) (q : Nat) : (cutN zs q).length = q := by simp [cutN]
theorem cutN_append (x y : List Int) (m k : Nat) (hx : x.length = 64 * m) : cutN (x ++ y) (m + k) = cutN x m ++ cutN y k := by
  unfold cutN
  rw [List.range_add, List.map_append, List.map_map]
  congr 1
  · apply List.map_congr_left
    intro i hi
    have := List.mem_range.1 hi
    rw [List.drop_append_of_le_length (by omega), List.take_append_of_le_length (by rw [List.length_drop]; omega)]
  · apply List.map_congr_left
    intro j _
    simp only [Function.comp]
    rw [List.drop_append, List.drop_eq_nil_of_le (by omega), List.nil_append, show 64 * (m + j) - x.length = 64 * j by omega]
theorem cutN_take (zs : List Int) (q : Nat) : cutN (zs.take (64 * q)) q = cutN zs q := by
  unfold cutN
  apply List.map_congr_left
  intro i hi
  have := List.mem_range.1 hi
  rw [List.drop_take, List.take_take, show min 64 (64 * q - 64 * i) = 64 by omega]
/-- The hash of a message. -/
def shaL (b : List Int) : List Int := hashL (takesL startL (cutN (padL b) ((padL b).length / 64)))
theorem shaL_len (b : List Int) : (shaL b).length = 32 := hashL_len _
theorem shaL_in (b : List Int) : ∀ z ∈ shaL b, 0 ≤ z ∧ z < 256 := hashL_in _ (takesL_in _ _ startL_in)
/-- What a writer that has taken zs has: its state and its rest. -/
def wrS (zs : List Int) : List Int := takesL startL (cutN zs (zs.length / 64))
def wrR (zs : List Int) : List Int := zs.drop (64 * (zs.length / 64))
theorem wrR_len (zs : List Int) : (wrR zs).length = zs.length % 64 := by unfold wrR; rw [List.length_drop]; omega
theorem wrS_len (zs : List Int) : (wrS zs).length = 8 := takesL_len _ _ rfl
theorem wrS_in (zs : List Int) : WIn (wrS zs) := takesL_in _ _ startL_in
theorem wrR_in (zs : List Int) (hz : ∀ z ∈ zs, 0 ≤ z ∧ z < 256) : ∀ z ∈ wrR zs, 0 ≤ z ∧ z < 256 := fun z h => hz z (List.mem_of_mem_drop h)
/-- What a state and a rest make of more bytes. -/
def nextS (s r b : List Int) : List Int := takesL s (cutN (r ++ b) ((r ++ b).length / 64))
def nextR (r b : List Int) : List Int := (r ++ b).drop (64 * ((r ++ b).length / 64))
/-- What they hash to behind n bytes. -/
def finL (s r : List Int) (n : Int) : List Int := hashL (takesL s (cutN (tailL r n) ((tailL r n).length / 64)))
theorem wr_split (zs b : List Int) : zs ++ b = zs.take (64 * (zs.length / 64)) ++ (wrR zs ++ b) := by
  unfold wrR
  rw [← List.append_assoc, List.take_append_drop]
theorem wr_parts (zs b : List Int) : (zs ++ b).length / 64 = zs.length / 64 + (wrR zs ++ b).length / 64 := by
  rw [List.length_append, List.length_append, wrR_len]; omega
theorem wrS_next (zs b : List Int) : wrS (zs ++ b) = nextS (wrS zs) (wrR zs) b := by
  unfold wrS nextS
  rw [wr_parts, ← takesL_append, ← cutN_take zs, ← cutN_append _ _ _ _ (by rw [List.length_take]; omega), ← wr_split]
theorem wrR_next (zs b : List Int) : wrR (zs ++ b) = nextR (wrR zs) b := by
  have h := wr_parts zs b
  have e := wr_split zs b
  obtain ⟨m, hm⟩ : ∃ m, wrR zs ++ b = m := ⟨_, rfl⟩
  rw [show wrR (zs ++ b) = (zs ++ b).drop (64 * ((zs ++ b).length / 64)) from rfl, show nextR (wrR zs) b = (wrR zs ++ b).drop (64 * ((wrR zs ++ b).length / 64)) from rfl, h, hm]
  rw [hm] at e
  rw [e, List.drop_append, List.drop_eq_nil_of_le (by rw [List.length_take]; omega), List.nil_append, List.length_take]
  congr 1
  omega
theorem sha_fin (zs : List Int) : finL (wrS zs) (wrR zs) zs.length = shaL zs := by
  have hp : padL zs = zs.take (64 * (zs.length / 64)) ++ tailL (wrR zs) zs.length := by
    unfold padL wrR
    rw [show zs.length - zs.length % 64 = 64 * (zs.length / 64) by omega]
  have hl : (padL zs).length / 64 = zs.length / 64 + (tailL (wrR zs) zs.length).length / 64 := by
    rw [hp, List.length_append, List.length_take]; omega
  unfold finL shaL
  rw [hl, hp, cutN_append _ _ _ _ (by rw [List.length_take]; omega), takesL_append, cutN_take]
  rfl
theorem sha_nil : wrS [] = startL ∧ wrR [] = [] := ⟨rfl, rfl⟩
end Go.Proofs.YtomkidgmpbjgeaaGreatDoor
/-
  Streams in plain Lean: blocks, bits and bytes of a seed and a domain.
  Conditions: those that each theorem names.
-/
set_option maxRecDepth 100000
set_option linter.unusedVariables false
set_option linter.unusedSimpArgs false
namespace Go.Proofs.YtomkidgmpbjgeaaGreatDoor
/-- What is hashed of a seed, a domain and a number. -/
def blkIn (s : List Int) (d i : Int) : List Int := s ++ put8L d ++ put8L i
def blkL (s : List Int) (d i : Int) : List Int := shaL (blkIn s d i)
theorem put8L_len (x : Int) : (put8L x).length = 8 := rfl
theorem blkIn_len (s : List Int) (d i : Int) (hs : s.length = 32) : (blkIn s d i).length = 48 := by
  unfold blkIn
  rw [List.length_append, List.length_append, put8L_len, put8L_len, hs]
theorem blkIn_in (s : List Int) (d i : Int) (hs : ∀ z ∈ s, 0 ≤ z ∧ z < 256) (d0 : 0 ≤ d) (d1 : d < 18446744073709551616) (i0 : 0 ≤ i) (i1 : i < 18446744073709551616) : ∀ z ∈ blkIn s d i, 0 ≤ z ∧ z < 256 := by
  intro z hz
  unfold blkIn at hz
  rcases List.mem_append.1 hz with h | h
  · rcases List.mem_append.1 h with h | h
    · exact hs z h
    · exact put8L_in d d0 d1 z h
  · exact put8L_in i i0 i1 z h
theorem blkL_len (s : List Int) (d i : Int) : (blkL s d i).length = 32 := shaL_len _
theorem blkL_in (s : List Int) (d i : Int) : ∀ z ∈ blkL s d i, 0 ≤ z ∧ z < 256 := shaL_in _
/-- The byte of the number j of a block. -/
def bytN (s : List Int) (d i : Int) (j : Nat) : Int := (blkL s d i).getD j 0
theorem bytN_in (s : List Int) (d i : Int) (j : Nat) : 0 ≤ bytN s d i j ∧ bytN s d i j < 256 := by
  unfold bytN
  rw [List.getD_eq_getElem?_getD]
  rcases h : (blkL s d i)[j]? with _ | z
  · simp
  · exact blkL_in s d i z (List.mem_of_getElem? h)
/-- The bit of the number n. -/
def bitN (s : List Int) (d n : Int) : Int := bytN s d (n / 256) (n % 256 / 8).toNat / 2 ^ (7 - n % 8).toNat % 2
theorem bitN_in (s : List Int) (d n : Int) : 0 ≤ bitN s d n ∧ bitN s d n < 2 := by unfold bitN; omega
/-- The first m blocks, one behind the other. -/
def blksL (s : List Int) (d : Int) (m : Nat) : List Int := ((List.range m).map fun i : Nat => blkL s d (i : Int)).flatten
theorem blksL_next (s : List Int) (d : Int) (m : Nat) : blksL s d (m + 1) = blksL s d m ++ blkL s d m := by
  unfold blksL
  rw [List.range_succ, List.map_append, List.flatten_append]
  simp
theorem blksL_len (s : List Int) (d : Int) (m : Nat) : (blksL s d m).length = 32 * m := by
  induction m with
  | zero => simp [blksL]
  | succ m ih => rw [blksL_next, List.length_append, ih, blkL_len]; omega
theorem blksL_in (s : List Int) (d : Int) (m : Nat) : ∀ z ∈ blksL s d m, 0 ≤ z ∧ z < 256 := by
  intro z hz
  unfold blksL at hz
  obtain ⟨l, hl, hz⟩ := List.mem_flatten.1 hz
  obtain ⟨i, _, rfl⟩ := List.mem_map.1 hl
  exact blkL_in _ _ _ z hz
theorem blksL_more (s : List Int) (d : Int) (m k : Nat) : (blksL s d (m + k)).take (32 * m) = blksL s d m := by
  induction k with
  | zero => rw [Nat.add_zero, List.take_of_length_le (by rw [blksL_len]; exact Nat.le_refl _)]
  | succ k ih =>
    rw [← Nat.add_assoc, blksL_next, List.take_append_of_le_length (by rw [blksL_len]; omega)]
    exact ih
/-- The first n bytes. -/
def bytL (s : List Int) (d : Int) (n : Nat) : List Int := (blksL s d ((n + 31) / 32)).take n
theorem bytL_len (s : List Int) (d : Int) (n : Nat) : (bytL s d n).length = n := by unfold bytL; rw [List.length_take, blksL_len]; omega
theorem bytL_in (s : List Int) (d : Int) (n : Nat) : ∀ z ∈ bytL s d n, 0 ≤ z ∧ z < 256 := fun z hz => blksL_in _ _ _ z (List.mem_of_mem_take hz)
theorem bytL_zero (s : List Int) (d : Int) : bytL s d 0 = [] := rfl
/-- The first bytes are those of any more blocks. -/
theorem bytL_of (s : List Int) (d : Int) (n m : Nat) (h : n ≤ 32 * m) : bytL s d n = (blksL s d m).take n := by
  have h1 : m = (n + 31) / 32 + (m - (n + 31) / 32) := by omega
  unfold bytL
  rw [h1, ← blksL_more s d ((n + 31) / 32) (m - (n + 31) / 32), List.take_take]
  congr 1
  omega
theorem getD_append_l (a b : List Int) (j : Nat) (h : j < a.length) : (a ++ b).getD j 0 = a.getD j 0 := by
  simp [List.getElem?_append_left h]
theorem getD_append_r (a b : List Int) (j : Nat) (h : a.length ≤ j) : (a ++ b).getD j 0 = b.getD (j - a.length) 0 := by
  simp [List.getElem?_append_right h]
theorem getD_take (a : List Int) (j n : Nat) (h : j < n) : (a.take n).getD j 0 = a.getD j 0 := by
  simp [List.getElem?_take, h]
theorem blksL_at (s : List Int) (d : Int) (m i j : Nat) (hi : i < m) (hj : j < 32) : (blksL s d m).getD (32 * i + j) 0 = bytN s d (i : Int) j := by
  induction m with
  | zero => omega
  | succ m ih =>
    rw [blksL_next]
    by_cases h : i < m
    · rw [getD_append_l _ _ _ (by rw [blksL_len]; omega)]
      exact ih h
    · obtain rfl : i = m := by omega
      rw [getD_append_r _ _ _ (by rw [blksL_len]; omega), blksL_len]
      unfold bytN
      congr 1
      omega
/-- A byte of the stream is that of its block. -/
theorem bytL_at (s : List Int) (d : Int) (n j : Nat) (h : j < n) : (bytL s d n).getD j 0 = bytN s d ((j / 32 : Nat) : Int) (j % 32) := by
  unfold bytL
  rw [getD_take _ _ _ h]
  have h1 := blksL_at s d ((n + 31) / 32) (j / 32) (j % 32) (by omega) (by omega)
  rw [show 32 * (j / 32) + j % 32 = j by omega] at h1
  exact h1
/-- One byte more. -/
theorem bytL_next (s : List Int) (d : Int) (i k : Nat) (hk : k < 32) : bytL s d (32 * i + k) ++ [bytN s d (i : Int) k] = bytL s d (32 * i + k + 1) := by
  have h1 := bytL_of s d (32 * i + k) (i + 1) (by omega)
  have h2 := bytL_of s d (32 * i + k + 1) (i + 1) (by omega)
  have h3 := blksL_at s d (i + 1) i k (by omega) hk
  rw [h1, h2, ← h3]
  exact take_snoc (blksL s d (i + 1)) (32 * i + k) (by rw [blksL_len]; omega)
end Go.Proofs.YtomkidgmpbjgeaaGreatDoor
/-
  Sources in plain Lean: may they be, what is left, their bits, and what is taken.
  Conditions: those that each theorem names.
-/
set_option maxRecDepth 100000
set_option linter.unusedVariables false
set_option linter.unusedSimpArgs false
namespace Go.Proofs.YtomkidgmpbjgeaaGreatDoor
structure Src where
  kind : Int
  tape : List Int
  bits : Int
  seed : List Int
  dom : Int
  at_ : Int
/-- Its fields lie in their types' ranges; the tape is not as long as no machine has. -/
structure Src.Ok (s : Src) : Prop where
  k0 : -9223372036854775808 ≤ s.kind
  k1 : s.kind < 9223372036854775808
  tl : s.tape.length ≤ 140737488355328
  ti : ∀ z ∈ s.tape, 0 ≤ z ∧ z < 256
  b0 : 0 ≤ s.bits
  b1 : s.bits < 18446744073709551616
  sl : s.seed.length = 32
  si : ∀ z ∈ s.seed, 0 ≤ z ∧ z < 256
  d0 : 0 ≤ s.dom
  d1 : s.dom < 18446744073709551616
  a0 : 0 ≤ s.at_
  a1 : s.at_ < 18446744073709551616
def rightS (s : Src) : Bool := if s.kind = 1 then decide (s.bits ≤ 8 * (s.tape.length : Int)) && decide (s.at_ ≤ s.bits) else decide (s.kind = 2) && decide (s.at_ ≤ 4611686018427387904)
def leftS (s : Src) : Int := if rightS s = true then (if s.kind = 1 then s.bits - s.at_ else 4611686018427387904 - s.at_) else 0
def bitS (s : Src) (n : Int) : Int := if s.kind = 2 then bitN s.seed s.dom n else s.tape.getD (n / 8).toNat 0 / 2 ^ (7 - n % 8).toNat % 2
/-- The number that the k bits from the n-th one on are, the first one the highest. -/
def numS (s : Src) (n : Int) : Nat → Int
  | 0 => 0
  | k + 1 => 2 * numS s n k + bitS s (n + k)
def takeE (s : Src) (k : Int) : Int := if rightS s = true ∧ 0 ≤ k ∧ k ≤ 64 then (if k ≤ leftS s then 0 else 8) else 1
def takeV (s : Src) (k : Int) : Int := if takeE s k = 0 then numS s s.at_ k.toNat else 0
def Src.to (s : Src) (n : Int) : Src := { s with at_ := n }
def takeS (s : Src) (k : Int) : Src := if takeE s k = 0 then s.to (s.at_ + k) else s
def sameS (a b : Src) : Bool := decide (a.kind = b.kind) && decide (a.tape = b.tape) && decide (a.bits = b.bits) && decide (a.seed = b.seed) && decide (a.dom = b.dom) && decide (a.at_ = b.at_)
def Src.zero : Src := ⟨0, [], 0, List.replicate 32 0, 0, 0⟩
theorem sameS_refl (a : Src) : sameS a a = true := by simp [sameS]
theorem bitS_in (s : Src) (n : Int) : 0 ≤ bitS s n ∧ bitS s n < 2 := by
  unfold bitS
  split
  · exact bitN_in _ _ _
  · omega
theorem numS_succ (s : Src) (n : Int) (k : Nat) : numS s n (k + 1) = 2 * numS s n k + bitS s (n + k) := rfl
theorem numS_in (s : Src) (n : Int) (k : Nat) : 0 ≤ numS s n k ∧ numS s n k < 2 ^ k := by
  induction k with
  | zero => exact ⟨Int.le_refl _, by simp [numS]⟩
  | succ k ih =>
    have h := bitS_in s (n + k)
    rw [numS_succ, Int.pow_succ]
    omega
/-- Of two pieces. -/
theorem numS_add (s : Src) (n : Int) (k m : Nat) : numS s n (k + m) = numS s n k * 2 ^ m + numS s (n + k) m := by
  induction m with
  | zero => simp [numS]
  | succ m ih =>
    rw [← Nat.add_assoc, numS_succ, numS_succ, ih, Int.pow_succ, show n + ((k + m : Nat) : Int) = n + (k : Int) + (m : Int) by omega, Int.mul_add]
    have : 2 * (numS s n k * 2 ^ m) = numS s n k * (2 ^ m * 2) := by rw [← Int.mul_assoc, Int.mul_comm 2, Int.mul_assoc, Int.mul_comm 2]
    rw [this]
    omega
theorem bitS_to (s : Src) (m n : Int) : bitS (s.to m) n = bitS s n := rfl
theorem numS_to (s : Src) (m n : Int) (k : Nat) : numS (s.to m) n k = numS s n k := by
  induction k with
  | zero => rfl
  | succ k ih =>
    rw [numS_succ, numS_succ, ih, bitS_to]
theorem rightS_end {s : Src} (h : rightS s = true) : s.at_ + leftS s < 18446744073709551616 ∧ 0 ≤ leftS s ∨ ¬ s.Ok := by
  by_cases ok : s.Ok
  · left
    unfold leftS
    rw [if_pos h]
    unfold rightS at h
    have := ok.b1
    split at h
    · rename_i hk
      rw [if_pos hk]
      simp at h
      omega
    · rename_i hk
      rw [if_neg hk]
      simp at h
      omega
  · exact .inr ok
theorem left_le {s : Src} (ok : s.Ok) : 0 ≤ leftS s ∧ leftS s < 18446744073709551616 := by
  unfold leftS
  have h1 := ok.b1
  have h2 := ok.a0
  split
  · rename_i h
    unfold rightS at h
    split at h
    · rename_i hk
      rw [if_pos hk]
      simp at h
      omega
    · rename_i hk
      rw [if_neg hk]
      simp at h
      omega
  · omega
/-- With At so many more: still right, and so many less are left. -/
theorem right_to {s : Src} (h : rightS s = true) (n : Int) (n0 : 0 ≤ n) (hn : n ≤ leftS s) : rightS (s.to (s.at_ + n)) = true ∧ leftS (s.to (s.at_ + n)) = leftS s - n := by
  have key : rightS (s.to (s.at_ + n)) = true := by
    unfold leftS at hn
    rw [if_pos h] at hn
    unfold rightS at h ⊢
    show (if s.kind = 1 then decide (s.bits ≤ 8 * (s.tape.length : Int)) && decide (s.at_ + n ≤ s.bits) else decide (s.kind = 2) && decide (s.at_ + n ≤ 4611686018427387904)) = true
    split at h
    · rename_i hk
      rw [if_pos hk] at hn ⊢
      simp at h ⊢
      omega
    · rename_i hk
      rw [if_neg hk] at hn ⊢
      simp at h ⊢
      omega
  refine ⟨key, ?_⟩
  unfold leftS
  rw [if_pos key, if_pos h]
  show (if s.kind = 1 then s.bits - (s.at_ + n) else 4611686018427387904 - (s.at_ + n)) = _
  split <;> omega
theorem takeE_ok {s : Src} {k : Int} : takeE s k = 0 ↔ rightS s = true ∧ 0 ≤ k ∧ k ≤ 64 ∧ k ≤ leftS s := by
  unfold takeE
  constructor
  · intro h
    split at h
    · rename_i h1
      split at h
      · rename_i h2
        exact ⟨h1.1, h1.2.1, h1.2.2, h2⟩
      · omega
    · omega
  · rintro ⟨h1, h2, h3, h4⟩
    rw [if_pos ⟨h1, h2, h3⟩, if_pos h4]
theorem takeV_in (s : Src) (k : Int) : 0 ≤ takeV s k ∧ takeV s k < 18446744073709551616 := by
  unfold takeV
  split
  · rename_i h
    have hk := takeE_ok.1 h
    have h1 := numS_in s s.at_ k.toNat
    have h2 : (2 : Int) ^ k.toNat ≤ 2 ^ 64 := by
      have : 2 ^ k.toNat ≤ 2 ^ 64 := Nat.pow_le_pow_right (by omega) (by omega)
      exact_mod_cast this
    omega
  · omega
theorem Src.Ok.to_ {s : Src} (ok : s.Ok) (n : Int) (n0 : 0 ≤ n) (n1 : n < 18446744073709551616) : (s.to n).Ok := ⟨ok.k0, ok.k1, ok.tl, ok.ti, ok.b0, ok.b1, ok.sl, ok.si, ok.d0, ok.d1, n0, n1⟩
theorem takeS_ok {s : Src} (ok : s.Ok) (k : Int) : (takeS s k).Ok := by
  unfold takeS
  split
  · rename_i h
    obtain ⟨h1, h2, h3, h4⟩ := takeE_ok.1 h
    have h5 := ok.a0
    rcases rightS_end h1 with h6 | h6
    · exact ok.to_ _ (by omega) (by omega)
    · exact absurd ok h6
  · exact ok
theorem Src.ok_zero : Src.zero.Ok := ⟨by decide, by decide, by decide, fun _ h => (by cases h), by decide, by decide, rfl, fun z h => by obtain ⟨_, rfl⟩ := List.mem_replicate.1 h; exact ⟨by omega, by omega⟩, by decide, by decide, by decide, by decide⟩
theorem takeS_tape (s : Src) (k : Int) : (takeS s k).tape = s.tape := by unfold takeS; split <;> rfl
end Go.Proofs.YtomkidgmpbjgeaaGreatDoor
/-
  What the document's answers for layer 3 return, and that they leave memory as it was.
  Conditions: the arguments lie in their types' ranges.
-/
set_option maxRecDepth 100000
namespace Go.Proofs.YtomkidgmpbjgeaaGreatDoor
open Go.ChangeShapes Go.WideShapes Go.ChangeAt Go.RowKit
set_option linter.unusedVariables false

theorem info_u32c : (Tryz.prog.info? 89).map (fun i => (i.zero, i.size, i.bytes)) = some (some (.int .u32 0), 1, 4) := by kernel_rfl
theorem info_u8c : (Tryz.prog.info? 5).map (fun i => (i.zero, i.size, i.bytes)) = some (some (.int .u8 0), 1, 1) := by kernel_rfl
theorem rfirst_c (x : Int) (h0 : 0 ≤ x) (h1 : x < 4294967296) (w : World) :
    Calls Tryz.prog 94 #[.int .u32 x] w fun e w' => e = .returned (.int .u32 (mix1 x)) ∧ w = w' := by
  unfold mix1
  go_enter Tryz.func94, Tryz.ntmps94
  go_wp2_with (first
    | (go_at_call 101; (with_reducible refine (rrotate_c _ _ (by omega) (by omega) (by omega) (by omega) _).mono ?_); rintro e _ ⟨rfl, rfl⟩)
    | (go_at_call 57; (with_reducible refine (rright_c _ _ (by omega) (by omega) (by omega) (by omega) _).mono ?_); rintro e _ ⟨rfl, rfl⟩))
  go_ret
  exact ⟨rfl, rfl⟩
theorem rsecond_c (x : Int) (h0 : 0 ≤ x) (h1 : x < 4294967296) (w : World) :
    Calls Tryz.prog 93 #[.int .u32 x] w fun e w' => e = .returned (.int .u32 (mix2 x)) ∧ w = w' := by
  unfold mix2
  go_enter Tryz.func93, Tryz.ntmps93
  go_wp2_with (first
    | (go_at_call 101; (with_reducible refine (rrotate_c _ _ (by omega) (by omega) (by omega) (by omega) _).mono ?_); rintro e _ ⟨rfl, rfl⟩)
    | (go_at_call 57; (with_reducible refine (rright_c _ _ (by omega) (by omega) (by omega) (by omega) _).mono ?_); rintro e _ ⟨rfl, rfl⟩))
  go_ret
  exact ⟨rfl, rfl⟩
theorem zero_plan : ∀ W, (zeroValue 127).run Tryz.prog W = .ok (.agg (intsA .u32 (List.replicate 64 0))) W := (zero_of_info (n := 64) (by kernel_rfl)).1
theorem size_plan : (Tryz.prog.info? 127).map (·.size) = some 64 := by kernel_rfl

set_option maxHeartbeats 1000000 in
theorem rof_c (b : List Int) (hl : b.length = 64) (hb : ∀ z ∈ b, 0 ≤ z ∧ z < 256) (w : World) :
    Calls Tryz.prog 86 #[.agg (intsA .u8 b)] w fun e w' => e = .returned (.agg (intsA .u32 (planL b))) ∧ Below w.heap.size w w' := by
  go_enter Tryz.func86, Tryz.ntmps86
  go_wp2_with (first
    | (with_reducible refine at_any ?_; refine at_dst 1 rfl ?_; refine wpList_box_ints rfl 116 (.tmp 0) rfl .u8 b rfl ?_; intro w1 hk1 hs1 hb1)
    | (with_reducible refine at_any ?_; refine at_dst 2 rfl ?_; refine wpList_alloc_ints rfl 127 rfl .u32 (List.replicate 64 0) zero_plan ?_; intro w2 hk2 hs2 hb2)
    | (with_reducible refine at_any ?_; refine at_dst 3 rfl ?_; refine wpList_alloc_ints rfl 127 rfl .u32 (List.replicate 64 0) zero_plan ?_; intro w3 hk3 hs3 hb3))
  have HI : In3 w w.heap.size w1.heap.size w2.heap.size 116 127 127 .u8 .u32 .u32 b (List.replicate 64 0) (planF b 0) w3 := by
    rw [planF_zero]
    have q1 := hs1.out
    have q2 := hs2.out
    have q3 := hs3.out
    exact ⟨(hk1.out.below hb2 (by omega)).below hb3 (by omega), hk2.out.below hb3 (by omega), hk3.out, hb1.trans ((hb2.mono (by omega)).trans (hb3.mono (by omega))), by omega, by omega, by omega⟩
  obtain ⟨g1, hg1⟩ : ∃ g, w.heap.size = g := ⟨_, rfl⟩
  obtain ⟨g2, hg2⟩ : ∃ g, w1.heap.size = g := ⟨_, rfl⟩
  obtain ⟨g3, hg3⟩ : ∃ g, w2.heap.size = g := ⟨_, rfl⟩
  have HG2 := Lib.hid (show w.heap.size ≤ g2 by have := hb1.size; omega)
  rw [hg1, hg2, hg3] at HI
  rw [hg1, hg2, hg3]
  clear hk1 hs1 hb1 hk2 hs2 hb2 hk3 hs3 hb3
  go_loopw [4] (fun v wr => ∃ i : Nat, i ≤ 16 ∧ v = .int .i64 i ∧ In3 w g1 g2 g3 116 127 127 .u8 .u32 .u32 b (List.replicate 64 0) (planF b i) wr) (fun v _ => 16 - (intOf v).toNat)
  case atStart => exact ⟨0, by omega, rfl, HI⟩
  case round =>
    clear HI
    obtain ⟨i, hi, rfl, HI⟩ := hrel
    by_cases hlt : i < 16
    · have hpl := planF_len b i (by omega)
      have HW := HI.open_ (i := i) (by omega)
      have hset := fun v hv => planF_set b i (by omega) v hv
      obtain ⟨m, hm⟩ : ∃ m, 4 * i = m := ⟨_, rfl⟩
      obtain ⟨m1, hm1⟩ : ∃ m1, 4 * i + 1 = m1 := ⟨_, rfl⟩
      obtain ⟨m2, hm2⟩ : ∃ m2, 4 * i + 2 = m2 := ⟨_, rfl⟩
      obtain ⟨m3, hm3⟩ : ∃ m3, 4 * i + 3 = m3 := ⟨_, rfl⟩
      have c0 := HW.cell1 (j := m) (by omega)
      have c1 := HW.cell1 (j := m1) (by omega)
      have c2 := HW.cell1 (j := m2) (by omega)
      have c3 := HW.cell1 (j := m3) (by omega)
      have hg : ∀ j, j < 64 → 0 ≤ b.getD j 0 ∧ b.getD j 0 < 256 := by
        intro j hj
        have h : j < b.length := by omega
        simp [h]; exact hb _ (List.getElem_mem h)
      have r0 := hg m (by omega)
      have r1 := hg m1 (by omega)
      have r2 := hg m2 (by omega)
      have r3 := hg m3 (by omega)
      have hv : word4 b i = Wd.get4 (b.getD m 0) (b.getD m1 0) (b.getD m2 0) (b.getD m3 0) := by unfold word4; rw [hm1, hm2, hm3, hm]
      have hsv := hset (word4 b i) (by rw [if_pos hlt])
      have HK : ∀ w', In3W w g1 g2 g3 116 127 127 .u8 .u32 .u32 b (List.replicate 64 0) (planF b i) i w' → w'.cell? ⟨g1, m, none⟩ = some (.int .u8 (b.getD m 0)) ∧ w'.cell? ⟨g1, m1, none⟩ = some (.int .u8 (b.getD m1 0)) ∧ w'.cell? ⟨g1, m2, none⟩ = some (.int .u8 (b.getD m2 0)) ∧ w'.cell? ⟨g1, m3, none⟩ = some (.int .u8 (b.getD m3 0)) ∧ In3W w g1 g2 g3 116 127 127 .u8 .u32 .u32 b (List.replicate 64 0) (planF b i) i w' :=
        fun w' h => ⟨h.cell1 (by omega), h.cell1 (by omega), h.cell1 (by omega), h.cell1 (by omega), h⟩
      have HA : ∀ w', In3W w g1 g2 g3 116 127 127 .u8 .u32 .u32 b (List.replicate 64 0) (planF b i) i w' → (∃ u, w'.cell? ⟨g3, i, none⟩ = some (.int .u32 u)) ∧ w'.frozen? ⟨g3, i, none⟩ = false := fun w' h => h.at_ (by omega)
      obtain ⟨a0, ha0⟩ : ∃ a, b.getD m 0 = a := ⟨_, rfl⟩
      obtain ⟨a1, ha1⟩ : ∃ a, b.getD m1 0 = a := ⟨_, rfl⟩
      obtain ⟨a2, ha2⟩ : ∃ a, b.getD m2 0 = a := ⟨_, rfl⟩
      obtain ⟨a3, ha3⟩ : ∃ a, b.getD m3 0 = a := ⟨_, rfl⟩
      rw [ha0, ha1, ha2, ha3] at HK hv
      rw [ha0] at c0 r0
      rw [ha1] at c1 r1
      rw [ha2] at c2 r2
      rw [ha3] at c3 r3
      rw [hv] at hsv
      have HK' := Lib.hid HK
      have HA' := Lib.hid HA
      have HSV := Lib.hid hsv
      have e0 : IntKind.i64.wrap (4 * (i : Int)) = (m : Int) := by rw [IntWalk.i64_in _ (by omega)]; omega
      have e1 : IntKind.i64.wrap ((m : Int) + 1) = (m1 : Int) := by rw [IntWalk.i64_in _ (by omega)]; omega
      have e2 : IntKind.i64.wrap ((m : Int) + 2) = (m2 : Int) := by rw [IntWalk.i64_in _ (by omega)]; omega
      have e3 : IntKind.i64.wrap ((m : Int) + 3) = (m3 : Int) := by rw [IntWalk.i64_in _ (by omega)]; omega
      have q0 : (0 : Int) ≤ (m : Int) ∧ (m : Int) < 64 := by omega
      have q1 : (0 : Int) ≤ (m1 : Int) ∧ (m1 : Int) < 64 := by omega
      have q2 : (0 : Int) ≤ (m2 : Int) ∧ (m2 : Int) < 64 := by omega
      have q3 : (0 : Int) ≤ (m3 : Int) ∧ (m3 : Int) < 64 := by omega
      have q4 : (0 : Int) ≤ (i : Int) ∧ (i : Int) < 64 := by omega
      obtain ⟨⟨u0, hu0⟩, hf0⟩ := HA _ HW
      clear hset HK HA hg ha0 ha1 ha2 ha3 hm hm1 hm2 hm3 hv hsv hpl HI
      have HWd : In3W w g1 g2 g3 116 127 127 .u8 .u32 .u32 b (List.replicate 64 0) (planF b i) i wr.drew := by obtain ⟨u, hu⟩ := HW; exact ⟨u, hu.drew⟩
      go_wp2
      go_region_held3 (fun w' => w'.cell? ⟨g1, m, none⟩ = some (.int .u8 a0) ∧ w'.cell? ⟨g1, m1, none⟩ = some (.int .u8 a1) ∧ w'.cell? ⟨g1, m2, none⟩ = some (.int .u8 a2) ∧ w'.cell? ⟨g1, m3, none⟩ = some (.int .u8 a3) ∧ In3W w g1 g2 g3 116 127 127 .u8 .u32 .u32 b (List.replicate 64 0) (planF b i) i w')
        (first | assumption | exact HK'.out _ HWd | (go_split_ands; exact HK'.out _ HW5) | (go_split_ands; exact HK'.out _ (HW5.again _)))
        (first
          | (go_at_call 92; (with_reducible refine (rget32_c a0 a1 a2 a3 r0.1 r0.2 r1.1 r1.2 r2.1 r2.2 r3.1 r3.2 _).mono ?_); rintro e w5 ⟨rfl, hb5, _⟩; have HW5 := HWd.below hb5; obtain ⟨⟨u5, hu5⟩, hf5⟩ := HA'.out _ HW5))
      all_goals
        go_wp2
        go_roundw
        case rel => exact ⟨i + 1, by omega, by go_num, by rw [← HSV.out]; exact HW5.set_ _⟩
        case measure => simp [intOf]; omega
    · rw [show ((i : Nat) : Int) = 16 by omega]
      obtain rfl : i = 16 := by omega
      clear hi hlt
      go_wp2
      go_loopw [5] (fun v wr => ∃ i : Nat, 16 ≤ i ∧ i ≤ 64 ∧ v = .int .i64 i ∧ In3 w g1 g2 g3 116 127 127 .u8 .u32 .u32 b (List.replicate 64 0) (planF b i) wr) (fun v _ => 64 - (intOf v).toNat)
      case atStart => exact ⟨16, by omega, by omega, rfl, HI⟩
      case round =>
        clear HI
        obtain ⟨i, hi16, hi, rfl, HI⟩ := hrel
        by_cases hlt : i < 64
        · have hpl := planF_len b i (by omega)
          have HW := HI.open_ (i := i) (by omega)
          have hin := planTo_in b hb i
          have hg : ∀ j, j < i → (planF b i).getD j 0 = (planTo b i).getD j 0 ∧ 0 ≤ (planTo b i).getD j 0 ∧ (planTo b i).getD j 0 < 4294967296 := by
            intro j hj
            have h : j < (planTo b i).length := by rw [planTo_len]; exact hj
            refine ⟨planF_at b i j hj, ?_⟩
            simp [h]; exact hin _ (List.getElem_mem h)
          obtain ⟨m2, hm2⟩ : ∃ m, i - 2 = m := ⟨_, rfl⟩
          obtain ⟨m7, hm7⟩ : ∃ m, i - 7 = m := ⟨_, rfl⟩
          obtain ⟨m15, hm15⟩ : ∃ m, i - 15 = m := ⟨_, rfl⟩
          obtain ⟨m16, hm16⟩ : ∃ m, i - 16 = m := ⟨_, rfl⟩
          have hsv := planF_set b i hlt (nextW (planTo b i) i) (by rw [if_neg (by omega)])
          have hv : nextW (planTo b i) i = (mix2 ((planTo b i).getD m2 0) + (planTo b i).getD m7 0 + mix1 ((planTo b i).getD m15 0) + (planTo b i).getD m16 0) % 4294967296 := by unfold nextW; rw [hm2, hm7, hm15, hm16]
          have HK : ∀ w', In3W w g1 g2 g3 116 127 127 .u8 .u32 .u32 b (List.replicate 64 0) (planF b i) i w' → w'.cell? ⟨g3, m2, none⟩ = some (.int .u32 ((planF b i).getD m2 0)) ∧ w'.cell? ⟨g3, m7, none⟩ = some (.int .u32 ((planF b i).getD m7 0)) ∧ w'.cell? ⟨g3, m15, none⟩ = some (.int .u32 ((planF b i).getD m15 0)) ∧ w'.cell? ⟨g3, m16, none⟩ = some (.int .u32 ((planF b i).getD m16 0)) ∧ In3W w g1 g2 g3 116 127 127 .u8 .u32 .u32 b (List.replicate 64 0) (planF b i) i w' :=
            fun w' h => ⟨h.cell3 (by omega) (by omega), h.cell3 (by omega) (by omega), h.cell3 (by omega) (by omega), h.cell3 (by omega) (by omega), h⟩
          obtain ⟨⟨u0, hu0⟩, hf0⟩ := HW.at_ (by omega)
          rw [(hg m2 (by omega)).1, (hg m7 (by omega)).1, (hg m15 (by omega)).1, (hg m16 (by omega)).1] at HK
          have r2 := (hg m2 (by omega)).2
          have r7 := (hg m7 (by omega)).2
          have r15 := (hg m15 (by omega)).2
          have r16 := (hg m16 (by omega)).2
          obtain ⟨x2, hx2⟩ : ∃ a, (planTo b i).getD m2 0 = a := ⟨_, rfl⟩
          obtain ⟨x7, hx7⟩ : ∃ a, (planTo b i).getD m7 0 = a := ⟨_, rfl⟩
          obtain ⟨x15, hx15⟩ : ∃ a, (planTo b i).getD m15 0 = a := ⟨_, rfl⟩
          obtain ⟨x16, hx16⟩ : ∃ a, (planTo b i).getD m16 0 = a := ⟨_, rfl⟩
          rw [hx2, hx7, hx15, hx16] at HK hv
          rw [hx2] at r2
          rw [hx7] at r7
          rw [hx15] at r15
          rw [hx16] at r16
          obtain ⟨c0, c1, c2, c3, _⟩ := HK _ HW
          obtain ⟨y2, hy2⟩ : ∃ a, mix2 x2 = a := ⟨_, rfl⟩
          obtain ⟨y15, hy15⟩ : ∃ a, mix1 x15 = a := ⟨_, rfl⟩
          have k2 := mix2_in x2
          have k15 := mix1_in x15
          rw [hy2, hy15] at hv
          rw [hy2] at k2
          rw [hy15] at k15
          obtain ⟨t1, ht1⟩ : ∃ t, (y2 + x7) % 4294967296 = t := ⟨_, rfl⟩
          obtain ⟨t2, ht2⟩ : ∃ t, (t1 + y15) % 4294967296 = t := ⟨_, rfl⟩
          obtain ⟨t3, ht3⟩ : ∃ t, (t2 + x16) % 4294967296 = t := ⟨_, rfl⟩
          have hv3 : nextW (planTo b i) i = t3 := by rw [hv]; omega
          rw [hv3] at hsv
          have f1 : IntKind.u32.wrap (y2 + x7) = t1 := by rw [IntKind.wrap_u32]; exact ht1
          have f2 : IntKind.u32.wrap (t1 + y15) = t2 := by rw [IntKind.wrap_u32]; exact ht2
          have f3 : IntKind.u32.wrap (t2 + x16) = t3 := by rw [IntKind.wrap_u32]; exact ht3
          have HK' := Lib.hid HK
          have HSV := Lib.hid hsv
          have e2 : IntKind.i64.wrap ((i : Int) - 2) = (m2 : Int) := by rw [IntWalk.i64_in _ (by omega)]; omega
          have e7 : IntKind.i64.wrap ((i : Int) - 7) = (m7 : Int) := by rw [IntWalk.i64_in _ (by omega)]; omega
          have e15 : IntKind.i64.wrap ((i : Int) - 15) = (m15 : Int) := by rw [IntWalk.i64_in _ (by omega)]; omega
          have e16 : IntKind.i64.wrap ((i : Int) - 16) = (m16 : Int) := by rw [IntWalk.i64_in _ (by omega)]; omega
          have q0 : (0 : Int) ≤ (m2 : Int) ∧ (m2 : Int) < 64 := by omega
          have q1 : (0 : Int) ≤ (m7 : Int) ∧ (m7 : Int) < 64 := by omega
          have q2 : (0 : Int) ≤ (m15 : Int) ∧ (m15 : Int) < 64 := by omega
          have q3 : (0 : Int) ≤ (m16 : Int) ∧ (m16 : Int) < 64 := by omega
          have q4 : (0 : Int) ≤ (i : Int) ∧ (i : Int) < 64 := by omega
          have H2 := Lib.hid hy2
          have H15 := Lib.hid hy15
          clear HK hg hin hx2 hx7 hx15 hx16 hm2 hm7 hm15 hm16 hv hv3 hsv hpl HI ht1 ht2 ht3 hy2 hy15
          have HWd : In3W w g1 g2 g3 116 127 127 .u8 .u32 .u32 b (List.replicate 64 0) (planF b i) i wr.drew := by obtain ⟨u, hu⟩ := HW; exact ⟨u, hu.drew⟩
          go_wp2
          go_region_held3 (fun w' => w'.cell? ⟨g3, m2, none⟩ = some (.int .u32 x2) ∧ w'.cell? ⟨g3, m7, none⟩ = some (.int .u32 x7) ∧ w'.cell? ⟨g3, m15, none⟩ = some (.int .u32 x15) ∧ w'.cell? ⟨g3, m16, none⟩ = some (.int .u32 x16) ∧ In3W w g1 g2 g3 116 127 127 .u8 .u32 .u32 b (List.replicate 64 0) (planF b i) i w')
            (first | assumption | exact HK'.out _ HWd | (go_split_ands; exact HK'.out _ (HWd.again _)))
            (first
              | (go_at_call 93; (with_reducible refine (rsecond_c x2 r2.1 r2.2 _).mono ?_); rw [H2.out]; rintro e w5 ⟨rfl, rfl⟩)
              | (go_at_call 94; (with_reducible refine (rfirst_c x15 r15.1 r15.2 _).mono ?_); rw [H15.out]; rintro e w5 ⟨rfl, rfl⟩))
          all_goals
            go_wp2
            go_roundw
            case rel => exact ⟨i + 1, by omega, by omega, by go_num, by rw [← HSV.out]; exact (HW.set_ _).drew⟩
            case measure => simp [intOf]; omega
        · rw [show ((i : Nat) : Int) = 64 by omega]
          obtain rfl : i = 64 := by omega
          rw [planF_full] at HI
          obtain ⟨h1, h2, h3, h4, h5, h6, h7⟩ := HI
          have hpl : (planL b).length = 64 := planTo_len b 64
          have HPL := Lib.hid hpl
          have H3 := Lib.hid h3
          have H2 := Lib.hid h2
          have hg2 : w.heap.size ≤ g2 := HG2.out
          clear hpl h1 h2 h3
          go_wp2_with (first
            | (with_reducible refine at_any ?_; refine at_dst 60 rfl ?_; refine wpList_load_ints rfl 127 (.tmp 3) rfl g3 rfl 127 .u32 (planL b) H3.out _ Tryz.underlying127 rfl (by rw [HPL.out]; exact size_plan) ?_)
            | (with_reducible refine at_any ?_; refine at_store 2 rfl ?_; refine wpList_store_ints rfl 127 (.tmp 2) (.tmp 60) rfl g2 rfl 127 .u32 (List.replicate 64 0) (planL b) H2.out rfl (by rw [HPL.out]; simp) (by rw [HPL.out]; exact size_plan) ?_; intro w9 hk9 hs9 hb9 ho9)
            | (refine bodyPost_cell 2 127 rfl g2 rfl 127 .u32 (planL b) hk9.out _ Tryz.underlying127 rfl (by rw [HPL.out]; exact size_plan) rfl ?_))
          rw [← hg1]
          exact h4.trans (hb9 _ hg2)
theorem zero_b64 : ∀ W, (zeroValue 116).run Tryz.prog W = .ok (.agg (intsA .u8 (List.replicate 64 0))) W := (zero_of_info (n := 64) (by kernel_rfl)).1
theorem size_b64 : (Tryz.prog.info? 116).map (·.size) = some 64 := by kernel_rfl
end Go.Proofs.YtomkidgmpbjgeaaGreatDoor
/-
  What the document's answers for layer 4 return, and that they leave memory as it was.
  Conditions: the arguments lie in their types' ranges.
-/
set_option maxRecDepth 100000
namespace Go.Proofs.YtomkidgmpbjgeaaGreatDoor
open Go.ChangeShapes Go.WideShapes Go.ChangeAt Go.RowKit
set_option linter.unusedVariables false

theorem rturned_c (x a b c : Int) (h0 : 0 ≤ x) (h1 : x < 4294967296) (a0 : 0 ≤ a) (a1 : a < 32) (b0 : 0 ≤ b) (b1 : b < 32) (c0 : 0 ≤ c) (c1 : c < 32) (w : World) :
    Calls Tryz.prog 95 #[.int .u32 x, .int .i64 a, .int .i64 b, .int .i64 c] w fun e w' => e = .returned (.int .u32 (turn3 x a b c)) ∧ w = w' := by
  unfold turn3
  go_enter Tryz.func95, Tryz.ntmps95
  go_wp2_with (go_at_call 101; (with_reducible refine (rrotate_c _ _ (by omega) (by omega) (by omega) (by omega) _).mono ?_); rintro e _ ⟨rfl, rfl⟩)
  go_ret
  exact ⟨rfl, rfl⟩
theorem rchoice_c (e f g : Int) (e0 : 0 ≤ e) (e1 : e < 4294967296) (f0 : 0 ≤ f) (f1 : f < 4294967296) (g0 : 0 ≤ g) (g1 : g < 4294967296) (w : World) :
    Calls Tryz.prog 96 #[.int .u32 e, .int .u32 f, .int .u32 g] w fun r w' => r = .returned (.int .u32 (chW e f g)) ∧ w = w' := by
  unfold chW
  go_enter Tryz.func96, Tryz.ntmps96
  go_wp2
  go_ret
  exact ⟨rfl, rfl⟩
theorem rmajority_c (a b c : Int) (a0 : 0 ≤ a) (a1 : a < 4294967296) (b0 : 0 ≤ b) (b1 : b < 4294967296) (c0 : 0 ≤ c) (c1 : c < 4294967296) (w : World) :
    Calls Tryz.prog 97 #[.int .u32 a, .int .u32 b, .int .u32 c] w fun r w' => r = .returned (.int .u32 (majW a b c)) ∧ w = w' := by
  unfold majW
  go_enter Tryz.func97, Tryz.ntmps97
  go_wp2
  go_ret
  exact ⟨rfl, rfl⟩
def Z8 : List Int := List.replicate 8 0
theorem Z8_len : Z8.length = 8 := rfl
theorem zero_state : ∀ W, (zeroValue 105).run Tryz.prog W = .ok (.agg (intsA .u32 Z8)) W := (zero_of_info (n := 8) (by kernel_rfl)).1
theorem size_state : (Tryz.prog.info? 105).map (·.size) = some 8 := by kernel_rfl
theorem size_state8 (a b c d e f p q : Int) : (Tryz.prog.info? 105).map (·.size) = some [a, b, c, d, e, f, p, q].length := size_state
theorem Z8_len8 (a b c d e f p q : Int) : Z8.length = [a, b, c, d, e, f, p, q].length := rfl
/-- The state that came in, and the one that is to go out. -/
def St2 (w : World) (g r : Nat) (s z : List Int) (w' : World) : Prop := BlkI w' g 105 .u32 s ∧ BlkI w' r 105 .u32 z ∧ Below w.heap.size w w' ∧ w.heap.size ≤ r ∧ g ≠ r
theorem St2.drew {w w' : World} {g r : Nat} {s z : List Int} (h : St2 w g r s z w') : St2 w g r s z w'.drew := ⟨h.1, h.2.1, h.2.2.1.drew, h.2.2.2⟩
theorem St2.below {w w' w'' : World} {g r : Nat} {s z : List Int} (h : St2 w g r s z w') (hb : Below w'.heap.size w' w'') : St2 w g r s z w'' := ⟨h.1.below hb h.1.lt, h.2.1.below hb h.2.1.lt, h.2.2.1.trans (hb.mono h.2.2.1.size), h.2.2.2⟩
theorem St2.fst {w w' : World} {g r : Nat} {s z : List Int} (h : St2 w g r s z w') : BlkI w' g 105 .u32 s := h.1
theorem St2.snd {w w' : World} {g r : Nat} {s z : List Int} (h : St2 w g r s z w') : BlkI w' r 105 .u32 z := h.2.1
theorem St2.bel {w w' : World} {g r : Nat} {s z : List Int} (h : St2 w g r s z w') : Below w.heap.size w w' := h.2.2.1
theorem St2.out {w w' : World} {g r : Nat} {s z : List Int} (h : St2 w g r s z w') : w.heap.size ≤ r := h.2.2.2.1
theorem St2.ne {w w' : World} {g r : Nat} {s z : List Int} (h : St2 w g r s z w') : g ≠ r := h.2.2.2.2
theorem St2.cells {w w' : World} {g r : Nat} {a b c d e f p q : Int} {z : List Int} (h : St2 w g r [a, b, c, d, e, f, p, q] z w') :
    w'.cell? ⟨g, 0, none⟩ = some (.int .u32 a) ∧ w'.cell? ⟨g, 1, none⟩ = some (.int .u32 b) ∧ w'.cell? ⟨g, 2, none⟩ = some (.int .u32 c) ∧ w'.cell? ⟨g, 3, none⟩ = some (.int .u32 d) ∧ w'.cell? ⟨g, 4, none⟩ = some (.int .u32 e) ∧ w'.cell? ⟨g, 5, none⟩ = some (.int .u32 f) ∧ w'.cell? ⟨g, 6, none⟩ = some (.int .u32 p) ∧ w'.cell? ⟨g, 7, none⟩ = some (.int .u32 q) ∧ St2 w g r [a, b, c, d, e, f, p, q] z w' :=
  ⟨h.1.cell (j := 0) (by simp), h.1.cell (j := 1) (by simp), h.1.cell (j := 2) (by simp), h.1.cell (j := 3) (by simp), h.1.cell (j := 4) (by simp), h.1.cell (j := 5) (by simp), h.1.cell (j := 6) (by simp), h.1.cell (j := 7) (by simp), h⟩
set_option maxHeartbeats 1000000 in
theorem rround_c (s : List Int) (W K : Int) (hl : s.length = 8) (hs : WIn s) (W0 : 0 ≤ W) (W1 : W < 4294967296) (K0 : 0 ≤ K) (K1 : K < 4294967296) (w : World) :
    Calls Tryz.prog 87 #[.agg (intsA .u32 s), .int .u32 W, .int .u32 K] w fun e w' => e = .returned (.agg (intsA .u32 (roundL s W K))) ∧ Below w.heap.size w w' := by
  have hr0 := hs.at_ 0
  have hr1 := hs.at_ 1
  have hr2 := hs.at_ 2
  have hr3 := hs.at_ 3
  have hr4 := hs.at_ 4
  have hr5 := hs.at_ 5
  have hr6 := hs.at_ 6
  have hr7 := hs.at_ 7
  obtain ⟨a, b, c, d, e, f, p, q, rfl⟩ : ∃ a b c d e f p q, s = [a, b, c, d, e, f, p, q] := ⟨_, _, _, _, _, _, _, _, list8 s hl⟩
  simp only [List.getD_cons_zero, List.getD_cons_succ] at hr0 hr1 hr2 hr3 hr4 hr5 hr6 hr7
  obtain ⟨y1, hy1⟩ : ∃ y, turn3 e 6 11 25 = y := ⟨_, rfl⟩
  obtain ⟨y2, hy2⟩ : ∃ y, chW e f p = y := ⟨_, rfl⟩
  obtain ⟨y3, hy3⟩ : ∃ y, turn3 a 2 13 22 = y := ⟨_, rfl⟩
  obtain ⟨y4, hy4⟩ : ∃ y, majW a b c = y := ⟨_, rfl⟩
  obtain ⟨t1, ht1⟩ : ∃ t, (q + y1) % 4294967296 = t := ⟨_, rfl⟩
  obtain ⟨t2, ht2⟩ : ∃ t, (t1 + y2) % 4294967296 = t := ⟨_, rfl⟩
  obtain ⟨t3, ht3⟩ : ∃ t, (t2 + K) % 4294967296 = t := ⟨_, rfl⟩
  obtain ⟨t4, ht4⟩ : ∃ t, (t3 + W) % 4294967296 = t := ⟨_, rfl⟩
  obtain ⟨u1, hu1⟩ : ∃ t, (y3 + y4) % 4294967296 = t := ⟨_, rfl⟩
  have hres : roundL [a, b, c, d, e, f, p, q] W K = [(t4 + u1) % 4294967296, a, b, c, (d + t4) % 4294967296, e, f, p] := by
    have e1 : (q + turn3 e 6 11 25 + chW e f p + K + W) % 4294967296 = t4 := by rw [hy1, hy2]; omega
    have e2 : (turn3 a 2 13 22 + majW a b c) % 4294967296 = u1 := by rw [hy3, hy4]; exact hu1
    simp only [roundL, List.getD_cons_zero, List.getD_cons_succ]
    rw [e1, e2]
  rw [hres]
  obtain ⟨v0, hv0⟩ : ∃ t, (t4 + u1) % 4294967296 = t := ⟨_, rfl⟩
  obtain ⟨v4, hv4⟩ : ∃ t, (d + t4) % 4294967296 = t := ⟨_, rfl⟩
  rw [hv0, hv4]
  have f1 : IntKind.u32.wrap (q + y1) = t1 := by rw [IntKind.wrap_u32]; exact ht1
  have f2 : IntKind.u32.wrap (t1 + y2) = t2 := by rw [IntKind.wrap_u32]; exact ht2
  have f3 : IntKind.u32.wrap (t2 + K) = t3 := by rw [IntKind.wrap_u32]; exact ht3
  have f4 : IntKind.u32.wrap (t3 + W) = t4 := by rw [IntKind.wrap_u32]; exact ht4
  have f5 : IntKind.u32.wrap (y3 + y4) = u1 := by rw [IntKind.wrap_u32]; exact hu1
  have H1 := Lib.hid hy1
  have H2 := Lib.hid hy2
  have H3 := Lib.hid hy3
  have H4 := Lib.hid hy4
  clear hy1 hy2 hy3 hy4 ht1 ht2 ht3 ht4 hu1 hres hs hl
  go_enter Tryz.func87, Tryz.ntmps87
  go_wp2_with (first
    | (with_reducible refine at_any ?_; refine at_dst 3 rfl ?_; refine wpList_box_ints rfl 105 (.tmp 0) rfl .u32 _ rfl ?_; intro w1 hk1 hs1 hb1)
    | (with_reducible refine at_any ?_; refine at_dst 6 rfl ?_; refine wpList_alloc_ints rfl 105 rfl .u32 Z8 zero_state ?_; intro w2 hk2 hs2 hb2))
  have HS : St2 w w.heap.size w1.heap.size [a, b, c, d, e, f, p, q] Z8 w2 := by
    have q1 := hs1.out
    exact ⟨hk1.out.below hb2 (by omega), hk2.out, hb1.trans (hb2.mono (by omega)), by omega, by omega⟩
  obtain ⟨g, hg⟩ : ∃ g, w.heap.size = g := ⟨_, rfl⟩
  obtain ⟨r, hr⟩ : ∃ g, w1.heap.size = g := ⟨_, rfl⟩
  have HW := Lib.hid hg
  rw [hg, hr] at HS
  rw [hg, hr]
  clear hk1 hs1 hb1 hk2 hs2 hb2 hg hr
  obtain ⟨c0, c1, c2, c3, c4, c5, c6, c7, _⟩ := HS.cells
  have HSd := HS.drew
  have HSdd := HSd.drew
  go_region_held3 (fun w' => w'.cell? ⟨g, 0, none⟩ = some (.int .u32 a) ∧ w'.cell? ⟨g, 1, none⟩ = some (.int .u32 b) ∧ w'.cell? ⟨g, 2, none⟩ = some (.int .u32 c) ∧ w'.cell? ⟨g, 3, none⟩ = some (.int .u32 d) ∧ w'.cell? ⟨g, 4, none⟩ = some (.int .u32 e) ∧ w'.cell? ⟨g, 5, none⟩ = some (.int .u32 f) ∧ w'.cell? ⟨g, 6, none⟩ = some (.int .u32 p) ∧ w'.cell? ⟨g, 7, none⟩ = some (.int .u32 q) ∧ St2 w g r [a, b, c, d, e, f, p, q] Z8 w')
    (first | assumption | exact HSd.cells)
    (first
      | (go_at_call 95; (with_reducible refine (rturned_c e 6 11 25 hr4.1 hr4.2 (by omega) (by omega) (by omega) (by omega) (by omega) (by omega) _).mono ?_); rw [H1.out]; rintro r w5 ⟨rfl, rfl⟩)
      | (go_at_call 96; (with_reducible refine (rchoice_c e f p hr4.1 hr4.2 hr5.1 hr5.2 hr6.1 hr6.2 _).mono ?_); rw [H2.out]; rintro r w5 ⟨rfl, rfl⟩))
  go_wp2
  go_region_held3 (fun w' => w'.cell? ⟨g, 0, none⟩ = some (.int .u32 a) ∧ w'.cell? ⟨g, 1, none⟩ = some (.int .u32 b) ∧ w'.cell? ⟨g, 2, none⟩ = some (.int .u32 c) ∧ w'.cell? ⟨g, 3, none⟩ = some (.int .u32 d) ∧ w'.cell? ⟨g, 4, none⟩ = some (.int .u32 e) ∧ w'.cell? ⟨g, 5, none⟩ = some (.int .u32 f) ∧ w'.cell? ⟨g, 6, none⟩ = some (.int .u32 p) ∧ w'.cell? ⟨g, 7, none⟩ = some (.int .u32 q) ∧ St2 w g r [a, b, c, d, e, f, p, q] Z8 w')
    (first | assumption | exact HSdd.cells)
    (first
      | (go_at_call 95; (with_reducible refine (rturned_c a 2 13 22 hr0.1 hr0.2 (by omega) (by omega) (by omega) (by omega) (by omega) (by omega) _).mono ?_); rw [H3.out]; rintro r w5 ⟨rfl, rfl⟩)
      | (go_at_call 97; (with_reducible refine (rmajority_c a b c hr0.1 hr0.2 hr1.1 hr1.2 hr2.1 hr2.2 _).mono ?_); rw [H4.out]; rintro r w5 ⟨rfl, rfl⟩))
  have HS6 := Lib.hid HSdd.snd
  have f6 : IntKind.u32.wrap (t4 + u1) = v0 := by rw [IntKind.wrap_u32]; exact hv0
  have f7 : IntKind.u32.wrap (d + t4) = v4 := by rw [IntKind.wrap_u32]; exact hv4
  clear hv0 hv4
  go_wp2_with (first
    | (with_reducible refine at_any ?_; refine at_store 6 rfl ?_; refine wpList_store_ints rfl 105 (.tmp 6) (.tmp 57) rfl r rfl 105 .u32 Z8 [v0, a, b, c, v4, e, f, p] HS6.out (by kernel_rfl) (Z8_len8 _ _ _ _ _ _ _ _) (size_state8 _ _ _ _ _ _ _ _) ?_; intro w9 hk9 hs9 hb9 ho9)
    | (refine bodyPost_cell 6 105 rfl r rfl 105 .u32 [v0, a, b, c, v4, e, f, p] hk9.out _ Tryz.underlying105 rfl (size_state8 _ _ _ _ _ _ _ _) rfl ?_))
  exact HSdd.bel.trans (hb9 _ HSdd.out)
end Go.Proofs.YtomkidgmpbjgeaaGreatDoor
/-
  What the document's Start, Constant and Take (layer 4) return, and that they leave memory as it was.
  Conditions: the arguments lie in their types' ranges.
-/
set_option maxRecDepth 100000
set_option linter.unusedSimpArgs false
namespace Go.Proofs.YtomkidgmpbjgeaaGreatDoor
open Go.ChangeShapes Go.WideShapes Go.ChangeAt Go.RowKit
set_option linter.unusedVariables false
theorem rstart_c (w : World) : Calls Tryz.prog 72 #[] w fun e w' => e = .returned (.agg (intsA .u32 startL)) ∧ Below w.heap.size w w' := by
  have HL := Lib.hid (show Z8.length = startL.length from rfl)
  have HZ := Lib.hid (show (Tryz.prog.info? 105).map (·.size) = some startL.length from size_state)
  go_enter Tryz.func72, Tryz.ntmps72
  go_wp2_with (first
    | (with_reducible refine at_any ?_; refine at_dst 0 rfl ?_; refine wpList_alloc_ints rfl 105 rfl .u32 Z8 zero_state ?_; intro w2 hk2 hs2 hb2)
    | (with_reducible refine at_any ?_; refine at_store 0 rfl ?_; refine wpList_store_ints rfl 105 (.tmp 0) (.tmp 1) rfl w.heap.size rfl 105 .u32 Z8 startL hk2.out (by kernel_rfl) HL.out HZ.out ?_; intro w9 hk9 hs9 hb9 ho9)
    | (refine bodyPost_cell 0 105 rfl w.heap.size rfl 105 .u32 startL hk9.out _ Tryz.underlying105 rfl HZ.out rfl ?_))
  exact hb2.trans (hb9 _ (Nat.le_refl _))
theorem index_w64 (zs : List Int) (hl : zs.length = 64) (i : Int) (h0 : 0 ≤ i) (h1 : i ≤ 63) (w : World) : (Instr.index 126 (.agg (intsA .u32 zs)) (.int .i64 i)).run Tryz.prog w = .ok (.int .u32 (zs.getD i.toNat 0)) w := by
  obtain ⟨i0, hi, _, hs, _⟩ := info_parts info_u32c
  exact run_index_arr Tryz.underlying126 Tryz.underlying89 hi hs _ _ _ _ h0 (by omega) (intsA_at .u32 zs i.toNat (by omega)) w
theorem rconst_c (i : Int) (i0 : -9223372036854775808 ≤ i) (i1 : i ≤ 9223372036854775807) (w : World) :
    Calls Tryz.prog 88 #[.int .i64 i] w fun e w' => e = .returned (.int .u32 (constN i)) ∧ w = w' := by
  unfold constN
  by_cases h : 0 ≤ i ∧ i ≤ 63
  · rw [if_pos h]
    obtain ⟨h0, h1⟩ := h
    have hix := fun W => index_w64 constL constL_len i h0 h1 W
    obtain ⟨C, hC⟩ : ∃ C, constL.getD i.toNat 0 = C := ⟨_, rfl⟩
    obtain ⟨A, hA⟩ : ∃ A, intsA .u32 constL = A := ⟨_, rfl⟩
    rw [hC, hA] at hix
    rw [hC]
    have HA := Lib.hid hA
    clear hC hA
    go_enter Tryz.func88, Tryz.ntmps88
    go_wp2_with (with_reducible refine at_any ?_; refine at_dst 9 rfl ?_; refine wpList_val rfl (.agg A) (by rw [← HA.out]; kernel_rfl) ?_)
    go_ret
    exact ⟨rfl, rfl⟩
  · rw [if_neg h]
    by_cases h0 : i < 0
    · go_enter Tryz.func88, Tryz.ntmps88
      go_wp2
      go_ret
      exact ⟨rfl, rfl⟩
    · have h1 : 63 < i := by omega
      clear h
      go_enter Tryz.func88, Tryz.ntmps88
      go_wp2
      go_ret
      exact ⟨rfl, rfl⟩
/-- What Take keeps: the state that came in, the one to go out, the one at hand, and the plan. -/
def Tk (w : World) (g2 g4 g5 g6 : Nat) (s P z : List Int) (w' : World) : Prop := In3 w g2 g4 g6 105 105 105 .u32 .u32 .u32 s Z8 z w' ∧ BlkI w' g5 127 .u32 P ∧ g5 ≠ g6
section
variable {w w' w'' : World} {g2 g4 g5 g6 : Nat} {s P z : List Int}
theorem Tk.below (h : Tk w g2 g4 g5 g6 s P z w') (hb : Below w'.heap.size w' w'') : Tk w g2 g4 g5 g6 s P z w'' := ⟨h.1.below hb, h.2.1.below hb h.2.1.lt, h.2.2⟩
theorem Tk.drew (h : Tk w g2 g4 g5 g6 s P z w') : Tk w g2 g4 g5 g6 s P z w'.drew := ⟨h.1.drew, h.2.1, h.2.2⟩
theorem Tk.in3 (h : Tk w g2 g4 g5 g6 s P z w') : In3 w g2 g4 g6 105 105 105 .u32 .u32 .u32 s Z8 z w' := h.1
theorem Tk.plan (h : Tk w g2 g4 g5 g6 s P z w') : BlkI w' g5 127 .u32 P := h.2.1
theorem Tk.store (h : Tk w g2 g4 g5 g6 s P z w') {y : List Int} (hk : BlkI w'' g6 105 .u32 y) (hb : ∀ B, B ≤ g6 → Below B w' w'') (ho : ∀ j, j ≠ g6 → w''.heap[j]? = w'.heap[j]?) : Tk w g2 g4 g5 g6 s P y w'' := by
  obtain ⟨⟨h1, h2, h3, h4, h5, h6, h7⟩, h8, h9⟩ := h
  exact ⟨⟨h1.other ho h6, h2.other ho h7, hk, h4.trans (hb _ h5), h5, h6, h7⟩, h8.other ho h9, h9⟩
def TkW (w : World) (g2 g4 g5 g6 : Nat) (s P : List Int) (w' : World) : Prop := ∃ z, Tk w g2 g4 g5 g6 s P z w'
theorem TkW.plan (h : TkW w g2 g4 g5 g6 s P w') : BlkI w' g5 127 .u32 P := by obtain ⟨z, h⟩ := h; exact h.plan
end
theorem zero_planZ : ∀ W, (zeroValue 127).run Tryz.prog W = .ok (.agg (intsA .u32 Z64)) W := zero_plan
theorem constN_in (i : Int) : 0 ≤ constN i ∧ constN i < 4294967296 := by
  unfold constN
  split
  · have h : ∀ z ∈ constL, 0 ≤ z ∧ z < 4294967296 := by decide +kernel
    exact WIn.at_ h _
  · omega
theorem sized (s : List Int) (h : s.length = 8) : (Tryz.prog.info? 105).map (·.size) = some s.length := by rw [h]; exact size_state

set_option maxHeartbeats 2000000 in
theorem rtake_c (s b : List Int) (hl : s.length = 8) (hs : WIn s) (hbl : b.length = 64) (hb : ∀ z ∈ b, 0 ≤ z ∧ z < 256) (w : World) :
    Calls Tryz.prog 79 #[.agg (intsA .u32 s), .agg (intsA .u8 b)] w fun e w' => e = .returned (.agg (intsA .u32 (takeL s b))) ∧ Below w.heap.size w w' := by
  obtain ⟨X0, hx⟩ : ∃ x, rounds s b 64 = x := ⟨_, rfl⟩
  obtain ⟨R, hR⟩ : ∃ R, sums X0 s 8 = R := ⟨_, rfl⟩
  have hxl := rounds_len s b hl 64
  rw [hx] at hxl
  rw [show takeL s b = R by rw [takeL, hx, hR]]
  have HX := Lib.hid hx
  have HR := Lib.hid hR
  have HXL := Lib.hid hxl
  clear hx hR hxl
  have SZ := Lib.hid (sized s hl)
  have ZL := Lib.hid (show Z8.length = s.length by rw [hl]; rfl)
  have PZ := Lib.hid (show Z64.length = (planL b).length by rw [planL_len, Z64_len])
  have PS := Lib.hid (show (Tryz.prog.info? 127).map (·.size) = some (planL b).length by rw [planL_len]; exact size_plan)
  have BS := Lib.hid (show (Tryz.prog.info? 116).map (·.size) = some b.length by rw [hbl]; kernel_rfl)
  go_enter Tryz.func79, Tryz.ntmps79
  go_wp2_with (first
    | (with_reducible refine at_any ?_; refine at_dst 2 rfl ?_; refine wpList_box_ints rfl 105 (.tmp 0) rfl .u32 s rfl ?_; intro w1 hk1 hs1 hb1)
    | (with_reducible refine at_any ?_; refine at_dst 3 rfl ?_; refine wpList_box_ints rfl 116 (.tmp 1) rfl .u8 b rfl ?_; intro w2 hk2 hs2 hb2; have hk1b := Lib.hid (hk1.out.below hb2 hk1.out.lt))
    | (with_reducible refine at_any ?_; refine at_dst 4 rfl ?_; refine wpList_alloc_ints rfl 105 rfl .u32 Z8 zero_state ?_; intro w3 hk3 hs3 hb3; have hk1c := Lib.hid (hk1b.out.below hb3 hk1b.out.lt); have hk2c := Lib.hid (hk2.out.below hb3 hk2.out.lt); have bl3 := Lib.hid (hb1.trans ((hb2.mono hb1.size).trans (hb3.mono (by have := hb1.size; have := hb2.size; omega)))))
    | (with_reducible refine at_any ?_; refine at_dst 9 rfl ?_; refine wpList_load_ints rfl 116 (.tmp 3) rfl w1.heap.size rfl 116 .u8 b hk2c.out _ Tryz.underlying116 rfl BS.out ?_)
    | (go_at_call 86; (with_reducible refine (rof_c b hbl hb _).mono ?_); rintro e w4 ⟨rfl, hb4⟩; have hk1d := Lib.hid (hk1c.out.below hb4 hk1c.out.lt); have hk3d := Lib.hid (hk3.out.below hb4 hk3.out.lt); have bl4 := Lib.hid (bl3.out.trans (hb4.mono bl3.out.size)))
    | (with_reducible refine at_any ?_; refine at_dst 5 rfl ?_; refine wpList_alloc_ints rfl 127 rfl .u32 Z64 zero_planZ ?_; intro w5 hk5 hs5 hb5; have hk1e := Lib.hid (hk1d.out.below hb5 hk1d.out.lt); have hk3e := Lib.hid (hk3d.out.below hb5 hk3d.out.lt); have bl5 := Lib.hid (bl4.out.trans (hb5.mono bl4.out.size)))
    | (with_reducible refine at_any ?_; refine at_store 5 rfl ?_; refine wpList_store_ints rfl 127 (.tmp 5) (.tmp 10) rfl w4.heap.size rfl 127 .u32 Z64 (planL b) hk5.out rfl PZ.out PS.out ?_; intro w6 hk6 hs6 hb6 ho6; have hk1f := Lib.hid (hk1e.out.below (hb6 _ (Nat.le_refl _)) hk1d.out.lt); have hk3f := Lib.hid (hk3e.out.below (hb6 _ (Nat.le_refl _)) hk3d.out.lt); have bl6 := Lib.hid (bl5.out.trans (hb6 _ bl4.out.size)))
    | (with_reducible refine at_any ?_; refine at_dst 11 rfl ?_; refine wpList_load_ints rfl 105 (.tmp 2) rfl w.heap.size rfl 105 .u32 s hk1f.out _ Tryz.underlying105 rfl SZ.out ?_)
    | (with_reducible refine at_any ?_; refine at_dst 6 rfl ?_; refine wpList_alloc_ints rfl 105 rfl .u32 Z8 zero_state ?_; intro w7 hk7 hs7 hb7; have hk1g := Lib.hid (hk1f.out.below hb7 hk1f.out.lt); have hk3g := Lib.hid (hk3f.out.below hb7 hk3f.out.lt); have hk6g := Lib.hid (hk6.out.below hb7 hk6.out.lt); have bl7 := Lib.hid (bl6.out.trans (hb7.mono bl6.out.size)))
    | (with_reducible refine at_any ?_; refine at_store 6 rfl ?_; refine wpList_store_ints rfl 105 (.tmp 6) (.tmp 11) rfl w6.heap.size rfl 105 .u32 Z8 s hk7.out rfl ZL.out SZ.out ?_; intro w8 hk8 hs8 hb8 ho8))
  have HT : Tk w w.heap.size w2.heap.size w4.heap.size w6.heap.size s (planL b) (rounds s b 0) w8 := by
    have q1 := hk1f.out.lt
    have q3 := hk3f.out.lt
    have q6 := hk6.out.lt
    exact ⟨⟨hk1g.out.other ho8 (by omega), hk3g.out.other ho8 (by omega), hk8.out, bl7.out.trans (hb8 _ bl6.out.size), bl6.out.size, by omega, by omega⟩, hk6g.out.other ho8 (by omega), by omega⟩
  obtain ⟨g2, hg2⟩ : ∃ g, w.heap.size = g := ⟨_, rfl⟩
  obtain ⟨g4, hg4⟩ : ∃ g, w2.heap.size = g := ⟨_, rfl⟩
  obtain ⟨g5, hg5⟩ : ∃ g, w4.heap.size = g := ⟨_, rfl⟩
  obtain ⟨g6, hg6⟩ : ∃ g, w6.heap.size = g := ⟨_, rfl⟩
  have HG4 := Lib.hid (show w.heap.size ≤ g4 by have := hb1.size; have := hb2.size; omega)
  have HW := Lib.hid hg2
  rw [hg2, hg4, hg5, hg6] at HT
  rw [hg2, hg4, hg5, hg6]
  clear hk1 hs1 hb1 hk2 hs2 hb2 hk1b hk3 hs3 hb3 hk1c hk2c bl3 hb4 hk1d hk3d bl4 hk5 hs5 hb5 hk1e hk3e bl5 hk6 hs6 hb6 ho6 hk1f hk3f bl6 hk7 hs7 hb7 hk1g hk3g hk6g bl7 hk8 hs8 hb8 ho8 hg2 hg4 hg5 hg6 PZ PS BS ZL
  go_loopw [7] (fun v wr => ∃ i : Nat, i ≤ 64 ∧ v = .int .i64 i ∧ Tk w g2 g4 g5 g6 s (planL b) (rounds s b i) wr) (fun v _ => 64 - (intOf v).toNat)
  case atStart => exact ⟨0, by omega, rfl, HT⟩
  case round =>
    clear HT
    obtain ⟨i, hi, rfl, HT⟩ := hrel
    by_cases hlt : i < 64
    · have hxl := rounds_len s b hl i
      have hxi := rounds_in s b hs i
      have c5 : ∀ W, TkW w g2 g4 g5 g6 s (planL b) W → W.cell? ⟨g5, i, none⟩ = some (.int .u32 (pw b i)) := fun W h => h.plan.cell (j := i) (by rw [planL_len]; exact hlt)
      have ry := pw_in b hb i hlt
      obtain ⟨x, hx⟩ : ∃ x, rounds s b i = x := ⟨_, rfl⟩
      have hnx : rounds s b (i + 1) = roundL x (pw b i) (constN i) := by rw [rounds, hx]
      rw [hx] at hxl hxi HT
      obtain ⟨y, hy⟩ : ∃ y, pw b i = y := ⟨_, rfl⟩
      obtain ⟨k, hk⟩ : ∃ k, constN (i : Int) = k := ⟨_, rfl⟩
      have rk := constN_in (i : Int)
      rw [hy, hk] at hnx
      rw [hy] at c5 ry
      rw [hk] at rk
      have d1 := fun W => rconst_c (i : Int) (by omega) (by omega) W
      rw [hk] at d1
      have D1 := Lib.hid d1
      have D2 := Lib.hid (fun W => rround_c x y k hxl hxi ry.1 ry.2 rk.1 rk.2 W)
      have HXS := Lib.hid (sized x hxl)
      have HRS := Lib.hid (sized (roundL x y k) rfl)
      have HLL := Lib.hid (show x.length = (roundL x y k).length by rw [hxl]; rfl)
      have q0 : (0 : Int) ≤ (i : Int) ∧ (i : Int) < 64 := by omega
      have HNX := Lib.hid hnx
      have HTd := HT.drew
      clear hnx hx hy hk d1 hxl hxi rk ry
      go_wp2
      refine wp_region_held_drew (S := TkW w g2 g4 g5 g6 s (planL b)) (by kernel_rfl) (⟨_, HTd⟩) (fun hH => ?_)
      refine held_val 1 rfl (by kernel_rfl) (by kernel_rfl) (by kernel_rfl) (fun _ _ _ _ h => h) (by rfl) (.int .i64 (i : Int)) (fun W h => by go_simp) hH ?_
      try simp only [Act.put, List.setIfInBounds_toArray, List.set_cons_zero, List.set_cons_succ]
      refine held_val 2 rfl (by kernel_rfl) (by kernel_rfl) (by kernel_rfl) (fun _ _ _ _ h => h) (by rfl) (.pointer (some ⟨g5, i, none⟩)) (fun W h => by go_simp) hH ?_
      try simp only [Act.put, List.setIfInBounds_toArray, List.set_cons_zero, List.set_cons_succ]
      refine held_val 3 rfl (by kernel_rfl) (by kernel_rfl) (by kernel_rfl) (fun _ _ _ _ h => h) (by rfl) (.int .u32 y) (fun W h => by have c := c5 W h; go_simp) hH ?_
      try simp only [Act.put, List.setIfInBounds_toArray, List.set_cons_zero, List.set_cons_succ]
      refine held_val 4 rfl (by kernel_rfl) (by kernel_rfl) (by kernel_rfl) (fun _ _ _ _ h => h) (by rfl) (.int .i64 (i : Int)) (fun W h => by go_simp) hH ?_
      try simp only [Act.put, List.setIfInBounds_toArray, List.set_cons_zero, List.set_cons_succ]
      refine wpAnyH_ready (rs := [0, 5]) (by kernel_rfl) (by decide) ?_
      refine AllReadyH.cons rfl (fun K hK => ?_) (AllReadyH.cons rfl (fun K hK => ?_) AllReadyH.nil)
      · refine step_load_ints (by rfl) 105 (.tmp 6) rfl g6 (by kernel_rfl) 105 .u32 x HTd.in3.trd _ Tryz.underlying105 rfl HXS.out ?_
        refine hK.out _ _ hH (fun _ => ?_)
        clear hK K
        try simp only [Act.put, List.setIfInBounds_toArray, List.set_cons_zero, List.set_cons_succ]
        refine wpAnyH_ready (rs := [5]) (by kernel_rfl) (by decide) ?_
        refine AllReadyH.cons rfl (fun K hK => ?_) AllReadyH.nil
        go_simp
        refine (D1.out _).mono ?_
        rintro e _ ⟨rfl, rfl⟩
        refine hK.out _ _ hH (fun _ => ?_)
        clear hK K
        try simp only [Act.put, List.setIfInBounds_toArray, List.set_cons_zero, List.set_cons_succ]
        refine wpAnyH_ready (rs := [6]) (by kernel_rfl) (by decide) ?_
        refine AllReadyH.cons rfl (fun K hK => ?_) AllReadyH.nil
        go_simp
        refine (D2.out _).mono ?_
        rintro e w9 ⟨rfl, hbw9⟩
        have h9 := HTd.below hbw9
        refine hK.out _ _ ⟨_, h9⟩ (fun _ => ?_)
        clear hK K
        try simp only [Act.put, List.setIfInBounds_toArray, List.set_cons_zero, List.set_cons_succ]
        refine held_store 7 rfl (by kernel_rfl) (by rfl) 105 (.tmp 6) (.tmp 22) rfl g6 (by kernel_rfl) 105 .u32 x (roundL x y k) (h9.in3.trd) (by kernel_rfl) (HLL.out) (HRS.out) ?_
        intro w10 hkw10 hbw10 how10
        refine ⟨⟨_, h9.store hkw10.out hbw10 how10⟩, ?_⟩
        try simp only [Act.put, List.setIfInBounds_toArray, List.set_cons_zero, List.set_cons_succ]
        refine wpAnyH_done (by kernel_rfl) ?_ _
        have HN := Lib.hid (h9.store hkw10.out hbw10 how10)
        rw [← HNX.out] at HN
        go_wp2
        go_roundw
        case rel => exact ⟨i + 1, by omega, by go_num, HN.out⟩
        case measure => simp [intOf]; omega
      · go_simp
        refine (D1.out _).mono ?_
        rintro e _ ⟨rfl, rfl⟩
        refine hK.out _ _ hH (fun _ => ?_)
        clear hK K
        try simp only [Act.put, List.setIfInBounds_toArray, List.set_cons_zero, List.set_cons_succ]
        refine wpAnyH_ready (rs := [0]) (by kernel_rfl) (by decide) ?_
        refine AllReadyH.cons rfl (fun K hK => ?_) AllReadyH.nil
        refine step_load_ints (by rfl) 105 (.tmp 6) rfl g6 (by kernel_rfl) 105 .u32 x HTd.in3.trd _ Tryz.underlying105 rfl HXS.out ?_
        refine hK.out _ _ hH (fun _ => ?_)
        clear hK K
        try simp only [Act.put, List.setIfInBounds_toArray, List.set_cons_zero, List.set_cons_succ]
        refine wpAnyH_ready (rs := [6]) (by kernel_rfl) (by decide) ?_
        refine AllReadyH.cons rfl (fun K hK => ?_) AllReadyH.nil
        go_simp
        refine (D2.out _).mono ?_
        rintro e w9 ⟨rfl, hbw9⟩
        have h9 := HTd.below hbw9
        refine hK.out _ _ ⟨_, h9⟩ (fun _ => ?_)
        clear hK K
        try simp only [Act.put, List.setIfInBounds_toArray, List.set_cons_zero, List.set_cons_succ]
        refine held_store 7 rfl (by kernel_rfl) (by rfl) 105 (.tmp 6) (.tmp 22) rfl g6 (by kernel_rfl) 105 .u32 x (roundL x y k) (h9.in3.trd) (by kernel_rfl) (HLL.out) (HRS.out) ?_
        intro w10 hkw10 hbw10 how10
        refine ⟨⟨_, h9.store hkw10.out hbw10 how10⟩, ?_⟩
        try simp only [Act.put, List.setIfInBounds_toArray, List.set_cons_zero, List.set_cons_succ]
        refine wpAnyH_done (by kernel_rfl) ?_ _
        have HN := Lib.hid (h9.store hkw10.out hbw10 how10)
        rw [← HNX.out] at HN
        go_wp2
        go_roundw
        case rel => exact ⟨i + 1, by omega, by go_num, HN.out⟩
        case measure => simp [intOf]; omega
    · rw [show ((i : Nat) : Int) = 64 by omega]
      obtain rfl : i = 64 := by omega
      have hxl := HXL.out
      rw [HX.out] at HT
      have HI := HT.in3
      clear HT hi hlt
      go_wp2
      go_loopw [8] (fun v wr => ∃ i : Nat, i ≤ 8 ∧ v = .int .i64 i ∧ In3 w g2 g4 g6 105 105 105 .u32 .u32 .u32 s Z8 (sums X0 s i) wr) (fun v _ => 8 - (intOf v).toNat)
      case atStart => exact ⟨0, by omega, rfl, HI⟩
      case round =>
        clear HI
        obtain ⟨i, hi, rfl, HI⟩ := hrel
        by_cases hlt : i < 8
        · have hsl := sums_len X0 s i
          have c6 := HI.trd.cell (j := i) (by omega)
          rw [sums_at X0 s i i (Nat.le_refl _)] at c6
          have f6 := HI.trd.frozen i
          have c2 := HI.fst.cell (j := i) (by omega)
          have HN := Lib.hid (HI.set_ i ((X0.getD i 0 + s.getD i 0) % 4294967296)).drew
          rw [← sums] at HN
          obtain ⟨y, hy⟩ : ∃ y, X0.getD i 0 = y := ⟨_, rfl⟩
          obtain ⟨z, hz⟩ : ∃ z, s.getD i 0 = z := ⟨_, rfl⟩
          obtain ⟨v, hv⟩ : ∃ v, (y + z) % 4294967296 = v := ⟨_, rfl⟩
          rw [hy] at c6
          rw [hz] at c2
          rw [hy, hz, hv] at HN
          have e1 : IntKind.u32.wrap (y + z) = v := by rw [IntKind.wrap_u32]; exact hv
          have q0 : (0 : Int) ≤ (i : Int) ∧ (i : Int) < 8 := by omega
          clear HI hy hz hv hsl
          go_wp2
          go_region
          all_goals
            go_wp2
            go_roundw
            case rel => exact ⟨i + 1, by omega, by go_num, HN.out⟩
            case measure => simp [intOf]; omega
        · rw [show ((i : Nat) : Int) = 8 by omega]
          obtain rfl : i = 8 := by omega
          have hsl := sums_len X0 s 8
          rw [hxl] at hsl
          have RZ := Lib.hid (sized (sums X0 s 8) hsl)
          have RL := Lib.hid (show Z8.length = (sums X0 s 8).length by rw [hsl]; rfl)
          have H6 := Lib.hid HI.trd
          have H4 := Lib.hid HI.snd
          have HB := Lib.hid HI.bel
          rw [HR.out] at RZ RL H6
          clear HI hi hlt hsl
          go_wp2_with (first
            | (with_reducible refine at_any ?_; refine at_dst 36 rfl ?_; refine wpList_load_ints rfl 105 (.tmp 6) rfl g6 rfl 105 .u32 R H6.out _ Tryz.underlying105 rfl RZ.out ?_)
            | (with_reducible refine at_any ?_; refine at_store 4 rfl ?_; refine wpList_store_ints rfl 105 (.tmp 4) (.tmp 36) rfl g4 rfl 105 .u32 Z8 R H4.out rfl RL.out RZ.out ?_; intro w9 hk9 hs9 hb9 ho9)
            | (refine bodyPost_cell 4 105 rfl g4 rfl 105 .u32 R hk9.out _ Tryz.underlying105 rfl RZ.out rfl ?_))
          first | exact HB.out.trans (hb9 _ HG4.out) | (rw [← HW.out]; exact HB.out.trans (hb9 _ HG4.out))
end Go.Proofs.YtomkidgmpbjgeaaGreatDoor
/-
  What the document's answers for layer 5 return (hash, take, Join, Sum), and that they leave memory as it was.
  Conditions: the arguments lie in their types' ranges; what is hashed is small.
-/
set_option maxRecDepth 100000
set_option linter.unusedSimpArgs false
namespace Go.Proofs.YtomkidgmpbjgeaaGreatDoor
open Go.ChangeShapes Go.WideShapes Go.ChangeAt Go.RowKit
set_option linter.unusedVariables false
theorem zero_hash : ∀ W, (zeroValue 28).run Tryz.prog W = .ok (.agg (intsA .u8 (List.replicate 32 0))) W := (zero_of_info (n := 32) (by kernel_rfl)).1
theorem size_hash : (Tryz.prog.info? 28).map (·.size) = some 32 := by kernel_rfl
theorem size_blk : (Tryz.prog.info? 116).map (·.size) = some 64 := by kernel_rfl

set_option maxHeartbeats 1000000 in
theorem rhash_c (l : List Int) (hl : l.length = 8) (hb : ∀ z ∈ l, 0 ≤ z ∧ z < 4294967296) (w : World) :
    Calls Tryz.prog 70 #[.agg (intsA .u32 l)] w fun e w' => e = .returned (.agg (intsA .u8 (hashL l))) ∧ Below w.heap.size w w' := by
  go_enter Tryz.func70, Tryz.ntmps70
  go_wp2_with (first
    | (with_reducible refine at_any ?_; refine at_dst 1 rfl ?_; refine wpList_box_ints rfl 105 (.tmp 0) rfl .u32 l rfl ?_; intro w1 hk1 hs1 hb1)
    | (with_reducible refine at_any ?_; refine at_dst 2 rfl ?_; refine wpList_alloc_ints rfl 28 rfl .u8 (List.replicate 32 0) zero_hash ?_; intro w2 hk2 hs2 hb2)
    | (with_reducible refine at_any ?_; refine at_dst 3 rfl ?_; refine wpList_alloc_ints rfl 28 rfl .u8 (List.replicate 32 0) zero_hash ?_; intro w3 hk3 hs3 hb3))
  have HI : In3 w w.heap.size w1.heap.size w2.heap.size 105 28 28 .u32 .u8 .u8 l (List.replicate 32 0) (hashF l 0 0) w3 := by
    rw [hashF_zero]
    have q1 := hs1.out
    have q2 := hs2.out
    have q3 := hs3.out
    exact ⟨(hk1.out.below hb2 (by omega)).below hb3 (by omega), hk2.out.below hb3 (by omega), hk3.out, hb1.trans ((hb2.mono (by omega)).trans (hb3.mono (by omega))), by omega, by omega, by omega⟩
  obtain ⟨g1, hg1⟩ : ∃ g, w.heap.size = g := ⟨_, rfl⟩
  obtain ⟨g2, hg2⟩ : ∃ g, w1.heap.size = g := ⟨_, rfl⟩
  obtain ⟨g3, hg3⟩ : ∃ g, w2.heap.size = g := ⟨_, rfl⟩
  have HG2 := Lib.hid (show w.heap.size ≤ g2 by have := hb1.size; omega)
  rw [hg1, hg2, hg3] at HI
  rw [hg1, hg2, hg3]
  clear hk1 hs1 hb1 hk2 hs2 hb2 hk3 hs3 hb3
  go_loopw [4] (fun v wr => ∃ i : Nat, i ≤ 8 ∧ v = .int .i64 i ∧ In3 w g1 g2 g3 105 28 28 .u32 .u8 .u8 l (List.replicate 32 0) (hashF l i 0) wr) (fun v _ => 8 - (intOf v).toNat)
  case atStart => exact ⟨0, by omega, rfl, HI⟩
  case round =>
    clear HI
    obtain ⟨wo, rfl⟩ : ∃ wo, wo = wr := ⟨_, rfl⟩
    obtain ⟨i, hi, rfl, HI⟩ := hrel
    by_cases hlt : i < 8
    · have c0 := HI.1.cell (j := i) (by omega)
      have rx : 0 ≤ l.getD i 0 ∧ l.getD i 0 < 4294967296 := by
        have h : i < l.length := by omega
        simp [h]; exact hb _ (List.getElem_mem h)
      obtain ⟨ps, hps⟩ : ∃ ps, put4L (l.getD i 0) = ps := ⟨_, rfl⟩
      have hset : ∀ k, k < 4 → (hashF l i k).set (4 * i + k) (ps.getD k 0) = hashF l i (k + 1) := by
        intro k hk
        have := hashF_set l i k hk hlt
        rwa [hps] at this
      obtain ⟨x, hx⟩ : ∃ x, l.getD i 0 = x := ⟨_, rfl⟩
      rw [hx] at c0 rx hps
      obtain ⟨p0, p1, p2, p3, rfl⟩ : ∃ p0 p1 p2 p3, ps = [p0, p1, p2, p3] := ⟨_, _, _, _, hps.symm⟩
      have hput := fun W => rput32_c x rx.1 rx.2 W
      have hp4 : put4 x = ((put4L x).map (Value.int .u8)).toArray := rfl
      rw [hp4, hps] at hput
      have HP := Lib.hid hput
      have HSET := Lib.hid hset
      have HI' := Lib.hid HI
      clear hput hp4 hps hset hx HI
      go_wp2_with (go_at_call 78; (with_reducible refine (HP.out _).mono ?_); rintro e w4 ⟨rfl, hb4, _⟩)
      have HB5 := Lib.hid (BlkI.new w4 119 .u8 [p0, p1, p2, p3])
      have HI5 := Lib.hid ((HI'.out.below hb4).below ((Below.refl _ _).alloc (Nat.le_refl _) (Obj.cells (intsA .u8 [p0, p1, p2, p3]) 119)))
      have hne : w4.heap.size ≠ g3 := by have := (HI'.out.below hb4).2.2.1.lt; omega
      obtain ⟨W5, hW5⟩ : ∃ W5, w4.alloc (Obj.cells #[.int .u8 p0, .int .u8 p1, .int .u8 p2, .int .u8 p3] 119) = W5 := ⟨_, rfl⟩
      have hW5' : w4.alloc (Obj.cells (intsA .u8 [p0, p1, p2, p3]) 119) = W5 := hW5
      rw [hW5'] at HB5 HI5
      rw [hW5]
      obtain ⟨g5, hg5⟩ : ∃ g, w4.heap.size = g := ⟨_, rfl⟩
      rw [hg5] at HB5 hne ⊢
      clear hW5 hW5' hg5 hb4 HI' c0 rx HP
      obtain ⟨ps, hps⟩ : ∃ ps, [p0, p1, p2, p3] = ps := ⟨_, rfl⟩
      have hpl : ps.length = 4 := by rw [← hps]; rfl
      rw [hps] at HB5 HSET
      clear hps
      go_loopw [6] (fun v wq => ∃ k : Nat, k ≤ 4 ∧ v = .int .i64 k ∧ In3 w g1 g2 g3 105 28 28 .u32 .u8 .u8 l (List.replicate 32 0) (hashF l i k) wq ∧ BlkI wq g5 119 .u8 ps) (fun v _ => 4 - (intOf v).toNat)
      case atStart => exact ⟨0, by omega, rfl, HI5.out, HB5.out⟩
      case round =>
        clear HI5 HB5
        obtain ⟨k, hk, rfl, HI, HB⟩ := hrel
        by_cases hkl : k < 4
        · have c5 := HB.cell (j := k) (by omega)
          have hbl := hashF_len l i k (by omega) (by omega)
          have c3 := HI.2.2.1.cell (j := 4 * i + k) (by omega)
          have f3 := HI.2.2.1.frozen (4 * i + k)
          have HN := Lib.hid (HI.set_ (4 * i + k) (ps.getD k 0))
          rw [HSET.out k hkl] at HN
          have HBN := Lib.hid (HB.far (p := ⟨g3, 4 * i + k, none⟩) hne (.int .u8 (ps.getD k 0)))
          obtain ⟨y, hy⟩ : ∃ y, ps.getD k 0 = y := ⟨_, rfl⟩
          rw [hy] at c5 HN HBN
          clear hy HI HB hbl
          go_wp2
          go_roundw
          case rel => exact ⟨k + 1, by omega, by go_num, HN.out, HBN.out⟩
          case measure => simp [intOf]; omega
        · rw [show ((k : Nat) : Int) = 4 by omega]
          obtain rfl : k = 4 := by omega
          rw [hashF_next] at HI
          have HI' := Lib.hid HI
          clear HI hk hkl
          go_wp2
          go_roundw
          case rel => exact ⟨i + 1, by omega, by go_num, HI'.out⟩
          case measure => simp [intOf]; omega
    · rw [show ((i : Nat) : Int) = 8 by omega]
      obtain rfl : i = 8 := by omega
      rw [hashF_full] at HI
      obtain ⟨h1, h2, h3, h4, h5, h6, h7⟩ := HI
      have hpl : (hashL l).length = 32 := backTo_len l 8
      have HPL := Lib.hid hpl
      have H3 := Lib.hid h3
      have H2 := Lib.hid h2
      have hg2 : w.heap.size ≤ g2 := HG2.out
      clear hpl h1 h2 h3
      go_wp2_with (first
        | (with_reducible refine at_any ?_; refine at_dst 27 rfl ?_; refine wpList_load_ints rfl 28 (.tmp 3) rfl g3 rfl 28 .u8 (hashL l) H3.out _ Tryz.underlying28 rfl (by rw [HPL.out]; exact size_hash) ?_)
        | (with_reducible refine at_any ?_; refine at_store 2 rfl ?_; refine wpList_store_ints rfl 28 (.tmp 2) (.tmp 27) rfl g2 rfl 28 .u8 (List.replicate 32 0) (hashL l) H2.out rfl (by rw [HPL.out]; simp) (by rw [HPL.out]; exact size_hash) ?_; intro w9 hk9 hs9 hb9 ho9)
        | (refine bodyPost_cell 2 28 rfl g2 rfl 28 .u8 (hashL l) hk9.out _ Tryz.underlying28 rfl (by rw [HPL.out]; exact size_hash) rfl ?_))
      rw [← hg1]
      exact h4.trans (hb9 _ hg2)

/-- What take keeps: the state so far, and its result's place. -/
def Tk5 (w : World) (g2 g4 : Nat) (z : List Int) (w' : World) : Prop := BlkI w' g2 105 .u32 z ∧ BlkI w' g4 105 .u32 Z8 ∧ Below w.heap.size w w' ∧ w.heap.size ≤ g2 ∧ g4 ≠ g2
section
variable {w w' w'' : World} {g2 g4 : Nat} {z : List Int}
theorem Tk5.below (h : Tk5 w g2 g4 z w') (hb : Below w'.heap.size w' w'') : Tk5 w g2 g4 z w'' := ⟨h.1.below hb h.1.lt, h.2.1.below hb h.2.1.lt, h.2.2.1.trans (hb.mono h.2.2.1.size), h.2.2.2⟩
theorem Tk5.drew (h : Tk5 w g2 g4 z w') : Tk5 w g2 g4 z w'.drew := ⟨h.1, h.2.1, h.2.2.1.drew, h.2.2.2⟩
theorem Tk5.store (h : Tk5 w g2 g4 z w') {y : List Int} (hk : BlkI w'' g2 105 .u32 y) (hb : ∀ B, B ≤ g2 → Below B w' w'') (ho : ∀ j, j ≠ g2 → w''.heap[j]? = w'.heap[j]?) : Tk5 w g2 g4 y w'' :=
  ⟨hk, h.2.1.other ho h.2.2.2.2, h.2.2.1.trans (hb _ h.2.2.2.1), h.2.2.2⟩
def Tk5W (w : World) (g2 g4 : Nat) (w' : World) : Prop := ∃ z, Tk5 w g2 g4 z w'
theorem Tk5W.bel (h : Tk5W w g2 g4 w') : Below w.heap.size w w' := by obtain ⟨z, h⟩ := h; exact h.2.2.1
end
set_option maxHeartbeats 2000000 in
theorem rtakes_c (s : List Int) (A : Option Addr) (n c : Nat) (bs : List (List Int)) (hl : s.length = 8) (hs : WIn s) (w : World) (hr : RdA .u8 64 w w.heap.size A n bs) (hb : ∀ b ∈ bs, ∀ z ∈ b, 0 ≤ z ∧ z < 256) (hn : n ≤ 1000000) :
    Calls Tryz.prog 71 #[.agg (intsA .u32 s), .slice A n c] w fun e w' => e = .returned (.agg (intsA .u32 (takesL s bs))) ∧ Below w.heap.size w w' := by
  have SR := Lib.hid (sized (takesL s bs) (takesL_len s bs hl))
  have ZR := Lib.hid (show Z8.length = (takesL s bs).length by rw [takesL_len s bs hl]; rfl)
  have HR := Lib.hid hr
  have hnl := hr.1
  clear hr
  go_enter Tryz.func71, Tryz.ntmps71
  go_wp2_with (first
    | (with_reducible refine at_any ?_; refine at_dst 2 rfl ?_; refine wpList_box_ints rfl 105 (.tmp 0) rfl .u32 s rfl ?_; intro w1 hk1 hs1 hb1)
    | (with_reducible refine at_any ?_; refine at_dst 4 rfl ?_; refine wpList_alloc_ints rfl 105 rfl .u32 Z8 zero_state ?_; intro w2 hk2 hs2 hb2))
  have HT : Tk5 w w.heap.size w1.heap.size (takesL s (bs.take 0)) w2 := by
    have q1 := hs1.out
    exact ⟨hk1.out.below hb2 hk1.out.lt, hk2.out, hb1.trans (hb2.mono hb1.size), Nat.le_refl _, by omega⟩
  obtain ⟨g2, hg2⟩ : ∃ g, w.heap.size = g := ⟨_, rfl⟩
  obtain ⟨g4, hg4⟩ : ∃ g, w1.heap.size = g := ⟨_, rfl⟩
  have HG4 := Lib.hid (show w.heap.size ≤ g4 by have := hb1.size; omega)
  have HW := Lib.hid hg2
  rw [hg2, hg4] at HT
  rw [hg2, hg4]
  have HNL := Lib.hid hnl
  clear hk1 hs1 hb1 hk2 hs2 hb2 hg2 hg4 hnl
  go_loopw [5] (fun v wr => ∃ i : Nat, i ≤ n ∧ v = .int .i64 i ∧ Tk5 w g2 g4 (takesL s (bs.take i)) wr) (fun v _ => n - (intOf v).toNat)
  case atStart => exact ⟨0, by omega, rfl, HT⟩
  case round =>
    clear HT
    obtain ⟨i, hi, rfl, HT⟩ := hrel
    by_cases hlt : i < n
    · obtain ⟨b0, off, rfl, hb0, _⟩ := HR.out.at_ hlt
      have HRG := Lib.hid (show ∀ W, Tk5W w g2 g4 W → W.rangeAt b0 (off + i * 64) ((bs.getD i []).map (Value.int .u8)) from fun W h => by
        obtain ⟨b1, off1, e1, _, h1⟩ := (HR.out.below h.bel).at_ hlt
        injection e1 with e1
        injection e1 with e1 e2
        subst e1 e2
        exact h1)
      have hil : i < bs.length := by have := HNL.out; omega
      have hnx := takesL_next s bs i hil
      have hxl := takesL_len s (bs.take i) hl
      have hxi := takesL_in s (bs.take i) hs
      have hmem : bs.getD i [] ∈ bs := by simp [List.getD, List.getElem?_eq_getElem hil]
      have hbl : (bs.getD i []).length = 64 := HR.out.2.1 _ hmem
      have hbi := hb _ hmem
      obtain ⟨x, hx⟩ : ∃ x, takesL s (bs.take i) = x := ⟨_, rfl⟩
      obtain ⟨b, hbb⟩ : ∃ b, bs.getD i [] = b := ⟨_, rfl⟩
      rw [hx] at hnx hxl hxi HT
      rw [hbb] at hnx hbl hbi HRG
      have D1 := Lib.hid (fun W => rtake_c x b hxl hxi hbl hbi W)
      have HXS := Lib.hid (sized x hxl)
      have HYS := Lib.hid (sized (takeL x b) (takeL_len x b hxl))
      have HLL := Lib.hid (show x.length = (takeL x b).length by rw [takeL_len x b hxl, hxl])
      have HBS := Lib.hid (show (Tryz.prog.info? 116).map (·.size) = some (b.map (Value.int .u8)).length by rw [List.length_map, hbl]; exact size_blk)
      have HNX := Lib.hid hnx
      have HTd := HT.drew
      have q0 : (0 : Int) ≤ (i : Int) ∧ (i : Int) < (n : Int) := by omega
      clear hnx hx hbb hxl hxi hbl hbi hmem hil
      go_wp2
      refine wp_region_held_drew (S := Tk5W w g2 g4) (by kernel_rfl) (⟨_, HTd⟩) (fun hH => ?_)
      refine held_val 1 rfl (by kernel_rfl) (by kernel_rfl) (by kernel_rfl) (fun _ _ _ _ h => h) (by rfl) (.slice (some ⟨b0, off, none⟩) n c) (fun W h => by go_simp) hH ?_
      try simp only [Act.put, List.setIfInBounds_toArray, List.set_cons_zero, List.set_cons_succ]
      refine held_val 2 rfl (by kernel_rfl) (by kernel_rfl) (by kernel_rfl) (fun _ _ _ _ h => h) (by rfl) (.int .i64 (i : Int)) (fun W h => by go_simp) hH ?_
      try simp only [Act.put, List.setIfInBounds_toArray, List.set_cons_zero, List.set_cons_succ]
      refine held_val 3 rfl (by kernel_rfl) (by kernel_rfl) (by kernel_rfl) (fun _ _ _ _ h => h) (by rfl) (.pointer (some ⟨b0, off + i * 64, none⟩)) (fun W h => by go_simp) hH ?_
      try simp only [Act.put, List.setIfInBounds_toArray, List.set_cons_zero, List.set_cons_succ]
      refine held_load_mid 4 rfl (by kernel_rfl) (by kernel_rfl) (by kernel_rfl) (fun _ _ _ _ h => h) (by rfl) 116 (.tmp 15) rfl b0 (off + i * 64) (by kernel_rfl) (b.map (Value.int .u8)) HRG.out _ Tryz.underlying116 rfl HBS.out hH ?_
      try simp only [Act.put, List.setIfInBounds_toArray, List.set_cons_zero, List.set_cons_succ]
      refine wpAnyH_ready (rs := [0]) (by kernel_rfl) (by decide) ?_
      refine AllReadyH.cons rfl (fun K hK => ?_) AllReadyH.nil
      refine step_load_ints (by rfl) 105 (.tmp 2) rfl g2 (by kernel_rfl) 105 .u32 x HTd.1 _ Tryz.underlying105 rfl HXS.out ?_
      refine hK.out _ _ hH (fun _ => ?_)
      clear hK K
      try simp only [Act.put, List.setIfInBounds_toArray, List.set_cons_zero, List.set_cons_succ]
      refine wpAnyH_ready (rs := [5]) (by kernel_rfl) (by decide) ?_
      refine AllReadyH.cons rfl (fun K hK => ?_) AllReadyH.nil
      go_simp
      refine (D1.out _).mono ?_
      rintro e w9 ⟨rfl, hbw9⟩
      have h9 := HTd.below hbw9
      refine hK.out _ _ ⟨_, h9⟩ (fun _ => ?_)
      clear hK K
      try simp only [Act.put, List.setIfInBounds_toArray, List.set_cons_zero, List.set_cons_succ]
      refine held_store 6 rfl (by kernel_rfl) (by rfl) 105 (.tmp 2) (.tmp 17) rfl g2 (by kernel_rfl) 105 .u32 x (takeL x b) (h9.1) (by kernel_rfl) (HLL.out) (HYS.out) ?_
      intro w10 hkw10 hbw10 how10
      refine ⟨⟨_, h9.store hkw10.out hbw10 how10⟩, ?_⟩
      try simp only [Act.put, List.setIfInBounds_toArray, List.set_cons_zero, List.set_cons_succ]
      refine wpAnyH_done (by kernel_rfl) ?_ _
      have HN := Lib.hid (h9.store hkw10.out hbw10 how10)
      rw [← HNX.out] at HN
      go_wp2
      go_roundw
      case rel => exact ⟨i + 1, by omega, by go_num, HN.out⟩
      case measure => simp [intOf]; omega
    · obtain rfl : i = n := by omega
      rw [List.take_of_length_le (by rw [HNL.out]; exact Nat.le_refl _)] at HT
      obtain ⟨h1, h2, h3, h4⟩ := HT
      have H1 := Lib.hid h1
      have H2 := Lib.hid h2
      clear h1 h2
      go_wp2_with (first
        | (with_reducible refine at_any ?_; refine at_dst 18 rfl ?_; refine wpList_load_ints rfl 105 (.tmp 2) rfl g2 rfl 105 .u32 (takesL s bs) H1.out _ Tryz.underlying105 rfl SR.out ?_)
        | (with_reducible refine at_any ?_; refine at_store 4 rfl ?_; refine wpList_store_ints rfl 105 (.tmp 4) (.tmp 18) rfl g4 rfl 105 .u32 Z8 (takesL s bs) H2.out rfl ZR.out SR.out ?_; intro w9 hk9 hs9 hb9 ho9)
        | (refine bodyPost_cell 4 105 rfl g4 rfl 105 .u32 (takesL s bs) hk9.out _ Tryz.underlying105 rfl SR.out rfl ?_))
      first | exact h3.trans (hb9 _ HG4.out) | (rw [← HW.out]; exact h3.trans (hb9 _ HG4.out))

def joinL (rs : List Row) : List Int := (rs.map (·.zs)).flatten
theorem joinL_next (rs : List Row) (i : Nat) (r : Row) (h : rs[i]? = some r) : joinL (rs.take (i + 1)) = joinL (rs.take i) ++ r.zs := by
  obtain ⟨hi, e⟩ := List.getElem?_eq_some_iff.1 h
  unfold joinL
  rw [List.take_succ_eq_append_getElem hi, List.map_append, List.flatten_append, e]
  simp
theorem joinL_len (rs : List Row) (m : Nat) (h : ∀ r ∈ rs, r.zs.length ≤ m) : (joinL rs).length ≤ rs.length * m := by
  induction rs with
  | nil => simp [joinL]
  | cons r rs ih =>
    have h1 := h r (by simp)
    have h2 := ih fun x hx => h x (by simp [hx])
    have e : (joinL (r :: rs)).length = r.zs.length + (joinL rs).length := by simp [joinL]
    rw [e, List.length_cons, Nat.add_mul]
    omega
theorem joinL_take_len (rs : List Row) (m i : Nat) (h : ∀ r ∈ rs, r.zs.length ≤ m) : (joinL (rs.take i)).length ≤ rs.length * m := by
  have h1 := joinL_len (rs.take i) m fun r hr => h r (List.mem_of_mem_take hr)
  have h2 : (rs.take i).length ≤ rs.length := List.length_take_le' ..
  have h3 := Nat.mul_le_mul_right m h2
  omega
end Go.Proofs.YtomkidgmpbjgeaaGreatDoor
/-
  What the document's answers for layer 5 return (Sum, New, Right, Write, Finish), and that they leave memory as it was.
  Conditions: the arguments lie in their types' ranges; what is hashed is small.
-/
set_option maxRecDepth 100000
set_option linter.unusedSimpArgs false
namespace Go.Proofs.YtomkidgmpbjgeaaGreatDoor
open Go.ChangeShapes Go.WideShapes Go.ChangeAt Go.RowKit
set_option linter.unusedVariables false
theorem OwnI.cap {w : World} {base : Nat} {e : TypeId} {k : IntKind} {A : Option Addr} {n c : Nat} {zs : List Int} (h : OwnI w base e k (.slice A n c) zs) : n ≤ c ∧ zs.length = n := by
  obtain ⟨A', c', e', h1, h2⟩ := h.form
  injection e' with e1 e2 e3
  subst e2 e3
  exact ⟨h1, rfl⟩
/-! ### a writer as a value -/
def wrV (s : List Int) (A : Option Addr) (r c : Nat) (n : Int) : Array Value := (s.map (Value.int .u32) ++ [Value.slice A r c, Value.int .u64 n]).toArray
theorem wrV_size (s : List Int) (hl : s.length = 8) (A : Option Addr) (r c : Nat) (n : Int) : (wrV s A r c n).size = 10 := by simp [wrV, hl]
theorem wrV_ones (s : List Int) (A : Option Addr) (r c : Nat) (n : Int) : (wrV s A r c n).all (·.oneCell') = true := all_oneCell_toArray (by
  intro u hu
  rcases List.mem_append.1 hu with h | h
  · exact ints_one .u32 s u h
  · simp only [List.mem_cons, List.not_mem_nil, or_false] at h
    rcases h with h | h <;> subst h <;> rfl)
theorem wrV_rest (s : List Int) (hl : s.length = 8) (A : Option Addr) (r c : Nat) (n : Int) : (wrV s A r c n)[8]? = some (.slice A r c) := by
  unfold wrV
  rw [List.getElem?_toArray, List.getElem?_append_right (by simp; omega)]
  simp [hl]
theorem wrV_bytes (s : List Int) (hl : s.length = 8) (A : Option Addr) (r c : Nat) (n : Int) : (wrV s A r c n)[9]? = some (.int .u64 n) := by
  unfold wrV
  rw [List.getElem?_toArray, List.getElem?_append_right (by simp; omega)]
  simp [hl]
theorem wrV_state {w : World} {g : Nat} {t : TypeId} {s : List Int} {A : Option Addr} {r c : Nat} {n : Int} (h : Blk w g t (wrV s A r c n)) : w.rangeAt g 0 (s.map (Value.int .u32)) := by
  intro j v hv
  rw [Nat.zero_add, h.cell]
  unfold wrV
  rw [List.getElem?_toArray]
  have hj : j < (s.map (Value.int .u32)).length := by
    rcases Nat.lt_or_ge j (s.map (Value.int .u32)).length with h1 | h1
    · exact h1
    · rw [List.getElem?_eq_none h1] at hv; cases hv
  rw [List.getElem?_append_left hj]
  exact hv
theorem size_wr : (Tryz.prog.info? 112).map (·.size) = some 10 := by kernel_rfl
theorem zero_wr : ∀ W, (zeroValue 112).run Tryz.prog W = .ok (.agg (wrV Z8 none 0 0 0)) W := (zero_of_info (n := 10) (by kernel_rfl)).1
theorem sizedW (s : List Int) (hl : s.length = 8) (A : Option Addr) (r c : Nat) (n : Int) : (Tryz.prog.info? 112).map (·.size) = some (wrV s A r c n).size := by rw [wrV_size s hl]; exact size_wr
theorem sizedWL (s : List Int) (hl : s.length = 8) (A : Option Addr) (r c : Nat) (n : Int) : (Tryz.prog.info? 112).map (·.size) = some (wrV s A r c n).toList.length := by rw [Array.length_toList]; exact sizedW s hl A r c n
theorem run_build_wr (s0 s1 s2 s3 s4 s5 s6 s7 : Int) (A : Option Addr) (r c : Nat) (n : Int) (w : World) :
    (Instr.build 112 #[(0, .agg #[.int .u32 s0, .int .u32 s1, .int .u32 s2, .int .u32 s3, .int .u32 s4, .int .u32 s5, .int .u32 s6, .int .u32 s7]), (1, .slice A r c), (2, .int .u64 n)]).run Tryz.prog w = .ok (.agg #[.int .u32 s0, .int .u32 s1, .int .u32 s2, .int .u32 s3, .int .u32 s4, .int .u32 s5, .int .u32 s6, .int .u32 s7, .slice A r c, .int .u64 n]) w := by
  go_simp
theorem build_wr {a : Act} {o : Oper} {x y z : Operand} (w : World) (s : List Int) (hl : s.length = 8) (A : Option Addr) (r c : Nat) (n : Int) (ho : o.op = .build 112 #[(0, x), (1, y), (2, z)]) (hx : a.eval x = .agg (intsA .u32 s)) (hy : a.eval y = .slice A r c) (hz : a.eval z = .int .u64 n) :
    (execOp a.eval o).run Tryz.prog w = .ok (.value (.agg (wrV s A r c n))) w := by
  rw [list8 s hl] at hx ⊢
  have h := run_build_wr (s.getD 0 0) (s.getD 1 0) (s.getD 2 0) (s.getD 3 0) (s.getD 4 0) (s.getD 5 0) (s.getD 6 0) (s.getD 7 0) A r c n w
  unfold execOp
  simp only [ho, List.map_toArray, List.map_cons, List.map_nil, hx, hy, hz]
  change ((Instr.build 112 #[(0, .agg #[.int .u32 (s.getD 0 0), .int .u32 (s.getD 1 0), .int .u32 (s.getD 2 0), .int .u32 (s.getD 3 0), .int .u32 (s.getD 4 0), .int .u32 (s.getD 5 0), .int .u32 (s.getD 6 0), .int .u32 (s.getD 7 0)]), (1, .slice A r c), (2, .int .u64 n)]) >>= fun v => pure (Next.value v)).run Tryz.prog w = _
  simp only [Sem.run_bind, h, Result.andThen_ok, Sem.run_pure]
  rfl
set_option maxHeartbeats 1000000 in
theorem rsum_c (A : Option Addr) (c L : Nat) (b : List Int) (w : World) (hr : Rd .u8 w w.heap.size A L b) (hc : L ≤ c) (hL : L ≤ 100000) (hbb : ∀ z ∈ b, 0 ≤ z ∧ z < 256) :
    Calls Tryz.prog 65 #[.slice A L c] w fun e w' => e = .returned (.agg (intsA .u8 (shaL b))) ∧ Below w.heap.size w w' := by
  have hpl := padL_len5 b
  have hlen := hr.len
  have hpi := padL_in b hbb (by omega)
  have hpc := rpad_c A c L b
  obtain ⟨P, hP⟩ : ∃ P, padL b = P := ⟨_, rfl⟩
  obtain ⟨q, hq⟩ : ∃ q, P.length / 64 = q := ⟨_, rfl⟩
  obtain ⟨BS, hBS⟩ : ∃ BS, cutN P q = BS := ⟨_, rfl⟩
  have hR : shaL b = hashL (takesL startL BS) := by unfold shaL; rw [hP, hq, hBS]
  obtain ⟨X, hX⟩ : ∃ X, takesL startL BS = X := ⟨_, rfl⟩
  obtain ⟨R, hRR⟩ : ∃ R, hashL X = R := ⟨_, rfl⟩
  rw [hX, hRR] at hR
  rw [hP] at hpl hpi hpc
  have hbi := cutN_in P q hpi
  have hbl := cutN_length P q
  rw [hBS] at hbi hbl
  have hxl : X.length = 8 := by rw [← hX]; exact takesL_len _ _ rfl
  have hxi : WIn X := by rw [← hX]; exact takesL_in _ _ startL_in
  have hrl : R.length = 32 := by rw [← hRR]; exact hashL_len X
  have HT1 := Lib.hid (fun A n c W h1 h2 => rtakes_c startL A n c BS rfl startL_in W h1 hbi h2)
  have HH1 := Lib.hid (fun W => rhash_c X hxl hxi W)
  rw [hX] at HT1
  rw [hRR] at HH1
  have HC1 := Lib.hid (fun A c W h1 h2 => rcut_c A c P.length P W h1 h2 (by omega))
  rw [hq, hBS] at HC1
  have HPL := Lib.hid hpl
  have hq1 : q ≤ 10000 := by omega
  have HPC := Lib.hid hpc
  have HRR := Lib.hid hR
  have HBL := Lib.hid hbl
  have SR := Lib.hid (show (Tryz.prog.info? 28).map (·.size) = some R.length by rw [hrl]; exact size_hash)
  have ZR := Lib.hid (show (List.replicate 32 (0 : Int)).length = R.length by rw [hrl]; simp)
  have HR0 := Lib.hid hr
  clear hpl hpi hpc hP hq hBS hR hX hRR hbi hbl hxl hxi hrl hr hlen
  go_enter Tryz.func65, Tryz.ntmps65
  go_wp2_with (first
    | (with_reducible refine at_any ?_; refine at_dst 2 rfl ?_; refine wpList_alloc_ints rfl 28 rfl .u8 (List.replicate 32 0) zero_hash ?_; intro w1 hk1 hs1 hb1; have HR1 := Lib.hid (HR0.out.below hb1).fit)
    | (go_at_call 69; (with_reducible refine (HPC.out w1 HR1.out hc (by omega)).mono ?_); rintro e w2 ⟨A2, c2, rfl, how2, hb2⟩; have hk2 := Lib.hid (hk1.out.below hb2 hk1.out.lt); have bl2 := Lib.hid (hb1.trans (hb2.mono hb1.size)); have HO2 := Lib.hid how2; clear how2)
    | (go_at_call 68; (with_reducible refine (HC1.out A2 c2 w2 (HO2.out.rd rfl) HO2.out.cap.1).mono ?_); rintro e w3 ⟨A3, c3, A4, c4, rfl, how3, hrd3, hc4, hb3⟩; have hk3 := Lib.hid (hk2.out.below hb3 hk2.out.lt); have bl3 := Lib.hid (bl2.out.trans (hb3.mono bl2.out.size)); have HO3 := Lib.hid how3; clear how3 hrd3 hc4)
    | (go_at_call 72; (with_reducible refine (rstart_c _).mono ?_); rintro e w4 ⟨rfl, hb4⟩; have hk4 := Lib.hid (hk3.out.below hb4 hk3.out.lt); have bl4 := Lib.hid (bl3.out.trans (hb4.mono bl3.out.size)); have HA4 := Lib.hid (((HO3.out.rd rfl).below hb4).mono hb4.size))
    | (go_at_call 71; (with_reducible refine (HT1.out A3 BS.length c3 w4 HA4.out (by rw [HBL.out]; omega)).mono ?_); rintro e w5 ⟨rfl, hb5⟩; have hk5 := Lib.hid (hk4.out.below hb5 hk4.out.lt); have bl5 := Lib.hid (bl4.out.trans (hb5.mono bl4.out.size)))
    | (go_at_call 70; (with_reducible refine (HH1.out w5).mono ?_); rintro e w6 ⟨rfl, hb6⟩; have hk6 := Lib.hid (hk5.out.below hb6 hk5.out.lt); have bl6 := Lib.hid (bl5.out.trans (hb6.mono bl5.out.size)))
    | (with_reducible refine at_any ?_; refine at_store 2 rfl ?_; refine wpList_store_ints rfl 28 (.tmp 2) (.tmp 14) rfl w.heap.size rfl 28 .u8 (List.replicate 32 0) R hk6.out rfl ZR.out SR.out ?_; intro w9 hk9 hs9 hb9 ho9)
    | (refine bodyPost_cell 2 28 rfl w.heap.size rfl 28 .u8 R hk9.out _ Tryz.underlying28 rfl SR.out rfl ?_))
  exact ⟨by rw [HRR.out], bl6.out.trans (hb9 _ (Nat.le_refl _))⟩
theorem run_build_new (s0 s1 s2 s3 s4 s5 s6 s7 : Int) (w : World) :
    (Instr.build 112 #[(0, .agg #[.int .u32 s0, .int .u32 s1, .int .u32 s2, .int .u32 s3, .int .u32 s4, .int .u32 s5, .int .u32 s6, .int .u32 s7])]).run Tryz.prog w = .ok (.agg #[.int .u32 s0, .int .u32 s1, .int .u32 s2, .int .u32 s3, .int .u32 s4, .int .u32 s5, .int .u32 s6, .int .u32 s7, .slice none 0 0, .int .u64 0]) w := by
  go_simp
theorem build_new {a : Act} {o : Oper} {x : Operand} (w : World) (s : List Int) (hl : s.length = 8) (ho : o.op = .build 112 #[(0, x)]) (hx : a.eval x = .agg (intsA .u32 s)) :
    (execOp a.eval o).run Tryz.prog w = .ok (.value (.agg (wrV s none 0 0 0))) w := by
  rw [list8 s hl] at hx ⊢
  have h := run_build_new (s.getD 0 0) (s.getD 1 0) (s.getD 2 0) (s.getD 3 0) (s.getD 4 0) (s.getD 5 0) (s.getD 6 0) (s.getD 7 0) w
  unfold execOp
  simp only [ho, List.map_toArray, List.map_cons, List.map_nil, hx]
  change ((Instr.build 112 #[(0, .agg #[.int .u32 (s.getD 0 0), .int .u32 (s.getD 1 0), .int .u32 (s.getD 2 0), .int .u32 (s.getD 3 0), .int .u32 (s.getD 4 0), .int .u32 (s.getD 5 0), .int .u32 (s.getD 6 0), .int .u32 (s.getD 7 0)])]) >>= fun v => pure (Next.value v)).run Tryz.prog w = _
  simp only [Sem.run_bind, h, Result.andThen_ok, Sem.run_pure]
  rfl
def rightB (r : Nat) (n : Int) : Bool := decide (n < 2305843009213693952 ∧ (r : Int) = n % 64)
end Go.Proofs.YtomkidgmpbjgeaaGreatDoor
/-
  What the document's answers for layer 5 return (Write, Finish), and that they leave memory as it was.
  Conditions: the arguments lie in their types' ranges; what is hashed is small.
-/
set_option maxRecDepth 100000
set_option linter.unusedSimpArgs false
namespace Go.Proofs.YtomkidgmpbjgeaaGreatDoor
open Go.ChangeShapes Go.WideShapes Go.ChangeAt Go.RowKit
set_option linter.unusedVariables false
theorem wrV_kind (s : List Int) (A : Option Addr) (r c : Nat) (n : Int) (j : Nat) (z : Int) : (wrV s A r c n)[j]? ≠ some (.int .u8 z) := by
  intro h
  unfold wrV at h
  rw [List.getElem?_toArray] at h
  rcases List.mem_append.1 (List.mem_of_getElem? h) with h1 | h1
  · obtain ⟨x, _, hx⟩ := List.mem_map.1 h1
    injection hx with h2 h3
    cases h2
  · simp at h1
theorem Rd.apart {w : World} {B n g : Nat} {A : Option Addr} {zs : List Int} {t : TypeId} {s : List Int} {A' : Option Addr} {r c : Nat} {m : Int} (h : Rd .u8 w B A n zs) (hk : Blk w g t (wrV s A' r c m)) : ∀ b off, 0 < n → A = some ⟨b, off, none⟩ → b ≠ g := by
  intro b off hn e hbg
  obtain ⟨b1, off1, e1, _, hc⟩ := h.2 hn
  rw [e] at e1
  injection e1 with e1
  injection e1 with e2 e3
  have h0 := hc 0 hn
  rw [← e2, ← e3, hbg, hk.cell] at h0
  exact wrV_kind _ _ _ _ _ _ _ h0
theorem run_build_zero (w : World) : (Instr.build 112 #[]).run Tryz.prog w = .ok (.agg #[.int .u32 0, .int .u32 0, .int .u32 0, .int .u32 0, .int .u32 0, .int .u32 0, .int .u32 0, .int .u32 0, .slice none 0 0, .int .u64 0]) w := by
  go_simp
theorem build_zero {a : Act} {o : Oper} (w : World) (ho : o.op = .build 112 #[]) : (execOp a.eval o).run Tryz.prog w = .ok (.value (.agg (wrV Z8 none 0 0 0))) w := by
  unfold execOp
  simp only [ho, List.map_toArray, List.map_nil]
  change ((Instr.build 112 #[]) >>= fun v => pure (Next.value v)).run Tryz.prog w = _
  simp only [Sem.run_bind, run_build_zero, Result.andThen_ok, Sem.run_pure]
  rfl
/-- Nothing, and the reason. -/
def RetWE (w : World) (k : Int) (e : Ending) (w' : World) : Prop := e = .returned (.tuple #[.agg (wrV Z8 none 0 0 0), .int .i64 k]) ∧ Below w.heap.size w w'
/-- A writer of this state and rest, that has taken n bytes. -/
def RetW (w : World) (s r : List Int) (n : Int) (e : Ending) (w' : World) : Prop :=
  ∃ A c, e = .returned (.tuple #[.agg (wrV s A r.length c n), .int .i64 0]) ∧ Rd .u8 w' w'.heap.size A r.length r ∧ r.length ≤ c ∧ Below w.heap.size w w'
end Go.Proofs.YtomkidgmpbjgeaaGreatDoor
/-
  What the document's answers for layer 5 return (Finish), and that they leave memory as it was.
  Conditions: the arguments lie in their types' ranges; what is hashed is small.
-/
set_option maxRecDepth 100000
set_option linter.unusedSimpArgs false
namespace Go.Proofs.YtomkidgmpbjgeaaGreatDoor
open Go.ChangeShapes Go.WideShapes Go.ChangeAt Go.RowKit
set_option linter.unusedVariables false
section
variable {P : Program} {w w' : World} {ops : Array Oper} {rest : List Oper} {o : Oper} {a : Act} {Q : Exit → Act → World → Prop}
theorem wpList_load_at (hgd : o.guard = none) (ty : TypeId) (x : Operand) (ho : o.op = .load ty x) (g off : Nat) (hx : a.eval x = .pointer (some ⟨g, off, none⟩)) (k : IntKind) (zs : List Int) (hb : w.rangeAt g off (zs.map (Value.int k)))
    (d : TypeDesc) (hu : P.underlying ty = some d) (hd : d.isRow = true) (hi : (P.info? ty).map (·.size) = some zs.length)
    (h : wpList P ops Q rest (a.put o.dst (.agg (intsA k zs))) w) : wpList P ops Q (o :: rest) a w :=
  wpList_load_mid hgd ty x ho g off hx (zs.map (Value.int k)) d hb hu hd (by rw [List.length_map]; exact hi) h
end
theorem run_build_hash (w : World) : (Instr.build 28 #[]).run Tryz.prog w = .ok (.agg (intsA .u8 (List.replicate 32 0))) w := by
  obtain ⟨i0, hi0, _, hs0, _⟩ := info_parts info_u8'
  have h := Tryz.underlying28
  simp [Instr.build, zero_hash, run_underlying h, Instr.fill, sizeOf, typeInfo, hi0, go_sem, Value.cells, intsA]
theorem build_hash {a : Act} {o : Oper} (w : World) (ho : o.op = .build 28 #[]) : (execOp a.eval o).run Tryz.prog w = .ok (.value (.agg (intsA .u8 (List.replicate 32 0)))) w := by
  unfold execOp
  simp only [ho, List.map_toArray, List.map_nil]
  change ((Instr.build 28 #[]) >>= fun v => pure (Next.value v)).run Tryz.prog w = _
  simp only [Sem.run_bind, run_build_hash, Result.andThen_ok, Sem.run_pure]
theorem BlkI.blk {w : World} {g : Nat} {t : TypeId} {k : IntKind} {zs : List Int} (h : BlkI w g t k zs) : Blk w g t (intsA k zs) := h
theorem hash_size (R : List Int) (hl : R.length = 32) : (Tryz.prog.info? 28).map (·.size) = some (intsA .u8 R).size := by rw [intsA_size, hl]; exact size_hash
end Go.Proofs.YtomkidgmpbjgeaaGreatDoor
/-
  What the document's answers for layer 5 return (Same, Great), and that they leave memory as it was.
  Conditions: the arguments lie in their types' ranges.
-/
set_option maxRecDepth 100000
set_option linter.unusedSimpArgs false
namespace Go.Proofs.YtomkidgmpbjgeaaGreatDoor
open Go.ChangeShapes Go.WideShapes Go.ChangeAt Go.RowKit
set_option linter.unusedVariables false
theorem str_rd5 {w : World} {B : Nat} {A : Option Addr} {n c : Nat} {zs : List Int} (h : Rd .u8 w B A n zs) : (convert 26 9 (.slice A n c)).run Tryz.prog w = .ok (.string (strB zs)) w :=
  run_str Tryz.underlying26 Tryz.underlying5 Tryz.underlying9 h (fun hA => by
    rcases Nat.eq_zero_or_pos n with h0 | h0
    · exact h0
    · obtain ⟨b, off, e, _⟩ := h.2 h0; rw [hA] at e; cases e)
theorem eq_state5 (zs ys : List Int) (hz : zs.length = 8) (hy : ys.length = 8) (w : World) : (Op.equalIn 10000 105 (.agg (intsA .u32 zs)) (.agg (intsA .u32 ys))).run Tryz.prog w = .ok (decide (zs = ys)) w := by
  obtain ⟨i0, hi, _, hs, _⟩ := info_parts info_u32c
  exact run_equal_ints Tryz.underlying105 Tryz.underlying89 hi hs (by kernel_rfl) zs ys hz hy w
theorem toL_eq5 {a b : ByteArray} : a.toList = b.toList ↔ a = b := by
  rw [ByteArray.toList_eq, ByteArray.toList_eq]
  constructor
  · intro h
    obtain ⟨⟨x⟩⟩ := a
    obtain ⟨⟨y⟩⟩ := b
    simp at h
    rw [h]
  · intro h; rw [h]
def sameB (s1 s2 z1 z2 : List Int) (n1 n2 : Int) : Bool := decide (s1 = s2 ∧ z1 = z2 ∧ n1 = n2)
def greatAt (rs : List Row) (i : Nat) : Bool := (rs.take i).any fun r => decide (500 < r.n)
def greatB (rs : List Row) : Bool := decide (20 < rs.length) || rs.any fun r => decide (500 < r.n)
end Go.Proofs.YtomkidgmpbjgeaaGreatDoor
/-
  A writer that writes, in memory: its block's cells set one by one or together; what else lies there stays.
  Conditions: those that each theorem names.
-/
set_option maxRecDepth 100000
set_option linter.unusedSimpArgs false
namespace Go.Proofs.YtomkidgmpbjgeaaGreatDoor
open Go.ChangeShapes Go.WideShapes Go.ChangeAt Go.RowKit
set_option linter.unusedVariables false
/-! ### a writer's cells -/
theorem wrV_put (s y : List Int) (hs : s.length = 8) (hy : y.length = 8) (A : Option Addr) (r c : Nat) (n : Int) : putAll (wrV s A r c n) 0 (intsA .u32 y).toList = wrV y A r c n := by
  obtain ⟨a, b, d, e, f, p, q, u, rfl⟩ : ∃ a b d e f p q u, s = [a, b, d, e, f, p, q, u] := ⟨_, _, _, _, _, _, _, _, list8 s hs⟩
  obtain ⟨a', b', d', e', f', p', q', u', rfl⟩ : ∃ a b d e f p q u, y = [a, b, d, e, f, p, q, u] := ⟨_, _, _, _, _, _, _, _, list8 y hy⟩
  simp [wrV, putAll, intsA]
theorem wrV_set9 (s : List Int) (hs : s.length = 8) (A : Option Addr) (r c : Nat) (n m : Int) : (wrV s A r c n).setIfInBounds 9 (.int .u64 m) = wrV s A r c m := by
  obtain ⟨a, b, d, e, f, p, q, u, rfl⟩ : ∃ a b d e f p q u, s = [a, b, d, e, f, p, q, u] := ⟨_, _, _, _, _, _, _, _, list8 s hs⟩
  simp [wrV]
theorem wrV_set8 (s : List Int) (hs : s.length = 8) (A A' : Option Addr) (r c r' c' : Nat) (n : Int) : (wrV s A r c n).setIfInBounds 8 (.slice A' r' c') = wrV s A' r' c' n := by
  obtain ⟨a, b, d, e, f, p, q, u, rfl⟩ : ∃ a b d e f p q u, s = [a, b, d, e, f, p, q, u] := ⟨_, _, _, _, _, _, _, _, list8 s hs⟩
  simp [wrV]
/-- A block of 64 bytes lies at q. -/
def LiesB (q : Nat) (b : List Int) (W : World) : Prop := BlkI W q 116 .u8 b
/-- A writer that writes, at g, behind the world w0: its state s, its rest r (a row of the call's own), its bytes n. -/
def Wrt (w0 : World) (g : Nat) (A : Option Addr) (c : Nat) (s r : List Int) (n : Int) (w : World) : Prop :=
  Blk w g 123 (wrV s A r.length c n) ∧ OwnI w w0.heap.size 5 .u8 (.slice A r.length c) r ∧ Below w0.heap.size w0 w ∧ w0.heap.size ≤ g
section
variable {w0 w w' : World} {g : Nat} {A : Option Addr} {c : Nat} {s r : List Int} {n : Int}
theorem Wrt.bel (h : Wrt w0 g A c s r n w) : Below w0.heap.size w0 w := h.2.2.1
theorem Wrt.size (h : Wrt w0 g A c s r n w) : w0.heap.size ≤ w.heap.size := h.2.2.1.size
theorem Wrt.lt (h : Wrt w0 g A c s r n w) : g < w.heap.size := h.1.lt
theorem Wrt.drew (h : Wrt w0 g A c s r n w) : Wrt w0 g A c s r n w.drew := ⟨h.1, h.2.1, h.2.2.1.drew, h.2.2.2⟩
theorem Wrt.below (h : Wrt w0 g A c s r n w) (hb : Below w.heap.size w w') : Wrt w0 g A c s r n w' :=
  ⟨h.1.below hb h.lt, h.2.1.below hb, h.bel.trans (hb.mono h.size), h.2.2.2⟩
theorem Wrt.only {s' : List Int} {n' : Int} (h : Wrt w0 g A c s r n w) (ho : Only g w w') (hk : Blk w' g 123 (wrV s' A r.length c n')) : Wrt w0 g A c s' r n' w' :=
  ⟨hk, h.2.1.only h.1 (by decide) ho, h.bel.trans (ho.below h.2.2.2 h.size), h.2.2.2⟩
theorem Wrt.rd (h : Wrt w0 g A c s r n w) : Rd .u8 w w.heap.size A r.length r := h.2.1.rd rfl
theorem Wrt.cap (h : Wrt w0 g A c s r n w) : r.length ≤ c := h.2.1.cap.1
theorem Wrt.cell8 (h : Wrt w0 g A c s r n w) (hs : s.length = 8) : w.cell? ⟨g, 8, none⟩ = some (.slice A r.length c) := by rw [h.1.cell]; exact wrV_rest s hs _ _ _ _
theorem Wrt.cell9 (h : Wrt w0 g A c s r n w) (hs : s.length = 8) : w.cell? ⟨g, 9, none⟩ = some (.int .u64 n) := by rw [h.1.cell]; exact wrV_bytes s hs _ _ _ _
end
theorem wrV_range {w : World} {g : Nat} {t : TypeId} {s : List Int} {A : Option Addr} {r c : Nat} {n : Int} (h : Blk w g t (wrV s A r c n)) : w.rangeAt g 0 (s.map (Value.int .u32)) := by
  intro j v hv
  rw [Nat.zero_add, h.cell]
  unfold wrV
  rw [List.getElem?_toArray]
  have hj : j < (s.map (Value.int .u32)).length := by
    rcases Nat.lt_or_ge j (s.map (Value.int .u32)).length with h1 | h1
    · exact h1
    · rw [List.getElem?_eq_none h1] at hv; cases hv
  rw [List.getElem?_append_left hj]
  exact hv
def AnyW (_ : World) : Prop := True
end Go.Proofs.YtomkidgmpbjgeaaGreatDoor
/-
  Facts of memory kept where a row of the call's own grows; rows of three slices; an operation taken where it comes up.
  Conditions: those that each theorem names.
-/
set_option maxRecDepth 100000
set_option linter.unusedVariables false
set_option linter.unusedSimpArgs false
namespace Go.Proofs.YtomkidgmpbjgeaaGreatDoor
open Go.ChangeShapes Go.WideShapes Go.ChangeAt Go.RowKit
/-- Four blocks of the call's own: 8 cells, 8 cells, 32 and 32. -/
def Blk4 (w : World) (g8 g7 g6 g3 : Nat) (Y X Z s : List Int) : World → Prop := Fx [.blk g8 95 (intsA .u8 Y), .blk g7 95 (intsA .u8 X), .blk g6 28 (intsA .u8 Z), .blk g3 28 (intsA .u8 s), .bel w]
section
variable {w w1 w2 : World} {g8 g7 g6 g3 : Nat} {Y X Z s R : List Int}
theorem Blk4.below (h : Blk4 w g8 g7 g6 g3 Y X Z s w1) (hb : Below w1.heap.size w1 w2) : Blk4 w g8 g7 g6 g3 Y X Z s w2 := Fx.below h hb
theorem Blk4.drew (h : Blk4 w g8 g7 g6 g3 Y X Z s w1) : Blk4 w g8 g7 g6 g3 Y X Z s w1.drew := Fx.drew h
theorem Blk4.alloc (h : Blk4 w g8 g7 g6 g3 Y X Z s w1) (o : Obj) : Blk4 w g8 g7 g6 g3 Y X Z s (w1.alloc o) := Fx.alloc h o
theorem Blk4.grown {k : IntKind} {v : Value} {zs : List Int} (h : Blk4 w g8 g7 g6 g3 Y X Z s w1) (ho : OwnI w1 w.heap.size 5 k v zs) (hs : w.heap.size ≤ w1.heap.size) (hg : w1.grownBy w2 v.ownBlock) : Blk4 w g8 g7 g6 g3 Y X Z s w2 :=
  Fx.grown h ho ⟨show _ ≠ _ by decide, show _ ≠ _ by decide, show _ ≠ _ by decide, show _ ≠ _ by decide, rfl, trivial⟩ hs hg
theorem Blk4.c8 (h : Blk4 w g8 g7 g6 g3 Y X Z s w1) : BlkI w1 g8 95 .u8 Y := h.1
theorem Blk4.c7 (h : Blk4 w g8 g7 g6 g3 Y X Z s w1) : BlkI w1 g7 95 .u8 X := h.2.1
theorem Blk4.c6 (h : Blk4 w g8 g7 g6 g3 Y X Z s w1) : BlkI w1 g6 28 .u8 Z := h.2.2.1
theorem Blk4.c3 (h : Blk4 w g8 g7 g6 g3 Y X Z s w1) : BlkI w1 g3 28 .u8 s := h.2.2.2.1
theorem Blk4.bel (h : Blk4 w g8 g7 g6 g3 Y X Z s w1) : Below w.heap.size w w1 := h.2.2.2.2.1
/-- With whatever in the third. -/
def Blk4W (w : World) (g8 g7 g6 g3 : Nat) (Y X s : List Int) (w1 : World) : Prop := ∃ Z, Blk4 w g8 g7 g6 g3 Y X Z s w1
theorem Blk4.any (h : Blk4 w g8 g7 g6 g3 Y X Z s w1) : Blk4W w g8 g7 g6 g3 Y X s w1 := ⟨Z, h⟩
/-- The third is written. -/
theorem Blk4.put6 (h : Blk4 w g8 g7 g6 g3 Y X Z s w1) (h6 : g6 < g7) (h7 : g7 < g8) (h3 : g3 < g6) (h0 : w.heap.size ≤ g3) (hk : BlkI w2 g6 28 .u8 R) (hs : w2.heap.size = w1.heap.size) (hb : ∀ B, B ≤ g6 → Below B w1 w2) (ho : ∀ j, j ≠ g6 → w2.heap[j]? = w1.heap[j]?) : Blk4 w g8 g7 g6 g3 Y X R s w2 :=
  ⟨Blk.other h.1 ho (by omega), Blk.other h.2.1 ho (by omega), hk, Blk.other h.2.2.2.1 ho (by omega), Below.trans h.bel (hb _ (by omega)), trivial⟩
end
theorem zero_b8s : ∀ W, (zeroValue 95).run Tryz.prog W = .ok (.agg (intsA .u8 (List.replicate 8 0))) W := (zero_of_info (n := 8) (by kernel_rfl)).1
theorem size_b8s : (Tryz.prog.info? 95).map (·.size) = some 8 := by kernel_rfl
/-- Three slices in a row of their own. -/
def row3 (g1 g2 g3 n1 n2 n3 : Nat) : Array Value := #[.slice (some ⟨g1, 0, none⟩) n1 n1, .slice (some ⟨g2, 0, none⟩) n2 n2, .slice (some ⟨g3, 0, none⟩) n3 n3]
theorem rows3 {W : World} {g1 g2 g3 n1 n2 n3 : Nat} {t1 t2 t3 : TypeId} {x y z : List Int} (h1 : BlkI W g1 t1 .u8 x) (h2 : BlkI W g2 t2 .u8 y) (h3 : BlkI W g3 t3 .u8 z) (l1 : x.length = n1) (l2 : y.length = n2) (l3 : z.length = n3) :
    RdRows (W.alloc (.cells (row3 g1 g2 g3 n1 n2 n3) 26)) (W.alloc (.cells (row3 g1 g2 g3 n1 n2 n3) 26)).heap.size (some ⟨W.heap.size, 0, none⟩) 3 [⟨some ⟨g1, 0, none⟩, n1, n1, x⟩, ⟨some ⟨g2, 0, none⟩, n2, n2, y⟩, ⟨some ⟨g3, 0, none⟩, n3, n3, z⟩] := by
  subst l1 l2 l3
  have hk := Blk.new W 26 (row3 g1 g2 g3 x.length y.length z.length)
  have hb : Below W.heap.size W (W.alloc (.cells (row3 g1 g2 g3 x.length y.length z.length) 26)) := (Below.refl _ _).alloc (Nat.le_refl _) _
  have r1 := (h1.below hb h1.lt).rd
  have r2 := (h2.below hb h2.lt).rd
  have r3 := (h3.below hb h3.lt).rd
  refine ⟨rfl, fun _ => ⟨_, 0, rfl, hk.lt, fun j r hj => ?_⟩, fun r hr => ?_⟩
  · match j, hj with
    | 0, hj => injection hj with hj; subst hj; rw [hk.cell]; rfl
    | 1, hj => injection hj with hj; subst hj; rw [hk.cell]; rfl
    | 2, hj => injection hj with hj; subst hj; rw [hk.cell]; rfl
  · simp only [List.mem_cons, List.not_mem_nil, or_false] at hr
    rcases hr with rfl | rfl | rfl
    · exact ⟨r1, Nat.le_refl _⟩
    · exact ⟨r2, Nat.le_refl _⟩
    · exact ⟨r3, Nat.le_refl _⟩
theorem run_build3 (g1 g2 g3 n1 n2 n3 : Nat) (w : World) : (Instr.buildSlice 108 3 #[(0, .slice (some ⟨g1, 0, none⟩) n1 n1), (1, .slice (some ⟨g2, 0, none⟩) n2 n2), (2, .slice (some ⟨g3, 0, none⟩) n3 n3)]).run Tryz.prog w = .ok (.slice (some ⟨w.heap.size, 0, none⟩) 3 3) (w.alloc (.cells (row3 g1 g2 g3 n1 n2 n3) 26)) := by
  unfold row3
  go_simp
theorem exec_build3 {o : Oper} {a : Act} {w : World} (p q r : Operand) (g1 g2 g3 n1 n2 n3 : Nat) (ho : o.op = .buildSlice 108 3 #[(0, p), (1, q), (2, r)]) (hp : a.eval p = .slice (some ⟨g1, 0, none⟩) n1 n1) (hq : a.eval q = .slice (some ⟨g2, 0, none⟩) n2 n2) (hr : a.eval r = .slice (some ⟨g3, 0, none⟩) n3 n3) :
    (execOp a.eval o).run Tryz.prog w = .ok (.value (.slice (some ⟨w.heap.size, 0, none⟩) 3 3)) (w.alloc (.cells (row3 g1 g2 g3 n1 n2 n3) 26)) := by
  unfold execOp
  simp only [ho, List.map_toArray, List.map_cons, List.map_nil, hp, hq, hr]
  change ((Instr.buildSlice 108 3 #[(0, .slice (some ⟨g1, 0, none⟩) n1 n1), (1, .slice (some ⟨g2, 0, none⟩) n2 n2), (2, .slice (some ⟨g3, 0, none⟩) n3 n3)]) >>= fun v => pure (Next.value v)).run Tryz.prog w = _
  simp only [Sem.run_bind, run_build3, Result.andThen_ok, Sem.run_pure]
end Go.Proofs.YtomkidgmpbjgeaaGreatDoor
/-
  Sources as values and in memory: their cells, made, stored in part, handed back.
  Conditions: those that each theorem names.
-/
set_option maxRecDepth 100000
set_option linter.unusedVariables false
set_option linter.unusedSimpArgs false
namespace Go.Proofs.YtomkidgmpbjgeaaGreatDoor
open Go.ChangeShapes Go.WideShapes Go.ChangeAt Go.RowKit
def srcV (s : Src) (A : Option Addr) (c : Nat) : Array Value := ([Value.int .i64 s.kind, .slice A s.tape.length c, .int .u64 s.bits] ++ (s.seed.map (Value.int .u8) ++ [Value.int .u64 s.dom, .int .u64 s.at_])).toArray
theorem srcV_size (s : Src) (hl : s.seed.length = 32) (A : Option Addr) (c : Nat) : (srcV s A c).size = 37 := by simp [srcV, hl]
theorem srcV_ones (s : Src) (A : Option Addr) (c : Nat) : (srcV s A c).all (·.oneCell') = true := all_oneCell_toArray (by
  intro u hu
  rcases List.mem_append.1 hu with h | h
  · simp only [List.mem_cons, List.not_mem_nil, or_false] at h
    rcases h with h | h | h <;> subst h <;> rfl
  · rcases List.mem_append.1 h with h | h
    · exact ints_one .u8 s.seed u h
    · simp only [List.mem_cons, List.not_mem_nil, or_false] at h
      rcases h with h | h <;> subst h <;> rfl)
theorem srcV_kind (s : Src) (A : Option Addr) (c : Nat) : (srcV s A c)[0]? = some (.int .i64 s.kind) := rfl
theorem srcV_tape (s : Src) (A : Option Addr) (c : Nat) : (srcV s A c)[1]? = some (.slice A s.tape.length c) := rfl
theorem srcV_bits (s : Src) (A : Option Addr) (c : Nat) : (srcV s A c)[2]? = some (.int .u64 s.bits) := rfl
theorem srcV_dom (s : Src) (hl : s.seed.length = 32) (A : Option Addr) (c : Nat) : (srcV s A c)[35]? = some (.int .u64 s.dom) := by
  unfold srcV
  rw [List.getElem?_toArray, List.getElem?_append_right (by simp), List.getElem?_append_right (by simp [hl])]
  simp [hl]
theorem srcV_at (s : Src) (hl : s.seed.length = 32) (A : Option Addr) (c : Nat) : (srcV s A c)[36]? = some (.int .u64 s.at_) := by
  unfold srcV
  rw [List.getElem?_toArray, List.getElem?_append_right (by simp), List.getElem?_append_right (by simp [hl])]
  simp [hl]
theorem srcV_seed {w : World} {g : Nat} {t : TypeId} {s : Src} {A : Option Addr} {c : Nat} (h : Blk w g t (srcV s A c)) : w.rangeAt g 3 (s.seed.map (Value.int .u8)) := by
  intro j v hv
  rw [h.cell]
  unfold srcV
  rw [List.getElem?_toArray, List.getElem?_append_right (by simp)]
  have hj : j < (s.seed.map (Value.int .u8)).length := by
    rcases Nat.lt_or_ge j (s.seed.map (Value.int .u8)).length with h1 | h1
    · exact h1
    · rw [List.getElem?_eq_none h1] at hv; cases hv
  rw [show 3 + j - [Value.int .i64 s.kind, .slice A s.tape.length c, .int .u64 s.bits].length = j by simp, List.getElem?_append_left hj]
  exact hv
theorem srcV_set (s : Src) (hl : s.seed.length = 32) (A : Option Addr) (c : Nat) (n : Int) : (srcV s A c).setIfInBounds 36 (.int .u64 n) = srcV (s.to n) A c := by
  unfold srcV Src.to
  rw [List.setIfInBounds_toArray]
  congr 1
  rw [List.set_append_right _ _ (by simp), List.set_append_right _ _ (by simp [hl])]
  simp [hl]
theorem size_src : (Tryz.prog.info? 30).map (·.size) = some 37 := by kernel_rfl
theorem zero_src : ∀ W, (zeroValue 30).run Tryz.prog W = .ok (.agg (srcV Src.zero none 0)) W := (zero_of_info (n := 37) (by kernel_rfl)).1
theorem sizedS (s : Src) (hl : s.seed.length = 32) (A : Option Addr) (c : Nat) : (Tryz.prog.info? 30).map (·.size) = some (srcV s A c).size := by rw [srcV_size s hl]; exact size_src
theorem srcV_same (a b : Src) (ha : a.seed.length = 32) (hb : b.seed.length = 32) (A B : Option Addr) (c d : Nat) : (srcV a A c).size = (srcV b B d).size := by rw [srcV_size a ha, srcV_size b hb]
theorem run_build_src0 (w : World) : (Instr.build 30 #[]).run Tryz.prog w = .ok (.agg #[.int .i64 0, .slice none 0 0, .int .u64 0, .int .u8 0, .int .u8 0, .int .u8 0, .int .u8 0, .int .u8 0, .int .u8 0, .int .u8 0, .int .u8 0, .int .u8 0, .int .u8 0, .int .u8 0, .int .u8 0, .int .u8 0, .int .u8 0, .int .u8 0, .int .u8 0, .int .u8 0, .int .u8 0, .int .u8 0, .int .u8 0, .int .u8 0, .int .u8 0, .int .u8 0, .int .u8 0, .int .u8 0, .int .u8 0, .int .u8 0, .int .u8 0, .int .u8 0, .int .u8 0, .int .u8 0, .int .u8 0, .int .u64 0, .int .u64 0]) w := by
  go_simp
theorem build_src0 {a : Act} {o : Oper} (w : World) (ho : o.op = .build 30 #[]) : (execOp a.eval o).run Tryz.prog w = .ok (.value (.agg (srcV Src.zero none 0))) w := by
  unfold execOp
  simp only [ho, List.map_toArray, List.map_nil]
  change ((Instr.build 30 #[]) >>= fun v => pure (Next.value v)).run Tryz.prog w = _
  simp only [Sem.run_bind, run_build_src0, Result.andThen_ok, Sem.run_pure]
  rfl
theorem run_build_src1 (A : Option Addr) (n c : Nat) (b : Int) (w : World) : (Instr.build 30 #[(0, .int .i64 1), (1, .slice A n c), (2, .int .u64 b)]).run Tryz.prog w = .ok (.agg #[.int .i64 1, .slice A n c, .int .u64 b, .int .u8 0, .int .u8 0, .int .u8 0, .int .u8 0, .int .u8 0, .int .u8 0, .int .u8 0, .int .u8 0, .int .u8 0, .int .u8 0, .int .u8 0, .int .u8 0, .int .u8 0, .int .u8 0, .int .u8 0, .int .u8 0, .int .u8 0, .int .u8 0, .int .u8 0, .int .u8 0, .int .u8 0, .int .u8 0, .int .u8 0, .int .u8 0, .int .u8 0, .int .u8 0, .int .u8 0, .int .u8 0, .int .u8 0, .int .u8 0, .int .u8 0, .int .u8 0, .int .u64 0, .int .u64 0]) w := by
  go_simp
def Src.tapeOf (zs : List Int) (b : Int) : Src := ⟨1, zs, b, List.replicate 32 0, 0, 0⟩
def Src.strm (s : List Int) (d : Int) : Src := ⟨2, [], 0, s, d, 0⟩
theorem build_src1 {a : Act} {o : Oper} {x y z : Operand} (w : World) (A : Option Addr) (c : Nat) (zs : List Int) (b : Int) (ho : o.op = .build 30 #[(0, x), (1, y), (2, z)]) (hx : a.eval x = .int .i64 1) (hy : a.eval y = .slice A zs.length c) (hz : a.eval z = .int .u64 b) :
    (execOp a.eval o).run Tryz.prog w = .ok (.value (.agg (srcV (Src.tapeOf zs b) A c))) w := by
  unfold execOp
  simp only [ho, List.map_toArray, List.map_cons, List.map_nil, hx, hy, hz]
  change ((Instr.build 30 #[(0, .int .i64 1), (1, .slice A zs.length c), (2, .int .u64 b)]) >>= fun v => pure (Next.value v)).run Tryz.prog w = _
  simp only [Sem.run_bind, run_build_src1, Result.andThen_ok, Sem.run_pure]
  rfl
theorem run_build_src2 (s0 s1 s2 s3 s4 s5 s6 s7 s8 s9 s10 s11 s12 s13 s14 s15 s16 s17 s18 s19 s20 s21 s22 s23 s24 s25 s26 s27 s28 s29 s30 s31 d : Int) (w : World) : (Instr.build 30 #[(0, .int .i64 2), (3, .agg #[.int .u8 s0, .int .u8 s1, .int .u8 s2, .int .u8 s3, .int .u8 s4, .int .u8 s5, .int .u8 s6, .int .u8 s7, .int .u8 s8, .int .u8 s9, .int .u8 s10, .int .u8 s11, .int .u8 s12, .int .u8 s13, .int .u8 s14, .int .u8 s15, .int .u8 s16, .int .u8 s17, .int .u8 s18, .int .u8 s19, .int .u8 s20, .int .u8 s21, .int .u8 s22, .int .u8 s23, .int .u8 s24, .int .u8 s25, .int .u8 s26, .int .u8 s27, .int .u8 s28, .int .u8 s29, .int .u8 s30, .int .u8 s31]), (4, .int .u64 d)]).run Tryz.prog w = .ok (.agg #[.int .i64 2, .slice none 0 0, .int .u64 0, .int .u8 s0, .int .u8 s1, .int .u8 s2, .int .u8 s3, .int .u8 s4, .int .u8 s5, .int .u8 s6, .int .u8 s7, .int .u8 s8, .int .u8 s9, .int .u8 s10, .int .u8 s11, .int .u8 s12, .int .u8 s13, .int .u8 s14, .int .u8 s15, .int .u8 s16, .int .u8 s17, .int .u8 s18, .int .u8 s19, .int .u8 s20, .int .u8 s21, .int .u8 s22, .int .u8 s23, .int .u8 s24, .int .u8 s25, .int .u8 s26, .int .u8 s27, .int .u8 s28, .int .u8 s29, .int .u8 s30, .int .u8 s31, .int .u64 d, .int .u64 0]) w := by
  go_simp
theorem list32 (s : List Int) (hl : s.length = 32) : s = [s.getD 0 0, s.getD 1 0, s.getD 2 0, s.getD 3 0, s.getD 4 0, s.getD 5 0, s.getD 6 0, s.getD 7 0, s.getD 8 0, s.getD 9 0, s.getD 10 0, s.getD 11 0, s.getD 12 0, s.getD 13 0, s.getD 14 0, s.getD 15 0, s.getD 16 0, s.getD 17 0, s.getD 18 0, s.getD 19 0, s.getD 20 0, s.getD 21 0, s.getD 22 0, s.getD 23 0, s.getD 24 0, s.getD 25 0, s.getD 26 0, s.getD 27 0, s.getD 28 0, s.getD 29 0, s.getD 30 0, s.getD 31 0] := by
  match s, hl with
  | [s0, s1, s2, s3, s4, s5, s6, s7, s8, s9, s10, s11, s12, s13, s14, s15, s16, s17, s18, s19, s20, s21, s22, s23, s24, s25, s26, s27, s28, s29, s30, s31], _ => rfl
theorem build_src2 {a : Act} {o : Oper} {x y z : Operand} (w : World) (s : List Int) (hl : s.length = 32) (d : Int) (ho : o.op = .build 30 #[(0, x), (3, y), (4, z)]) (hx : a.eval x = .int .i64 2) (hy : a.eval y = .agg (intsA .u8 s)) (hz : a.eval z = .int .u64 d) :
    (execOp a.eval o).run Tryz.prog w = .ok (.value (.agg (srcV (Src.strm s d) none 0))) w := by
  rw [list32 s hl] at hy ⊢
  have h := run_build_src2 (s.getD 0 0) (s.getD 1 0) (s.getD 2 0) (s.getD 3 0) (s.getD 4 0) (s.getD 5 0) (s.getD 6 0) (s.getD 7 0) (s.getD 8 0) (s.getD 9 0) (s.getD 10 0) (s.getD 11 0) (s.getD 12 0) (s.getD 13 0) (s.getD 14 0) (s.getD 15 0) (s.getD 16 0) (s.getD 17 0) (s.getD 18 0) (s.getD 19 0) (s.getD 20 0) (s.getD 21 0) (s.getD 22 0) (s.getD 23 0) (s.getD 24 0) (s.getD 25 0) (s.getD 26 0) (s.getD 27 0) (s.getD 28 0) (s.getD 29 0) (s.getD 30 0) (s.getD 31 0) d w
  unfold execOp
  simp only [ho, List.map_toArray, List.map_cons, List.map_nil, hx, hy, hz]
  change ((Instr.build 30 #[(0, .int .i64 2), (3, .agg #[.int .u8 (s.getD 0 0), .int .u8 (s.getD 1 0), .int .u8 (s.getD 2 0), .int .u8 (s.getD 3 0), .int .u8 (s.getD 4 0), .int .u8 (s.getD 5 0), .int .u8 (s.getD 6 0), .int .u8 (s.getD 7 0), .int .u8 (s.getD 8 0), .int .u8 (s.getD 9 0), .int .u8 (s.getD 10 0), .int .u8 (s.getD 11 0), .int .u8 (s.getD 12 0), .int .u8 (s.getD 13 0), .int .u8 (s.getD 14 0), .int .u8 (s.getD 15 0), .int .u8 (s.getD 16 0), .int .u8 (s.getD 17 0), .int .u8 (s.getD 18 0), .int .u8 (s.getD 19 0), .int .u8 (s.getD 20 0), .int .u8 (s.getD 21 0), .int .u8 (s.getD 22 0), .int .u8 (s.getD 23 0), .int .u8 (s.getD 24 0), .int .u8 (s.getD 25 0), .int .u8 (s.getD 26 0), .int .u8 (s.getD 27 0), .int .u8 (s.getD 28 0), .int .u8 (s.getD 29 0), .int .u8 (s.getD 30 0), .int .u8 (s.getD 31 0)]), (4, .int .u64 d)]) >>= fun v => pure (Next.value v)).run Tryz.prog w = _
  simp only [Sem.run_bind, h, Result.andThen_ok, Sem.run_pure]
  rfl
/-- A row of the call's own lies apart from a block of other things. -/
theorem OwnI.apart {w : World} {base g n c : Nat} {e t : TypeId} {k : IntKind} {A : Option Addr} {zs : List Int} {cs : Array Value} (h : OwnI w base e k (.slice A n c) zs) (hb : Blk w g t cs) (hne : e ≠ t) : ∀ b off, 0 < n → A = some ⟨b, off, none⟩ → b ≠ g := by
  intro b off hn hA
  rcases h.2 with ⟨h1, h2⟩ | ⟨g', cap, cur, h1, h2, h3, h4⟩
  · injection h1 with e1 e2 e3
    omega
  · injection h1 with e1 e2 e3
    rw [hA] at e1
    injection e1 with e1
    injection e1 with e1 e4
    subst e1
    rintro rfl
    unfold Blk at hb
    rw [h3] at hb
    injection hb with hb
    injection hb with _ h5
    exact hne h5
theorem size_u64s : (Tryz.prog.info? 22).map (·.size) = some 1 := by kernel_rfl
theorem pow2_le (n : Nat) (h : n ≤ 63) : (2 : Int) ^ n ≤ 9223372036854775808 := by
  have h1 : (2 : Int) ^ n ≤ 2 ^ 63 := by
    have h2 : 2 ^ n ≤ 2 ^ 63 := Nat.pow_le_pow_right (by omega) h
    exact_mod_cast h2
  omega
theorem right_div (x : Int) (q : Nat) (h : q ≤ 7) : Wd.right x (q : Int) = x / 2 ^ q := by
  unfold Wd.right
  rcases Nat.eq_zero_or_pos q with h0 | h0
  · subst h0
    simp
  · rw [if_neg (by omega), if_neg (by omega), Int.toNat_natCast]
/-- What was handed back has its tape where it was, or in memory of its own. -/
def Sep (w : World) (A A' : Option Addr) : Prop := A' = A ∨ ∀ b off, A' = some ⟨b, off, none⟩ → w.heap.size ≤ b
def RetTake (w : World) (s : Src) (k : Int) (A : Option Addr) (e : Ending) (w' : World) : Prop :=
  ∃ A' c', e = .returned (.tuple #[.int .u64 (takeV s k), .agg (srcV (takeS s k) A' c'), .int .i64 (takeE s k)]) ∧ Rd .u8 w' w'.heap.size A' s.tape.length s.tape ∧ s.tape.length ≤ c' ∧ c' ≤ maxLen ∧ Sep w A A' ∧ Below w.heap.size w w'
def RetStrm (w : World) (s : List Int) (d : Int) (e : Ending) (w' : World) : Prop := ∃ A' c', e = .returned (.agg (srcV (Src.strm s d) A' c')) ∧ c' ≤ maxLen ∧ Below w.heap.size w w'
def RetTape (w : World) (zs : List Int) (b : Int) (e : Ending) (w' : World) : Prop :=
  if b ≤ 8 * (zs.length : Int) then ∃ A' c', e = .returned (.tuple #[.agg (srcV (Src.tapeOf zs b) A' c'), .int .i64 0]) ∧ Rd .u8 w' w'.heap.size A' zs.length zs ∧ zs.length ≤ c' ∧ c' ≤ maxLen ∧ Below w.heap.size w w'
  else e = .returned (.tuple #[.agg (srcV Src.zero none 0), .int .i64 1]) ∧ Below w.heap.size w w'
/-- Two blocks of sources of the call's own, the second one newer. -/
def Src2 (w : World) (g2 g5 : Nat) (V Z : Array Value) : World → Prop := Fx [.blk g5 30 Z, .blk g2 30 V, .bel w]
section
variable {w w1 w2 : World} {g2 g5 : Nat} {V Z X : Array Value}
theorem Src2.below (h : Src2 w g2 g5 V Z w1) (hb : Below w1.heap.size w1 w2) : Src2 w g2 g5 V Z w2 := Fx.below h hb
theorem Src2.drew (h : Src2 w g2 g5 V Z w1) : Src2 w g2 g5 V Z w1.drew := Fx.drew h
theorem Src2.snd (h : Src2 w g2 g5 V Z w1) : Blk w1 g5 30 Z := h.1
theorem Src2.fst (h : Src2 w g2 g5 V Z w1) : Blk w1 g2 30 V := h.2.1
theorem Src2.bel (h : Src2 w g2 g5 V Z w1) : Below w.heap.size w w1 := h.2.2.1
theorem Src2.keep (h : Src2 w g2 g5 V Z w1) : Fx [.blk g2 30 V, .bel w] w1 := h.2
theorem Src2.old (h : Src2 w g2 g5 V Z w1) : Fx [.blk g5 30 Z] w1 := ⟨h.1, trivial⟩
theorem Src2.mk (h : Fx [.blk g2 30 V, .bel w] w1) (h2 : Blk w1 g5 30 Z) : Src2 w g2 g5 V Z w1 := ⟨h2, h⟩
/-- The first one is written in part. -/
theorem Src2.only (h : Src2 w g2 g5 V Z w1) (h0 : w.heap.size ≤ g2) (h1 : g2 < g5) (hk : Blk w2 g2 30 X) (ho : Only g2 w1 w2) : Src2 w g2 g5 X Z w2 :=
  ⟨Blk.only h.1 ho (Nat.ne_of_gt h1), hk, Below.trans h.bel (ho.below h0 h.bel.size), trivial⟩
end
section
variable {P : Program} {w : World} {ops : Array Oper} {rest : List Oper} {o : Oper} {a : Act} {Q : Exit → Act → World → Prop}
/-- A row is loaded behind a guard that holds. -/
theorem wpList_load_gdb (hw : Region.wanted o (yielded ops a.tmps) = true) (ty : TypeId) (x : Operand) (ho : o.op = .load ty x) (g : Nat) (hx : a.eval x = .pointer (some ⟨g, 0, none⟩)) (t : TypeId) (cs : Array Value) (hb : Blk w g t cs)
    (d : TypeDesc) (hu : P.underlying ty = some d) (hd : d.isRow = true) (hi : (P.info? ty).map (·.size) = some cs.size)
    (h : wpList P ops Q rest (a.put o.dst (.agg cs)) w) : wpList P ops Q (o :: rest) a w :=
  wpList_step fun K hK => by
    rw [if_pos hw]
    exact wp_load_mid ty x ho g 0 hx cs.toList d hb.range hu hd (by rw [Array.length_toList]; exact hi) (hK _ _ h)
/-- The same of integers that lie within a row. -/
theorem wpList_load_gdo (hw : Region.wanted o (yielded ops a.tmps) = true) (ty : TypeId) (x : Operand) (ho : o.op = .load ty x) (g off : Nat) (hx : a.eval x = .pointer (some ⟨g, off, none⟩)) (k : IntKind) (zs : List Int) (hb : w.rangeAt g off (zs.map (Value.int k)))
    (d : TypeDesc) (hu : P.underlying ty = some d) (hd : d.isRow = true) (hi : (P.info? ty).map (·.size) = some zs.length)
    (h : wpList P ops Q rest (a.put o.dst (.agg (intsA k zs))) w) : wpList P ops Q (o :: rest) a w :=
  wpList_step fun K hK => by
    rw [if_pos hw]
    exact wp_load_mid ty x ho g off hx (zs.map (Value.int k)) d hb hu hd (by rw [List.length_map]; exact hi) (hK _ _ h)
/-- A row out of memory, between two values. -/
theorem bodyPost_mid {fn : Func} {R : Ending → World → Prop} (p0 p p1 : Tmp) (ty : TypeId) (h : fn.results = #[.tmp p0, .cell p ty, .tmp p1]) (g : Nat) (ht : a.tmps.getD p undef = .pointer (some ⟨g, 0, none⟩)) (v0 v1 : Value) (h0 : a.tmps.getD p0 undef = v0) (h1 : a.tmps.getD p1 undef = v1) (t : TypeId) (cs : Array Value) (hb : Blk w g t cs)
    (d : TypeDesc) (hu : P.underlying ty = some d) (hd : d.isRow = true) (hi : (P.info? ty).map (·.size) = some cs.size) (hdf : a.defers = []) (hR : R (.returned (.tuple #[v0, .agg cs, v1])) w) : bodyPost P fn R .ret a w := by
  refine bodyPost_ret (v := .tuple #[v0, .agg cs, v1]) ?_ hdf hR
  have hl := run_loadVar_mid (P := P) w g 0 ty cs.toList d hb.range hu hd (by rw [Array.length_toList]; exact hi)
  have ht' : a.tmps[p]?.getD undef = .pointer (some ⟨g, 0, none⟩) := by rw [← ht, Array.getD_eq_getD_getElem?]
  have h0' : a.tmps[p0]?.getD undef = v0 := by rw [← h0, Array.getD_eq_getD_getElem?]
  have h1' : a.tmps[p1]?.getD undef = v1 := by rw [← h1, Array.getD_eq_getD_getElem?]
  simp only [results, h]
  simp [ht', h0', h1', asAddr, hl]
end
end Go.Proofs.YtomkidgmpbjgeaaGreatDoor
/-
  == of two hashes by value; small matters that laws share.
  Conditions: those that each theorem names.
-/
set_option maxRecDepth 100000
set_option linter.unusedVariables false
set_option linter.unusedSimpArgs false
namespace Go.Proofs.YtomkidgmpbjgeaaGreatDoor
open Go.ChangeShapes Go.WideShapes Go.ChangeAt Go.RowKit
theorem Rd.to {k : IntKind} {w w' : World} {n : Nat} {A : Option Addr} {zs : List Int} (h : Rd k w w.heap.size A n zs) (hb : Below w.heap.size w w') : Rd k w' w'.heap.size A n zs := (h.below hb).mono hb.size
theorem eq_hash (zs ys : List Int) (hz : zs.length = 32) (hy : ys.length = 32) (w : World) : (Op.equalIn 10000 28 (.agg (intsA .u8 zs)) (.agg (intsA .u8 ys))).run Tryz.prog w = .ok (decide (zs = ys)) w := by
  obtain ⟨i0, hi, _, hs, _⟩ := info_parts info_u8'
  exact run_equal_ints Tryz.underlying28 Tryz.underlying5 hi hs (by kernel_rfl) zs ys hz hy w
theorem same_hash (zs : List Int) (hz : zs.length = 32) (w : World) : (Op.equalIn 10000 28 (.agg (intsA .u8 zs)) (.agg (intsA .u8 zs))).run Tryz.prog w = .ok true w := by
  have := eq_hash zs zs hz hz w
  rwa [decide_eq_true rfl] at this
theorem u8b {l : List Int} (h : ∀ z ∈ l, (Lit.int .u8 z).wf = true) : ∀ z ∈ l, 0 ≤ z ∧ z < 256 := fun z hz => by have := bounds_u8 (h z hz); omega
end Go.Proofs.YtomkidgmpbjgeaaGreatDoor
/-
  How many bits an attempt takes, in plain Lean.
  Conditions: those that each theorem names.
-/
set_option maxRecDepth 100000
set_option linter.unusedVariables false
set_option linter.unusedSimpArgs false
namespace Go.Proofs.YtomkidgmpbjgeaaGreatDoor
/-- How many bits an attempt takes. -/
def needN (n : Int) : Nat := if n = 0 then 0 else Wd.bitsL (n - 1).toNat
theorem needN_le (n : Int) (h0 : 0 ≤ n) (h1 : n < 18446744073709551616) : needN n ≤ 64 := by
  unfold needN
  split
  · omega
  · exact Wd.bitsL_le _ (by omega)
end Go.Proofs.YtomkidgmpbjgeaaGreatDoor

/-
  What stage 10's laws share: limbs in memory as one list of facts, rows of two and three numbers, numbers reckoned out.
  Conditions: those that each theorem names.
-/
import Derived.Test.YtoimepmignlmkaaDoorNatD
set_option maxRecDepth 100000
set_option linter.unusedVariables false
set_option linter.unusedSimpArgs false
namespace Go.Proofs.YtoimepmignlmkaaDoor
open Go.ChangeShapes Go.WideShapes Go.ChangeAt Go.RowKit
def NFx (w0 : World) : List (Option Addr × List Int) → World → Prop
  | [], w => Below w0.heap.size w0 w
  | p :: l, w => Rd .u32 w w.heap.size p.1 p.2.length p.2 ∧ NFx w0 l w
theorem NFx.bel {w0 w : World} : ∀ {l : List (Option Addr × List Int)}, NFx w0 l w → Below w0.heap.size w0 w
  | [], h => h
  | _ :: _, h => NFx.bel h.2
theorem NFx.below {w0 w w' : World} : ∀ {l : List (Option Addr × List Int)}, NFx w0 l w → Below w.heap.size w w' → NFx w0 l w'
  | [], h, hb => Below.trans h (hb.mono (Below.size h))
  | _ :: _, h, hb => ⟨(Rd.below h.1 hb).mono hb.size, NFx.below h.2 hb⟩
theorem NFx.alloc {w0 w : World} {l : List (Option Addr × List Int)} (h : NFx w0 l w) (o : Obj) : NFx w0 l (w.alloc o) := h.below ((Below.refl _ _).alloc (Nat.le_refl _) o)
theorem NFx.drew {w0 w : World} {l : List (Option Addr × List Int)} (h : NFx w0 l w) : NFx w0 l w.drew := h.below (Below.refl _ _).drew
theorem NFx.drewN {w0 w : World} {l : List (Option Addr × List Int)} (h : NFx w0 l w) (n : Nat) : NFx w0 l (w.drewN n) := h.below (below_drewN (Below.refl _ _) n)
theorem NFx.add {w0 w w' : World} {l : List (Option Addr × List Int)} {A : Option Addr} {zs : List Int} (h : NFx w0 l w) (hb : Below w.heap.size w w') (hr : Rd .u32 w' w'.heap.size A zs.length zs) : NFx w0 ((A, zs) :: l) w' := ⟨hr, h.below hb⟩
theorem NFx.start (w : World) : NFx w [] w := Below.refl _ _
theorem NFx.more {w0 w : World} {l : List (Option Addr × List Int)} {A : Option Addr} {zs : List Int} (h : NFx w0 l w) (hr : Rd .u32 w w.heap.size A zs.length zs) : NFx w0 ((A, zs) :: l) w := ⟨hr, h⟩
section
variable {w0 w : World} {l : List (Option Addr × List Int)} {A : Option Addr} {zs : List Int} {f0 f1 f2 f3 f4 f5 f6 f7 f8 f9 f10 f11 f12 f13 f14 f15 : Option Addr × List Int}
theorem NFx.r0 (h : NFx w0 ((A, zs) :: l) w) : Rd .u32 w w.heap.size A zs.length zs := h.1
theorem NFx.r1 (h : NFx w0 (f0 :: (A, zs) :: l) w) : Rd .u32 w w.heap.size A zs.length zs := h.2.1
theorem NFx.r2 (h : NFx w0 (f0 :: f1 :: (A, zs) :: l) w) : Rd .u32 w w.heap.size A zs.length zs := h.2.2.1
theorem NFx.r3 (h : NFx w0 (f0 :: f1 :: f2 :: (A, zs) :: l) w) : Rd .u32 w w.heap.size A zs.length zs := h.2.2.2.1
theorem NFx.r4 (h : NFx w0 (f0 :: f1 :: f2 :: f3 :: (A, zs) :: l) w) : Rd .u32 w w.heap.size A zs.length zs := h.2.2.2.2.1
theorem NFx.r5 (h : NFx w0 (f0 :: f1 :: f2 :: f3 :: f4 :: (A, zs) :: l) w) : Rd .u32 w w.heap.size A zs.length zs := h.2.2.2.2.2.1
theorem NFx.r6 (h : NFx w0 (f0 :: f1 :: f2 :: f3 :: f4 :: f5 :: (A, zs) :: l) w) : Rd .u32 w w.heap.size A zs.length zs := h.2.2.2.2.2.2.1
theorem NFx.r7 (h : NFx w0 (f0 :: f1 :: f2 :: f3 :: f4 :: f5 :: f6 :: (A, zs) :: l) w) : Rd .u32 w w.heap.size A zs.length zs := h.2.2.2.2.2.2.2.1
theorem NFx.r8 (h : NFx w0 (f0 :: f1 :: f2 :: f3 :: f4 :: f5 :: f6 :: f7 :: (A, zs) :: l) w) : Rd .u32 w w.heap.size A zs.length zs := h.2.2.2.2.2.2.2.2.1
theorem NFx.r9 (h : NFx w0 (f0 :: f1 :: f2 :: f3 :: f4 :: f5 :: f6 :: f7 :: f8 :: (A, zs) :: l) w) : Rd .u32 w w.heap.size A zs.length zs := h.2.2.2.2.2.2.2.2.2.1
theorem NFx.r10 (h : NFx w0 (f0 :: f1 :: f2 :: f3 :: f4 :: f5 :: f6 :: f7 :: f8 :: f9 :: (A, zs) :: l) w) : Rd .u32 w w.heap.size A zs.length zs := h.2.2.2.2.2.2.2.2.2.2.1
theorem NFx.r11 (h : NFx w0 (f0 :: f1 :: f2 :: f3 :: f4 :: f5 :: f6 :: f7 :: f8 :: f9 :: f10 :: (A, zs) :: l) w) : Rd .u32 w w.heap.size A zs.length zs := h.2.2.2.2.2.2.2.2.2.2.2.1
theorem NFx.r12 (h : NFx w0 (f0 :: f1 :: f2 :: f3 :: f4 :: f5 :: f6 :: f7 :: f8 :: f9 :: f10 :: f11 :: (A, zs) :: l) w) : Rd .u32 w w.heap.size A zs.length zs := h.2.2.2.2.2.2.2.2.2.2.2.2.1
theorem NFx.r13 (h : NFx w0 (f0 :: f1 :: f2 :: f3 :: f4 :: f5 :: f6 :: f7 :: f8 :: f9 :: f10 :: f11 :: f12 :: (A, zs) :: l) w) : Rd .u32 w w.heap.size A zs.length zs := h.2.2.2.2.2.2.2.2.2.2.2.2.2.1
theorem NFx.r14 (h : NFx w0 (f0 :: f1 :: f2 :: f3 :: f4 :: f5 :: f6 :: f7 :: f8 :: f9 :: f10 :: f11 :: f12 :: f13 :: (A, zs) :: l) w) : Rd .u32 w w.heap.size A zs.length zs := h.2.2.2.2.2.2.2.2.2.2.2.2.2.2.1
theorem NFx.r15 (h : NFx w0 (f0 :: f1 :: f2 :: f3 :: f4 :: f5 :: f6 :: f7 :: f8 :: f9 :: f10 :: f11 :: f12 :: f13 :: f14 :: (A, zs) :: l) w) : Rd .u32 w w.heap.size A zs.length zs := h.2.2.2.2.2.2.2.2.2.2.2.2.2.2.2.1
end
theorem Rd.len_eq {w : World} {B n : Nat} {A : Option Addr} {zs : List Int} (h : Rd .u32 w B A n zs) : n = zs.length := h.len.symm
def rowN (A : Option Addr) (zs : List Int) (c : Nat) : NRow := ⟨A, zs.length, c, zs⟩
def RowOk (w : World) (A : Option Addr) (zs : List Int) (c : Nat) : Prop := Rd .u32 w w.heap.size A zs.length zs ∧ zs.length ≤ c ∧ c ≤ maxLen ∧ Lim zs
theorem rdNs_of {w : World} {rs : List NRow} (hr : ∀ r ∈ rs, Rd .u32 w w.heap.size r.A r.n r.zs ∧ r.n ≤ r.c ∧ r.c ≤ maxLen ∧ Lim r.zs) : RdNs (w.alloc (.cells (rs.map NRow.val).toArray 26)) (w.alloc (.cells (rs.map NRow.val).toArray 26)).heap.size (some ⟨w.heap.size, 0, none⟩) rs.length rs := by
  have hb : Below w.heap.size w (w.alloc (.cells (rs.map NRow.val).toArray 26)) := (Below.refl _ _).alloc (Nat.le_refl _) _
  refine ⟨rfl, fun _ => ⟨w.heap.size, 0, rfl, (Blk.new w _ _).lt, fun j r hj => ?_⟩, fun r h => ⟨((hr r h).1.below hb).mono hb.size, (hr r h).2⟩⟩
  rw [Nat.zero_add, (Blk.new w 26 (rs.map NRow.val).toArray).cell, List.getElem?_toArray, List.getElem?_map, hj]
  rfl
theorem rdNs_one {w : World} {A : Option Addr} {a : List Int} {c : Nat} (ha : Rd .u32 w w.heap.size A a.length a) (hc : a.length ≤ c) (hm : c ≤ maxLen) (hl : Lim a) : RdNs (w.alloc (.cells #[.slice A a.length c] 26)) (w.alloc (.cells #[.slice A a.length c] 26)).heap.size (some ⟨w.heap.size, 0, none⟩) 1 [rowN A a c] :=
  rdNs_of (rs := [rowN A a c]) (fun r h => by
    obtain rfl := List.mem_singleton.1 h
    exact ⟨ha, hc, hm, hl⟩)
theorem rdNs_two {w : World} {A B : Option Addr} {a b : List Int} {c d : Nat} (ha : Rd .u32 w w.heap.size A a.length a) (hb : Rd .u32 w w.heap.size B b.length b) (hc : a.length ≤ c) (hd : b.length ≤ d) (hm : c ≤ maxLen) (hm2 : d ≤ maxLen) (hl : Lim a) (hl2 : Lim b) : RdNs (w.alloc (.cells #[.slice A a.length c, .slice B b.length d] 26)) (w.alloc (.cells #[.slice A a.length c, .slice B b.length d] 26)).heap.size (some ⟨w.heap.size, 0, none⟩) 2 [rowN A a c, rowN B b d] :=
  rdNs_of (rs := [rowN A a c, rowN B b d]) (fun r h => by
    rcases List.mem_cons.1 h with rfl | h
    · exact ⟨ha, hc, hm, hl⟩
    · obtain rfl := List.mem_singleton.1 h
      exact ⟨hb, hd, hm2, hl2⟩)
theorem rdNs_three {w : World} {A B C : Option Addr} {a b x : List Int} {c d e : Nat} (ha : Rd .u32 w w.heap.size A a.length a) (hb : Rd .u32 w w.heap.size B b.length b) (hx : Rd .u32 w w.heap.size C x.length x) (hc : a.length ≤ c) (hd : b.length ≤ d) (he : x.length ≤ e) (hm : c ≤ maxLen) (hm2 : d ≤ maxLen) (hm3 : e ≤ maxLen) (hl : Lim a) (hl2 : Lim b) (hl3 : Lim x) : RdNs (w.alloc (.cells #[.slice A a.length c, .slice B b.length d, .slice C x.length e] 26)) (w.alloc (.cells #[.slice A a.length c, .slice B b.length d, .slice C x.length e] 26)).heap.size (some ⟨w.heap.size, 0, none⟩) 3 [rowN A a c, rowN B b d, rowN C x e] :=
  rdNs_of (rs := [rowN A a c, rowN B b d, rowN C x e]) (fun r h => by
    rcases List.mem_cons.1 h with rfl | h
    · exact ⟨ha, hc, hm, hl⟩
    · rcases List.mem_cons.1 h with rfl | h
      · exact ⟨hb, hd, hm2, hl2⟩
      · obtain rfl := List.mem_singleton.1 h
        exact ⟨hx, he, hm3, hl3⟩)
/-! ### numbers reckoned out -/
def decF : Nat → Nat → List Int
  | 0, n => [48 + (n : Int)]
  | k + 1, n => if n < 10 then [48 + (n : Int)] else decF k (n / 10) ++ [48 + ((n % 10 : Nat) : Int)]
theorem decF_eq : ∀ k n, n < 10 ^ (k + 1) → decL n = decF k n
  | 0, n, h => by rw [decL_small (by simpa using h)]; rfl
  | k + 1, n, h => by
    by_cases h2 : n < 10
    · rw [decL_small h2, decF, if_pos h2]
    · rw [decL_big h2, decF, if_neg h2, decF_eq k (n / 10) (by rw [Nat.pow_succ] at h; omega)]
def natF : Nat → Nat → List Int
  | 0, _ => []
  | k + 1, n => if n = 0 then [] else ((n % 4294967296 : Nat) : Int) :: natF k (n / 4294967296)
theorem natF_eq : ∀ k n, n < 4294967296 ^ k → natL n = natF k n
  | 0, n, h => by
    have : n = 0 := by simpa using h
    subst this
    rw [natL_zero]; rfl
  | k + 1, n, h => by
    by_cases h2 : n = 0
    · subst h2; rw [natL_zero]; rfl
    · rw [natL_pos h2, natF, if_neg h2, natF_eq k (n / 4294967296) (by rw [Nat.pow_succ] at h; omega)]
def sumN : List NRow → Nat
  | [] => 0
  | r :: l => valL r.zs + sumN l
def prodN : List NRow → Nat
  | [] => 1
  | r :: l => valL r.zs * prodN l
theorem natL_mono {m n : Nat} (h : m ≤ n) (hn : (natL n).length ≤ 256) : (natL m).length ≤ 256 := by
  rw [natL_len] at hn ⊢
  omega
theorem addGo_ok : ∀ (rs : List NRow) (s : Nat), (natL (s + sumN rs)).length ≤ 256 → addGo s rs = (0, natL (s + sumN rs))
  | [], s, _ => by rw [addGo]; rfl
  | r :: l, s, h => by
    rw [sumN, ← Nat.add_assoc] at h ⊢
    have h2 : (natL (s + valL r.zs)).length ≤ 256 := natL_mono (by omega) h
    rw [addGo, if_neg (by omega), addGo_ok l (s + valL r.zs) h]
theorem addR_ok {rs : List NRow} (ha : allN rs = true) (h : (natL (sumN rs)).length ≤ 256) : addR rs = (0, natL (sumN rs)) := by
  unfold addR
  rw [if_pos ha]
  have h2 := addGo_ok rs 0 (by rw [Nat.zero_add]; exact h)
  rwa [Nat.zero_add] at h2
theorem mulGo_ok : ∀ (rs : List NRow) (s : Nat), (∀ r ∈ rs, 1 ≤ valL r.zs) → (natL (s * prodN rs)).length ≤ 256 → mulGo s rs = (0, natL (s * prodN rs))
  | [], s, _, _ => by rw [mulGo, prodN, Nat.mul_one]
  | r :: l, s, hr, h => by
    have hp : ∀ l : List NRow, (∀ r ∈ l, 1 ≤ valL r.zs) → 1 ≤ prodN l := fun l => by
      induction l with
      | nil => intro _; exact Nat.le_refl _
      | cons q l ih => intro hq; rw [prodN]; exact Nat.mul_pos (hq q (by simp)) (ih fun r hr => hq r (by simp [hr]))
    rw [prodN, ← Nat.mul_assoc] at h ⊢
    have h2 : (natL (s * valL r.zs)).length ≤ 256 := natL_mono (Nat.le_mul_of_pos_right _ (hp l fun q hq => hr q (by simp [hq]))) h
    rw [mulGo, if_neg (by omega), mulGo_ok l (s * valL r.zs) (fun q hq => hr q (by simp [hq])) h]
theorem prodN_rep (zs : List Int) : ∀ k, prodN (List.replicate k (rowOf zs)) = valL zs ^ k
  | 0 => rfl
  | k + 1 => by rw [List.replicate_succ, prodN, prodN_rep zs k, Nat.pow_succ, Nat.mul_comm]; rfl
theorem powR_ok {zs : List Int} {k : Nat} (hr : rightN zs = true) (hk : k ≤ 64) (h1 : 1 ≤ valL zs) (h : (natL (valL zs ^ k)).length ≤ 256) : powR zs (k : Int) = (0, natL (valL zs ^ k)) := by
  unfold powR
  rw [if_pos ⟨hr, by omega, by omega⟩, Int.toNat_natCast]
  unfold mulR
  have ha : allN (List.replicate k (rowOf zs)) = true := List.all_eq_true.2 fun r hr' => by rw [List.eq_of_mem_replicate hr']; exact hr
  rw [if_pos ha, mulGo_ok _ 1 (fun r hr' => by rw [List.eq_of_mem_replicate hr']; exact h1) (by rw [prodN_rep, Nat.one_mul]; exact h), prodN_rep, Nat.one_mul]
theorem sub_nat {x y : Nat} (hx : rightN (natL x) = true) (hy : rightN (natL y) = true) : subR (natL x) (natL y) = if x < y then (12, []) else (0, natL (x - y)) := by
  unfold subR
  rw [hx, hy, natL_val, natL_val]
  rfl
theorem cmp_nat {x y : Nat} (hx : rightN (natL x) = true) (hy : rightN (natL y) = true) : cmpR (natL x) (natL y) = if x < y then -1 else if y < x then 1 else 0 := by
  unfold cmpR
  rw [hx, hy, natL_val, natL_val]
  rfl
theorem div_nat {x : Nat} {d : Int} (hx : rightN (natL x) = true) (h1 : 1 ≤ d) (h2 : d < 9223372036854775808) : divV (natL x) d = x / d.toNat ∧ divL (natL x) d = x % d.toNat ∧ divE (natL x) d = 0 := by
  refine ⟨?_, ?_, ?_⟩
  · unfold divV; rw [if_pos ⟨hx, h1, h2⟩, natL_val]
  · unfold divL; rw [if_pos ⟨hx, h1, h2⟩, natL_val]
  · unfold divE; rw [if_pos ⟨hx, h1, h2⟩]
theorem small_right {n : Nat} (h : n < 4294967296 ^ 3) : rightN (natL n) = true := rightN_natL (Nat.le_trans ((natL_len n 3).2 h) (by omega))
theorem small_len {n : Nat} (h : n < 4294967296 ^ 3) : (natL n).length ≤ 256 := Nat.le_trans ((natL_len n 3).2 h) (by omega)
/-- The sum of two numbers that may be, if it isn't too great. -/
theorem addR_two {A B : Option Addr} {a b : List Int} {c d : Nat} (ha : rightN a = true) (hb : rightN b = true) (hl : (natL (valL a + valL b)).length ≤ 256) : addR [rowN A a c, rowN B b d] = (0, natL (valL a + valL b)) := by
  have h0 : allN [rowN A a c, rowN B b d] = true := by
    show (rightN a && (rightN b && true)) = true
    rw [ha, hb]; rfl
  have h1 : ¬ 256 < (natL (0 + valL a)).length := by
    rw [Nat.zero_add]
    have h2 : (natL (valL a)).length ≤ 256 := by
      rw [natL_len] at hl ⊢
      omega
    omega
  unfold addR
  rw [if_pos h0, addGo]
  show (if 256 < (natL (0 + valL a)).length then _ else _) = _
  rw [if_neg h1, addGo]
  show (if 256 < (natL (0 + valL a + valL b)).length then _ else _) = _
  rw [if_neg (by rw [Nat.zero_add]; omega), addGo]
  show (0, natL (0 + valL a + valL b)) = _
  rw [Nat.zero_add]
theorem mulR_two {A B : Option Addr} {a b : List Int} {c d : Nat} (ha : rightN a = true) (hb : rightN b = true) (hla : (natL (valL a)).length ≤ 256) (hl : (natL (valL a * valL b)).length ≤ 256) : mulR [rowN A a c, rowN B b d] = (0, natL (valL a * valL b)) := by
  have h0 : allN [rowN A a c, rowN B b d] = true := by
    show (rightN a && (rightN b && true)) = true
    rw [ha, hb]; rfl
  unfold mulR
  rw [if_pos h0, mulGo]
  show (if 256 < (natL (1 * valL a)).length then _ else _) = _
  rw [if_neg (by rw [Nat.one_mul]; omega), mulGo]
  show (if 256 < (natL (1 * valL a * valL b)).length then _ else _) = _
  rw [if_neg (by rw [Nat.one_mul]; omega), mulGo]
  show (0, natL (1 * valL a * valL b)) = _
  rw [Nat.one_mul]
theorem allN_two {A B : Option Addr} {a b : List Int} {c d : Nat} (ha : rightN a = true) (hb : rightN b = true) : allN [rowN A a c, rowN B b d] = true := by
  show (rightN a && (rightN b && true)) = true
  rw [ha, hb]; rfl
theorem allN_three {A B C : Option Addr} {a b x : List Int} {c d e : Nat} (ha : rightN a = true) (hb : rightN b = true) (hx : rightN x = true) : allN [rowN A a c, rowN B b d, rowN C x e] = true := by
  show (rightN a && (rightN b && (rightN x && true))) = true
  rw [ha, hb, hx]; rfl
theorem right_natL {n k : Nat} (h : n < 4294967296 ^ k) (hk : k ≤ 256) : rightN (natL n) = true := rightN_natL (Nat.le_trans ((natL_len n k).2 h) hk)
theorem lt_len {l : List Int} (hl : Lim l) {k : Nat} (h : l.length ≤ k) : valL l < 4294967296 ^ k := Nat.lt_of_lt_of_le (valL_lt hl) (Nat.pow_le_pow_right (by omega) h)
end Go.Proofs.YtoimepmignlmkaaDoor

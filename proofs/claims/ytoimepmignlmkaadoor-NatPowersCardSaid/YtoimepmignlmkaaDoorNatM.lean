/-
  Limbs in memory: how they are handed back; what walks over them need.
  Conditions: those that each theorem names.
-/
import Derived.Test.YtoimepmignlmkaaDoorRows
import Derived.Test.YtoimepmignlmkaaDoorNatP
import Derived.Test.YtoimepmignlmkaaDoorRegA
set_option maxRecDepth 100000
set_option linter.unusedVariables false
set_option linter.unusedSimpArgs false
namespace Go.Proofs.YtoimepmignlmkaaDoor
open Go.ChangeShapes Go.WideShapes Go.ChangeAt Go.RowKit
theorem info_u32d : (Tryd.prog.info? 45).map (fun i => (i.zero, i.size, i.bytes)) = some (some (.int .u32 0), 1, 4) := by kernel_rfl
/-- What hands back limbs, and leaves memory. -/
def RetN (w : World) (zs : List Int) (e : Ending) (w' : World) : Prop := ∃ A c, e = .returned (.slice A zs.length c) ∧ zs.length ≤ c ∧ c ≤ maxLen ∧ Rd .u32 w' w'.heap.size A zs.length zs ∧ Below w.heap.size w w'
theorem ret_boolN {p q : Bool} (h : p = q) : Ending.returned (.bool p) = .returned (.bool q) := by rw [h]
theorem ret_slice {A : Option Addr} {n m c : Nat} (h : n = m) : Ending.returned (.slice A n c) = .returned (.slice A m c) := by rw [h]
theorem ret_sliceE {A : Option Addr} {n m c : Nat} {e : Int} (h : n = m) : Ending.returned (.tuple #[.slice A n c, .int .i64 e]) = .returned (.tuple #[.slice A m c, .int .i64 e]) := by rw [h]
theorem rd_two32 (w : World) (e : TypeId) (x y : Int) : Rd .u32 (w.alloc (.cells #[.int .u32 x, .int .u32 y] e)) (w.alloc (.cells #[.int .u32 x, .int .u32 y] e)).heap.size (some ⟨w.heap.size, 0, none⟩) 2 [x, y] := by
  refine ⟨rfl, fun _ => ⟨w.heap.size, 0, rfl, (Blk.new w e #[.int .u32 x, .int .u32 y]).lt, fun j hj => ?_⟩⟩
  have : j = 0 ∨ j = 1 := by omega
  rcases this with rfl | rfl
  · rw [(Blk.new w e #[.int .u32 x, .int .u32 y]).cell]; rfl
  · rw [(Blk.new w e #[.int .u32 x, .int .u32 y]).cell]; rfl
theorem rd_trim {w : World} {B n : Nat} {A : Option Addr} {zs : List Int} (h : Rd .u32 w B A n zs) : Rd .u32 w B A (trimL zs).length (trimL zs) := by
  have h1 := h.upto (j := (trimL zs).length) (by rw [← h.len]; exact trimL_len zs)
  rwa [← trimL_take] at h1
theorem rightN_big {l : List Int} (h : 256 < l.length) : rightN l = false := by unfold rightN; rw [decide_eq_false (by omega)]; rfl
theorem lastOk_at {l : List Int} {m : Nat} (h : l.length = m + 1) : lastOk l = (l.getD m 0 != 0) := by
  have e : l.getLast? = some (l.getD m 0) := by
    rw [List.getLast?_eq_getElem?, h, Nat.add_sub_cancel, List.getD_eq_getElem?_getD, List.getElem?_eq_getElem (by omega)]
    rfl
  unfold lastOk
  rw [e]
theorem rightN_at {l : List Int} {m : Nat} (h : l.length = m + 1) (hm : m + 1 ≤ 256) : rightN l = (l.getD m 0 != 0) := by
  unfold rightN
  rw [decide_eq_true (by omega), Bool.true_and, lastOk_at h]
theorem trimL_zero {l : List Int} {k : Nat} (h : k < l.length) (hz : l.getD k 0 = 0) : trimL (l.take k) = trimL (l.take (k + 1)) := by
  rw [List.take_add_one, List.getElem?_eq_getElem h]
  rw [List.getD_eq_getElem?_getD, List.getElem?_eq_getElem h] at hz
  have hz2 : l[k] = 0 := hz
  show _ = trimL (l.take k ++ [l[k]])
  rw [hz2, trimL_snoc_zero]
theorem trimL_stop {l : List Int} {k : Nat} (h : k < l.length) (hz : l.getD k 0 ≠ 0) : (trimL (l.take (k + 1))).length = k + 1 := by
  have hl : (l.take (k + 1)).length = k + 1 := by rw [List.length_take]; omega
  have e : (l.take (k + 1)).getD k 0 = l.getD k 0 := by
    rw [List.getD_eq_getElem?_getD, List.getD_eq_getElem?_getD, List.getElem?_take, if_pos (by omega)]
  have h1 : lastOk (l.take (k + 1)) = true := by
    rw [lastOk_at hl, e]
    simpa [bne] using hz
  rw [lastOk_can.1 h1, hl]
theorem carry_step (P p q r x y X Y : Nat) (h : p + 4294967296 * q = x + y + r) : P * p + P * 4294967296 * (q + X + Y) = P * (r + (x + 4294967296 * X) + (y + 4294967296 * Y)) := by
  rw [Nat.mul_assoc, ← Nat.mul_add]
  congr 1
  omega
/-- One step of a product, limb by limb. -/
theorem mul_step (P p q r o x y Y Vo Vn T : Nat) (h : p + 4294967296 * q = o + x * y + r) (hs : Vn + P * o = Vo + P * p) (hv : Vo + P * (r + x * (y + 4294967296 * Y)) = T) : Vn + P * 4294967296 * (q + x * Y) = T := by
  have h1 : P * (p + 4294967296 * q) = P * (o + x * y + r) := by rw [h]
  have h2 : P * (r + x * (y + 4294967296 * Y)) = P * r + P * (x * y) + P * (4294967296 * (x * Y)) := by
    rw [← Nat.mul_add, ← Nat.mul_add]
    congr 1
    rw [Nat.mul_add, Nat.mul_left_comm x 4294967296 Y]
    omega
  have h3 : P * 4294967296 * (q + x * Y) = P * (4294967296 * q) + P * (4294967296 * (x * Y)) := by rw [Nat.mul_assoc, ← Nat.mul_add, Nat.mul_add]
  rw [Nat.mul_add, Nat.mul_add, Nat.mul_add] at h1
  rw [h2] at hv
  rw [h3]
  generalize P * (4294967296 * (x * Y)) = a1 at *
  generalize P * (4294967296 * q) = a2 at *
  generalize P * (x * y) = a3 at *
  generalize P * p = a4 at *
  generalize P * o = a5 at *
  generalize P * r = a6 at *
  omega
/-- A number below a power of 2^32 has noughts from there on. -/
theorem limb_zero {l : List Int} (h : Lim l) {j : Nat} (hv : valL l < 4294967296 ^ j) : l.getD j 0 = 0 := by
  by_cases hj : j < l.length
  · have h1 := valL_take_drop l j (by omega)
    rw [valL_drop_getD l j] at h1
    have h2 := h.getD j
    have h3 : (l.getD j 0).toNat = 0 := by
      rcases Nat.eq_zero_or_pos (l.getD j 0).toNat with h4 | h4
      · exact h4
      · have h5 := Nat.le_mul_of_pos_right (4294967296 ^ j) (show 0 < (l.getD j 0).toNat + 4294967296 * valL (l.drop (j + 1)) by omega)
        omega
    omega
  · rw [List.getD_eq_getElem?_getD, List.getElem?_eq_none (by omega)]; rfl
theorem mul_bound {x y : Nat} (hx : x < 4294967296) (hy : y < 4294967296) : x * y ≤ 18446744065119617025 := Nat.mul_le_mul (show x ≤ 4294967295 by omega) (show y ≤ 4294967295 by omega)
theorem intsA_set32 (zs : List Int) (j : Nat) (z : Int) : (intsA .u32 zs).setIfInBounds j (.int .u32 z) = intsA .u32 (zs.set j z) := by simp [intsA, List.map_set]
theorem size_u32s : (Tryd.prog.info? 45).map (·.size) = some 1 := by kernel_rfl
/-- A row of limbs of the call's own, known whole. -/
def NatS (w : World) (g : Nat) (out : List Int) (w' : World) : Prop := Blk w' g 45 (intsA .u32 out) ∧ w.heap.size ≤ g ∧ Below w.heap.size w w'
theorem NatS.blk {w w' : World} {g : Nat} {out : List Int} (h : NatS w g out w') : Blk w' g 45 (intsA .u32 out) := h.1
theorem NatS.bel {w w' : World} {g : Nat} {out : List Int} (h : NatS w g out w') : Below w.heap.size w w' := h.2.2
theorem NatS.drew {w w' : World} {g : Nat} {out : List Int} (h : NatS w g out w') : NatS w g out w'.drew := ⟨h.1, h.2.1, h.2.2.trans ((Below.refl _ _).drew)⟩
theorem NatS.drewN {w w' : World} {g : Nat} {out : List Int} (h : NatS w g out w') (n : Nat) : NatS w g out (w'.drewN n) := ⟨h.1, h.2.1, below_drewN h.2.2 n⟩
theorem NatS.below {w w' w'' : World} {g : Nat} {out : List Int} (h : NatS w g out w') (hb : Below w'.heap.size w' w'') : NatS w g out w'' := ⟨h.1.below hb h.1.lt, h.2.1, h.2.2.trans (hb.mono h.2.2.size)⟩
theorem NatS.set {w w' w'' : World} {g j : Nat} {out : List Int} {z : Int} (h : NatS w g out w') (hk : Blk w'' g 45 ((intsA .u32 out).setIfInBounds j (.int .u32 z))) (ho : Only g w' w'') : NatS w g (out.set j z) w'' := ⟨by rw [← intsA_set32]; exact hk, h.2.1, h.2.2.trans (ho.below h.2.1 h.2.2.size)⟩
theorem NatS.rd {w w' : World} {g : Nat} {out : List Int} (h : NatS w g out w') : Rd .u32 w' w'.heap.size (some ⟨g, 0, none⟩) out.length out := ⟨rfl, fun _ => ⟨g, 0, rfl, h.1.lt, fun j hj => by rw [h.1.cell, Nat.zero_add, intsA_at _ _ _ hj]⟩⟩
theorem NatS.at_ {w w' : World} {g : Nat} {out : List Int} (h : NatS w g out w') {j : Nat} (hj : j < out.length) : w'.cell? ⟨g, j, none⟩ = some (.int .u32 (out.getD j 0)) := by rw [h.1.cell, intsA_at _ _ _ hj]
theorem nat_lt {out : List Int} {j : Nat} (hj : j < out.length) : j < (intsA .u32 out).size := by rw [intsA_size]; exact hj
end Go.Proofs.YtoimepmignlmkaaDoor

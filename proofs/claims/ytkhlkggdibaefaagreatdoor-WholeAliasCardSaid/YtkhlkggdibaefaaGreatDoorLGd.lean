/-
  Texts of this claim, joined (what the claim does not need is left out): ScnA, ComV, ComZ, NatD, NatL, ComX, ComY, MapK, ComB, OddP, OddM, NatA, NatB, NatC, NatG, NatE, NatF, DivP, ShlA, DivA, NatH, NatI, OddA, ComC, ComD, ComE.
-/
import Derived.Test.YtkhlkggdibaefaaGreatDoorLGc
import Derived.DeepKeys4
import Derived.Maps.Keyed
import Derived.Maps.OwnOps
import Derived.Deep.CutRange
import Derived.Deep.CutBlock
import Derived.Test.YtkhlkggdibaefaaGreatDoorRows
import Derived.Shelf.Strconv.Itoa0
import Derived.Shelf.Strconv.Itoa1
import Derived.Shelf.Strconv.Itoa2
import Derived.Shelf.Small.Bits
import Derived.Shelf.Bits.Mul64
import Derived.Shelf.Strings.Prefix
import Derived.Laws.CopyRow
import Derived.Lib.SlBuf
import Derived.BigQuiet
set_option maxRecDepth 100000
set_option linter.unusedVariables false
set_option linter.unusedSimpArgs false
set_option linter.unusedSectionVars false
namespace Go.Proofs.YtkhlkggdibaefaaGreatDoor
section
open Go.ChangeShapes Go.WideShapes Go.ChangeAt Go.RowKit
section
variable (l : List Int) (hz : ∀ z ∈ l, 0 ≤ z ∧ z < 18446744073709551616) (A : Option Addr) (n c : Nat) (hn : n ≤ 1000000)
include hz hn
theorem q12pos_c (w : World) (hrd : Rd .u64 w w.heap.size A n l) : Calls Tryz.prog 32 #[.slice A n c] w fun e w' => e = .returned (.int .i64 (posL l : Nat)) ∧ Below w.heap.size w w' := by
  have HR := Lib.hid hrd
  have hlen := hrd.len
  have hnm : (n : Int) ≤ 1000000 := by omega
  have HZ : Hid (∀ k, k < n → 0 ≤ l.getD k 0 ∧ l.getD k 0 < 18446744073709551616) := Lib.hid (fun k h => hz _ (getD_in (l := l) (k := k) (by omega)))
  have HTK := Lib.hid (fun k (h : k < n) => posL_take (l := l) (k := k) (by omega))
  have HAL : Hid (l.take n = l) := Lib.hid (List.take_of_length_le (by omega))
  have HLE : Hid (∀ k, k ≤ n → posL (l.take k) ≤ k) := Lib.hid (fun k h => by have := posL_le (l.take k); rw [List.length_take] at this; omega)
  clear hrd hz hn hlen
  go_enter Tryz.func32, Tryz.ntmps32
  go_wp2
  go_loopw [3, 8] (fun pp ii wr => ∃ k : Nat, k ≤ n ∧ ii = .int .i64 (k : Int) ∧ pp = .int .i64 (posL (l.take k) : Nat) ∧ w = wr) (fun _ ii _ => n - (intOf ii).toNat)
  case atStart => exact ⟨0, by omega, rfl, rfl, by first | rfl | trivial⟩
  case round =>
    obtain ⟨k, hk, rfl, rfl, rfl⟩ := hrel
    by_cases hlt : k < n
    · obtain ⟨g, off, rfl, -, hc⟩ := HR.out.at_ (by omega)
      have hck := hc k hlt
      have hzk := HZ.out k hlt
      have htk := HTK.out k hlt
      have hle := HLE.out k hk
      have hlt2 : (k : Int) < (n : Int) := by omega
      obtain ⟨z, hzz⟩ : ∃ z, l.getD k 0 = z := ⟨_, rfl⟩
      rw [hzz] at hck hzk htk
      obtain ⟨p, hp⟩ : ∃ p, posL (l.take k) = p := ⟨_, rfl⟩
      rw [hp] at htk hle ⊢
      obtain ⟨z0, z1⟩ := hzk
      have hpk : (p : Int) ≤ (k : Int) := by omega
      by_cases hpos : 0 < z
      · rw [if_pos hpos] at htk
        have HNP := Lib.hid htk
        clear hc hzz hp htk hle
        go_wp2
        go_roundw
        case rel => exact ⟨k + 1, by omega, by go_num, by rw [HNP.out]; go_num, by first | rfl | trivial⟩
        case measure => simp [intOf]; omega
      · rw [if_neg hpos] at htk
        have HNP := Lib.hid htk
        clear hc hzz hp htk hle
        go_wp2
        go_roundw
        case rel => exact ⟨k + 1, by omega, by go_num, by rw [HNP.out]; rfl, by first | rfl | trivial⟩
        case measure => simp [intOf]; omega
    · obtain rfl : k = n := by omega
      rw [HAL.out]
      go_wp2
      go_ret
      exact ⟨rfl, Below.refl _ _⟩
end
end
section
theorem setN_at {xs : List Nat} {j v i : Nat} (hj : j < xs.length) : (xs.set j v).getD i 0 = if i = j then v else xs.getD i 0 := by
  by_cases h : i = j
  · subst h
    rw [if_pos rfl, List.getD_eq_getElem?_getD, List.getElem?_set_self hj]
    rfl
  · rw [if_neg h, List.getD_eq_getElem?_getD, List.getElem?_set_ne (fun e => h e.symm), ← List.getD_eq_getElem?_getD]
end
section
structure Turn where
  k : Nat
  st : Nat
  lost : Nat
def Turn.fits (t : Turn) : Prop := t.k ≤ 63 ∧ t.st + t.lost ≤ 2 ^ t.k ∧ t.st < 9223372036854775808
def wT (m : Nat) : List Turn → Nat → Nat
  | [], r => 2 ^ r
  | t :: T, r => wayD t.k t.st t.lost (wT m T) m r
def tapN (m : Nat) (T : List Turn) (j r : Nat) : Nat := match T with
  | [] => 2 ^ r
  | t :: T' => wayD t.k t.st t.lost (wT m T') (m - j) r
def tapV (m : Nat) (T : List Turn) (i j r : Nat) : Nat := tapN m (T.drop i) j r
def turL : List Int → List Int → List Turn
  | [], _ => []
  | i :: M, l => ⟨needN (sumL l), (l.getD i.toNat 0).toNat, 2 ^ needN (sumL l) - (sumL l).toNat⟩ :: turL M (l.set i.toNat 0)
def turOk : List Int → List Int → Prop
  | [], _ => True
  | i :: M, l => memB l i ∧ turOk M (l.set i.toNat 0)
theorem zero_sum {l : List Int} (hz : ∀ z ∈ l, 0 ≤ z) {k : Nat} (hk : k < l.length) : sumL (l.set k 0) = sumL l - l.getD k 0 := by
  have h := preL_set (l := l) 0 hk l.length
  have e1 : preL (l.set k 0) l.length = sumL (l.set k 0) := by
    have := preL_all (l.set k 0)
    rwa [List.length_set] at this
  rw [e1, preL_all, if_pos hk] at h
  omega
structure TurI (M l : List Int) (i : Nat) (li : List Int) (T : List Turn) : Prop where
  len : li.length = l.length
  nn : ∀ z ∈ li, 0 ≤ z
  sum : sumL li < 9223372036854775808
  at_ : ∀ x : Nat, li.getD x 0 = if (x : Int) ∈ M.take i then 0 else l.getD x 0
  app : turL M l = T ++ turL (M.drop i) li
  ok : turOk M l ↔ turOk (M.drop i) li
  tlen : T.length = i
  fits : ∀ t ∈ T, t.fits
theorem TurI.start {M l : List Int} (hz : ∀ z ∈ l, 0 ≤ z) (hs : sumL l < 9223372036854775808) : TurI M l 0 l [] :=
  ⟨rfl, hz, hs, fun x => by rw [List.take_zero, if_neg (by simp)], rfl, Iff.rfl, rfl, fun t h => by cases h⟩
section
variable {M l li : List Int} {i : Nat} {T : List Turn} {x : Int}
theorem TurI.no (h : TurI M l i li T) (hd : M.drop i = x :: M.drop (i + 1)) (hm : ¬ memB li x) : ¬ turOk M l := by
  rw [h.ok, hd]
  exact fun h2 => hm h2.1
theorem TurI.pos (h : TurI M l i li T) (hm : memB li x) : 1 ≤ sumL li ∧ li.getD x.toNat 0 = l.getD x.toNat 0 ∧ l.getD x.toNat 0 ≤ sumL li ∧ 0 < l.getD x.toNat 0 := by
  obtain ⟨h0, h1, h2⟩ := hm
  have hk : x.toNat < li.length := by omega
  have hge := sum_ge h.nn hk
  have e : li.getD x.toNat 0 = l.getD x.toNat 0 := by
    have := h.at_ x.toNat
    split at this
    · omega
    · exact this
  rw [e] at hge h2
  exact ⟨by omega, e, hge, h2⟩
theorem TurI.step (h : TurI M l i li T) (hd : M.drop i = x :: M.drop (i + 1)) (hi : i < M.length) (hm : memB li x) : TurI M l (i + 1) (li.set x.toNat 0) (T ++ [⟨needN (sumL li), (l.getD x.toNat 0).toNat, 2 ^ needN (sumL li) - (sumL li).toNat⟩]) ∧ sumL (li.set x.toNat 0) = sumL li - l.getD x.toNat 0 := by
  obtain ⟨p1, p2, p3, p4⟩ := h.pos hm
  obtain ⟨h0, h1, h2⟩ := hm
  have hk : x.toNat < li.length := by omega
  have hsum := zero_sum h.nn hk
  have hx : M[i]? = some x := by
    have := congrArg List.head? hd
    rwa [List.head?_drop] at this
  have htake : M.take (i + 1) = M.take i ++ [x] := by rw [List.take_add_one, hx]; rfl
  obtain ⟨hn1, hn2⟩ := need_pow (n := sumL li) p1 h.sum
  refine ⟨⟨by rw [List.length_set]; exact h.len, set_nn h.nn _, ?_, fun y => ?_, ?_, ?_, by rw [List.length_append, h.tlen]; rfl, fun t ht => ?_⟩, by rw [hsum, p2]⟩
  · have := sum_set h.nn x.toNat
    have := h.sum
    omega
  · rw [set_getDc hk, htake]
    by_cases hy : y = x.toNat
    · subst hy
      rw [if_pos rfl, if_pos (by rw [show ((x.toNat : Nat) : Int) = x by omega]; simp)]
    · rw [if_neg hy, h.at_]
      have hne : (y : Int) ≠ x := by omega
      by_cases hin : (y : Int) ∈ M.take i
      · rw [if_pos hin, if_pos (by simp [hin])]
      · rw [if_neg hin, if_neg (by simp [hin, hne])]
  · rw [h.app, hd]
    show _ = (T ++ [_]) ++ _
    rw [List.append_assoc, ← p2]
    rfl
  · rw [h.ok, hd]
    exact ⟨fun h5 => h5.2, fun h5 => ⟨⟨h0, h1, h2⟩, h5⟩⟩
  · rcases List.mem_append.1 ht with ht | ht
    · exact h.fits t ht
    · rw [List.mem_singleton.1 ht]
      have hs := h.sum
      exact ⟨hn1, by show (l.getD x.toNat 0).toNat + (2 ^ needN (sumL li) - (sumL li).toNat) ≤ 2 ^ needN (sumL li); omega, by show (l.getD x.toNat 0).toNat < _; omega⟩
theorem TurI.done (h : TurI M l i li T) (hi : i = M.length) : turOk M l ∧ T = turL M l := by
  have hd : M.drop i = [] := List.drop_eq_nil_of_le (by omega)
  exact ⟨by rw [h.ok, hd]; trivial, by rw [h.app, hd]; show T = T ++ []; rw [List.append_nil]⟩
end
end
section
open Go.ChangeShapes Go.WideShapes Go.ChangeAt Go.RowKit
def cmpR (xs ys : List Int) : Int := if (rightN xs && rightN ys) = true then (if valL xs < valL ys then -1 else if valL ys < valL xs then 1 else 0) else 0
def subR (xs ys : List Int) : Int × List Int := if (rightN xs && rightN ys) = true then (if valL xs < valL ys then (12, []) else (0, natL (valL xs - valL ys))) else (1, [])
def divE (xs : List Int) (d : Int) : Int := if rightN xs = true ∧ 1 ≤ d ∧ d < 9223372036854775808 then 0 else 1
def divV (xs : List Int) (d : Int) : Nat := if rightN xs = true ∧ 1 ≤ d ∧ d < 9223372036854775808 then valL xs / d.toNat else 0
def divL (xs : List Int) (d : Int) : Nat := if rightN xs = true ∧ 1 ≤ d ∧ d < 9223372036854775808 then valL xs % d.toNat else 0
theorem valL_split (l : List Int) (i : Nat) (h : i ≤ l.length) : valL l = valL (l.take i) + 4294967296 ^ i * ((l.getD i 0).toNat + 4294967296 * valL (l.drop (i + 1))) := by rw [valL_take_drop l i h, valL_drop_getD]
theorem take_lt {l : List Int} (hl : Lim l) (i : Nat) : valL (l.take i) < 4294967296 ^ i := by
  refine Nat.lt_of_lt_of_le (valL_lt (hl.take i)) (Nat.pow_le_pow_right (by omega) ?_)
  rw [List.length_take]
  omega
theorem cmp_less {xs ys : List Int} (hx : Lim xs) (hy : Lim ys) {i : Nat} (hi : i < xs.length) (hj : i < ys.length) (hd : xs.drop (i + 1) = ys.drop (i + 1)) (h : xs.getD i 0 < ys.getD i 0) : valL xs < valL ys := by
  rw [valL_split xs i (by omega), valL_split ys i (by omega), hd]
  have h1 := take_lt hx i
  have h2 := hx.getD i
  have h3 := hy.getD i
  generalize valL (xs.take i) = a at *
  generalize valL (ys.take i) = b at *
  generalize 4294967296 ^ i = P at *
  generalize valL (ys.drop (i + 1)) = D at *
  have h4 : P * ((xs.getD i 0).toNat + 1 + 4294967296 * D) ≤ P * ((ys.getD i 0).toNat + 4294967296 * D) := Nat.mul_le_mul_left P (by omega)
  have h5 : P * ((xs.getD i 0).toNat + 1 + 4294967296 * D) = P * ((xs.getD i 0).toNat + 4294967296 * D) + P := by rw [show (xs.getD i 0).toNat + 1 + 4294967296 * D = (xs.getD i 0).toNat + 4294967296 * D + 1 by omega, Nat.mul_add, Nat.mul_one]
  omega
theorem len_less {xs ys : List Int} (hx : Lim xs) (hy : Lim ys) (hr : rightN ys = true) (h : xs.length < ys.length) : valL xs < valL ys := by
  have h1 := valL_lt hx
  have h2 := rightN_can hy hr
  have h3 : ¬ (natL (valL ys)).length ≤ xs.length := by rw [← h2]; omega
  rw [natL_len] at h3
  omega
theorem getD_end {l : List Int} {i : Nat} (h : l.length ≤ i) : l.getD i 0 = 0 := by rw [List.getD_eq_getElem?_getD, List.getElem?_eq_none h]; rfl
theorem valL_take_next (l : List Int) (k : Nat) : valL (l.take (k + 1)) = valL (l.take k) + 4294967296 ^ k * (l.getD k 0).toNat := by
  rcases Nat.lt_or_ge k l.length with h | h
  · exact valL_take_succ l k h
  · rw [getD_end h, List.take_of_length_le (by omega), List.take_of_length_le h]
    show valL l = valL l + _ * 0
    omega
theorem sub_step (P dg y bo x bn Vo Y X : Nat) (h : dg + y + bo = x + 4294967296 * bn) (hv : Vo + Y = X + P * bo) : Vo + P * dg + (Y + P * y) = X + P * x + P * 4294967296 * bn := by
  have h1 : P * (dg + y + bo) = P * (x + 4294967296 * bn) := by rw [h]
  rw [Nat.mul_add, Nat.mul_add, Nat.mul_add, ← Nat.mul_assoc] at h1
  omega
theorem sub_end {Vo a b P bo : Nat} (hb : bo ≤ 1) (h : Vo + b = a + P * bo) (hv : Vo < P) (hab : b ≤ a) : Vo = a - b := by
  have : bo = 0 ∨ bo = 1 := by omega
  rcases this with rfl | rfl
  · omega
  · rw [Nat.mul_one] at h; omega
theorem div_step {Q0 oq d left X0 K x t : Nat} (h : (Q0 * K + oq) * d + left = X0 * K + x / 2 ^ (t + 1)) (c oq' left' : Nat) (hc : (2 * left + x / 2 ^ t % 2) = c) (ho : (oq' = 2 * oq ∧ left' = c) ∨ (oq' = 2 * oq + 1 ∧ left' + d = c)) : (Q0 * (2 * K) + oq') * d + left' = X0 * (2 * K) + x / 2 ^ t := by
  have h1 : x / 2 ^ (t + 1) = x / 2 ^ t / 2 := by rw [Nat.pow_succ, Nat.div_div_eq_div_mul]
  rw [h1] at h
  have h2 : Q0 * (2 * K) = 2 * (Q0 * K) := Nat.mul_left_comm _ _ _
  have h3 : X0 * (2 * K) = 2 * (X0 * K) := Nat.mul_left_comm _ _ _
  rw [h2, h3]
  generalize x / 2 ^ t = z at *
  generalize Q0 * K = q at *
  generalize X0 * K = y at *
  have h4 : (2 * q + 2 * oq) * d = 2 * ((q + oq) * d) := by rw [← Nat.mul_add, Nat.mul_assoc]
  rcases ho with ⟨rfl, rfl⟩ | ⟨rfl, h5⟩
  · rw [h4]; omega
  · rw [← Nat.add_assoc, Nat.add_mul, h4]; omega
theorem div_end {q d left v : Nat} (h : q * d + left = v) (hl : left < d) : q = v / d ∧ left = v % d := by
  subst h
  constructor
  · rw [Nat.mul_comm, Nat.mul_add_div (by omega), Nat.div_eq_of_lt hl, Nat.add_zero]
  · rw [Nat.mul_comm, Nat.mul_add_mod, Nat.mod_eq_of_lt hl]
def RetND (w : World) (zs : List Int) (left : Nat) (err : Int) (e : Ending) (w' : World) : Prop := ∃ A c, e = .returned (.tuple #[.slice A zs.length c, .int .u64 (left : Int), .int .i64 err]) ∧ zs.length ≤ c ∧ c ≤ maxLen ∧ Rd .u32 w' w'.heap.size A zs.length zs ∧ Below w.heap.size w w'
theorem RetND.nil {w w' : World} (e : Int) (hb : Below w.heap.size w w') : RetND w [] 0 e (.returned (.tuple #[.slice none 0 0, .int .u64 0, .int .i64 e])) w' := ⟨none, 0, rfl, Nat.le_refl _, by simp [maxLen], Rd.none_, hb⟩
theorem set_drop (l : List Int) (m : Nat) (v : Int) : (l.set m v).drop (m + 1) = l.drop (m + 1) := List.drop_set_of_lt (by omega)
theorem set_getD {l : List Int} {m : Nat} (v : Int) (h : m < l.length) : (l.set m v).getD m 0 = v := by rw [List.getD_eq_getElem?_getD, List.getElem?_set_self h]; rfl
theorem set_set (l : List Int) (m : Nat) (u v : Int) : (l.set m u).set m v = l.set m v := List.set_set u
theorem pow_split {u : Nat} (h : u ≤ 32) : 2 ^ (32 - u) * 2 ^ u = 4294967296 := by rw [← Nat.pow_add, show 32 - u + u = 32 by omega]
def DivI (Q0 X0 x d u oq left : Nat) : Prop := u ≤ 32 ∧ left < d ∧ oq < 2 ^ (32 - u) ∧ (Q0 * 2 ^ (32 - u) + oq) * d + left = X0 * 2 ^ (32 - u) + x / 2 ^ u
theorem DivI.start {Q0 X0 x d left : Nat} (hx : x < 4294967296) (hl : left < d) (h : Q0 * d + left = X0) : DivI Q0 X0 x d 32 0 left := by
  refine ⟨Nat.le_refl _, hl, Nat.one_pos, ?_⟩
  rw [Nat.sub_self, Nat.pow_zero, Nat.mul_one, Nat.mul_one, Nat.add_zero, show 2 ^ 32 = 4294967296 from rfl, Nat.div_eq_of_lt hx, Nat.add_zero]
  exact h
theorem DivI.next {Q0 X0 x d t oq left : Nat} (h : DivI Q0 X0 x d (t + 1) oq left) : ∃ c, 2 * left + x / 2 ^ t % 2 = c ∧ (c < d → DivI Q0 X0 x d t (2 * oq) c) ∧ (¬ c < d → DivI Q0 X0 x d t (2 * oq + 1) (c - d)) ∧ c < 2 * d ∧ (2 * oq + 1) * 2 ^ t ≤ 4294967295 := by
  obtain ⟨h1, h2, h3, h4⟩ := h
  have e : 2 ^ (32 - t) = 2 * 2 ^ (32 - (t + 1)) := by rw [show 32 - t = 32 - (t + 1) + 1 by omega, Nat.pow_succ, Nat.mul_comm]
  refine ⟨_, rfl, fun hc => ⟨by omega, hc, by omega, ?_⟩, fun hc => ⟨by omega, by omega, by omega, ?_⟩, by omega, ?_⟩
  · rw [e]
    exact div_step h4 _ _ _ rfl (.inl ⟨rfl, rfl⟩)
  · rw [e]
    exact div_step h4 _ _ _ rfl (.inr ⟨rfl, by omega⟩)
  · have h5 : (2 * oq + 1 + 1) * 2 ^ t ≤ 2 ^ (32 - t) * 2 ^ t := Nat.mul_le_mul_right _ (by omega)
    rw [pow_split (by omega), Nat.add_mul] at h5
    have h6 : 0 < 2 ^ t := Nat.pow_pos (by omega)
    omega
theorem DivI.done {Q0 X0 x d oq left : Nat} (h : DivI Q0 X0 x d 0 oq left) : (oq + 4294967296 * Q0) * d + left = x + 4294967296 * X0 ∧ left < d ∧ oq < 4294967296 := by
  obtain ⟨_, h2, h3, h4⟩ := h
  rw [show 2 ^ (32 - 0) = 4294967296 from rfl] at h3 h4
  rw [Nat.pow_zero, Nat.div_one, Nat.add_comm (Q0 * 4294967296) oq, Nat.mul_comm Q0, Nat.mul_comm X0] at h4
  exact ⟨by omega, h2, h3⟩
end
section
open Go.ChangeShapes Go.WideShapes Go.ChangeAt Go.RowKit
def NFx (w0 : World) : List (Option Addr × List Int) → World → Prop
  | [], w => Below w0.heap.size w0 w
  | p :: l, w => Rd .u32 w w.heap.size p.1 p.2.length p.2 ∧ NFx w0 l w
theorem NFx.bel {w0 w : World} : ∀ {l : List (Option Addr × List Int)}, NFx w0 l w → Below w0.heap.size w0 w
  | [], h => h
  | _ :: _, h => NFx.bel h.2
theorem NFx.below {w0 w w' : World} : ∀ {l : List (Option Addr × List Int)}, NFx w0 l w → Below w.heap.size w w' → NFx w0 l w'
  | [], h, hb => Below.trans h (hb.mono (Below.size h))
  | _ :: _, h, hb => ⟨(Rd.below h.1 hb).mono hb.size, NFx.below h.2 hb⟩
theorem NFx.alloc {w0 w : World} {l : List (Option Addr × List Int)} (h : NFx w0 l w) (o : Obj) : NFx w0 l (w.alloc o) := h.below ((Below.refl _ _).alloc (Nat.le_refl _) o)
theorem NFx.drew {w0 w : World} {l : List (Option Addr × List Int)} (h : NFx w0 l w) : NFx w0 l w.drew := h.below (Below.refl _ _).drew
theorem NFx.drewN {w0 w : World} {l : List (Option Addr × List Int)} (h : NFx w0 l w) (n : Nat) : NFx w0 l (w.drewN n) := h.below (below_drewN (Below.refl _ _) n)
theorem NFx.add {w0 w w' : World} {l : List (Option Addr × List Int)} {A : Option Addr} {zs : List Int} (h : NFx w0 l w) (hb : Below w.heap.size w w') (hr : Rd .u32 w' w'.heap.size A zs.length zs) : NFx w0 ((A, zs) :: l) w' := ⟨hr, h.below hb⟩
theorem NFx.start (w : World) : NFx w [] w := Below.refl _ _
theorem NFx.more {w0 w : World} {l : List (Option Addr × List Int)} {A : Option Addr} {zs : List Int} (h : NFx w0 l w) (hr : Rd .u32 w w.heap.size A zs.length zs) : NFx w0 ((A, zs) :: l) w := ⟨hr, h⟩
section
variable {w0 w : World} {l : List (Option Addr × List Int)} {A : Option Addr} {zs : List Int} {f0 f1 f2 f3 f4 f5 f6 f7 f8 f9 f10 f11 f12 f13 f14 f15 : Option Addr × List Int}
theorem NFx.r0 (h : NFx w0 ((A, zs) :: l) w) : Rd .u32 w w.heap.size A zs.length zs := h.1
theorem NFx.r1 (h : NFx w0 (f0 :: (A, zs) :: l) w) : Rd .u32 w w.heap.size A zs.length zs := h.2.1
theorem NFx.r2 (h : NFx w0 (f0 :: f1 :: (A, zs) :: l) w) : Rd .u32 w w.heap.size A zs.length zs := h.2.2.1
theorem NFx.r3 (h : NFx w0 (f0 :: f1 :: f2 :: (A, zs) :: l) w) : Rd .u32 w w.heap.size A zs.length zs := h.2.2.2.1
theorem NFx.r4 (h : NFx w0 (f0 :: f1 :: f2 :: f3 :: (A, zs) :: l) w) : Rd .u32 w w.heap.size A zs.length zs := h.2.2.2.2.1
theorem NFx.r6 (h : NFx w0 (f0 :: f1 :: f2 :: f3 :: f4 :: f5 :: (A, zs) :: l) w) : Rd .u32 w w.heap.size A zs.length zs := h.2.2.2.2.2.2.1
theorem NFx.r7 (h : NFx w0 (f0 :: f1 :: f2 :: f3 :: f4 :: f5 :: f6 :: (A, zs) :: l) w) : Rd .u32 w w.heap.size A zs.length zs := h.2.2.2.2.2.2.2.1
theorem NFx.r9 (h : NFx w0 (f0 :: f1 :: f2 :: f3 :: f4 :: f5 :: f6 :: f7 :: f8 :: (A, zs) :: l) w) : Rd .u32 w w.heap.size A zs.length zs := h.2.2.2.2.2.2.2.2.2.1
theorem NFx.r15 (h : NFx w0 (f0 :: f1 :: f2 :: f3 :: f4 :: f5 :: f6 :: f7 :: f8 :: f9 :: f10 :: f11 :: f12 :: f13 :: f14 :: (A, zs) :: l) w) : Rd .u32 w w.heap.size A zs.length zs := h.2.2.2.2.2.2.2.2.2.2.2.2.2.2.2.1
end
def rowN (A : Option Addr) (zs : List Int) (c : Nat) : NRow := ⟨A, zs.length, c, zs⟩
theorem rdNs_of {w : World} {rs : List NRow} (hr : ∀ r ∈ rs, Rd .u32 w w.heap.size r.A r.n r.zs ∧ r.n ≤ r.c ∧ r.c ≤ maxLen ∧ Lim r.zs) : RdNs (w.alloc (.cells (rs.map NRow.val).toArray 45)) (w.alloc (.cells (rs.map NRow.val).toArray 45)).heap.size (some ⟨w.heap.size, 0, none⟩) rs.length rs := by
  have hb : Below w.heap.size w (w.alloc (.cells (rs.map NRow.val).toArray 45)) := (Below.refl _ _).alloc (Nat.le_refl _) _
  refine ⟨rfl, fun _ => ⟨w.heap.size, 0, rfl, (Blk.new w _ _).lt, fun j r hj => ?_⟩, fun r h => ⟨((hr r h).1.below hb).mono hb.size, (hr r h).2⟩⟩
  rw [Nat.zero_add, (Blk.new w 45 (rs.map NRow.val).toArray).cell, List.getElem?_toArray, List.getElem?_map, hj]
  rfl
theorem rdNs_two {w : World} {A B : Option Addr} {a b : List Int} {c d : Nat} (ha : Rd .u32 w w.heap.size A a.length a) (hb : Rd .u32 w w.heap.size B b.length b) (hc : a.length ≤ c) (hd : b.length ≤ d) (hm : c ≤ maxLen) (hm2 : d ≤ maxLen) (hl : Lim a) (hl2 : Lim b) : RdNs (w.alloc (.cells #[.slice A a.length c, .slice B b.length d] 45)) (w.alloc (.cells #[.slice A a.length c, .slice B b.length d] 45)).heap.size (some ⟨w.heap.size, 0, none⟩) 2 [rowN A a c, rowN B b d] :=
  rdNs_of (rs := [rowN A a c, rowN B b d]) (fun r h => by
    rcases List.mem_cons.1 h with rfl | h
    · exact ⟨ha, hc, hm, hl⟩
    · obtain rfl := List.mem_singleton.1 h
      exact ⟨hb, hd, hm2, hl2⟩)
def prodN : List NRow → Nat
  | [] => 1
  | r :: l => valL r.zs * prodN l
theorem natL_mono {m n : Nat} (h : m ≤ n) (hn : (natL n).length ≤ 256) : (natL m).length ≤ 256 := by
  rw [natL_len] at hn ⊢
  omega
theorem mulGo_ok : ∀ (rs : List NRow) (s : Nat), (∀ r ∈ rs, 1 ≤ valL r.zs) → (natL (s * prodN rs)).length ≤ 256 → mulGo s rs = (0, natL (s * prodN rs))
  | [], s, _, _ => by rw [mulGo, prodN, Nat.mul_one]
  | r :: l, s, hr, h => by
    have hp : ∀ l : List NRow, (∀ r ∈ l, 1 ≤ valL r.zs) → 1 ≤ prodN l := fun l => by
      induction l with
      | nil => intro _; exact Nat.le_refl _
      | cons q l ih => intro hq; rw [prodN]; exact Nat.mul_pos (hq q (by simp)) (ih fun r hr => hq r (by simp [hr]))
    rw [prodN, ← Nat.mul_assoc] at h ⊢
    have h2 : (natL (s * valL r.zs)).length ≤ 256 := natL_mono (Nat.le_mul_of_pos_right _ (hp l fun q hq => hr q (by simp [hq]))) h
    rw [mulGo, if_neg (by omega), mulGo_ok l (s * valL r.zs) (fun q hq => hr q (by simp [hq])) h]
theorem prodN_rep (zs : List Int) : ∀ k, prodN (List.replicate k (rowOf zs)) = valL zs ^ k
  | 0 => rfl
  | k + 1 => by rw [List.replicate_succ, prodN, prodN_rep zs k, Nat.pow_succ, Nat.mul_comm]; rfl
theorem powR_ok {zs : List Int} {k : Nat} (hr : rightN zs = true) (hk : k ≤ 64) (h1 : 1 ≤ valL zs) (h : (natL (valL zs ^ k)).length ≤ 256) : powR zs (k : Int) = (0, natL (valL zs ^ k)) := by
  unfold powR
  rw [if_pos ⟨hr, by omega, by omega⟩, Int.toNat_natCast]
  unfold mulR
  have ha : allN (List.replicate k (rowOf zs)) = true := List.all_eq_true.2 fun r hr' => by rw [List.eq_of_mem_replicate hr']; exact hr
  rw [if_pos ha, mulGo_ok _ 1 (fun r hr' => by rw [List.eq_of_mem_replicate hr']; exact h1) (by rw [prodN_rep, Nat.one_mul]; exact h), prodN_rep, Nat.one_mul]
theorem sub_nat {x y : Nat} (hx : rightN (natL x) = true) (hy : rightN (natL y) = true) : subR (natL x) (natL y) = if x < y then (12, []) else (0, natL (x - y)) := by
  unfold subR
  rw [hx, hy, natL_val, natL_val]
  rfl
theorem div_nat {x : Nat} {d : Int} (hx : rightN (natL x) = true) (h1 : 1 ≤ d) (h2 : d < 9223372036854775808) : divV (natL x) d = x / d.toNat ∧ divL (natL x) d = x % d.toNat ∧ divE (natL x) d = 0 := by
  refine ⟨?_, ?_, ?_⟩
  · unfold divV; rw [if_pos ⟨hx, h1, h2⟩, natL_val]
  · unfold divL; rw [if_pos ⟨hx, h1, h2⟩, natL_val]
  · unfold divE; rw [if_pos ⟨hx, h1, h2⟩]
theorem small_len {n : Nat} (h : n < 4294967296 ^ 3) : (natL n).length ≤ 256 := Nat.le_trans ((natL_len n 3).2 h) (by omega)
theorem mulR_two {A B : Option Addr} {a b : List Int} {c d : Nat} (ha : rightN a = true) (hb : rightN b = true) (hla : (natL (valL a)).length ≤ 256) (hl : (natL (valL a * valL b)).length ≤ 256) : mulR [rowN A a c, rowN B b d] = (0, natL (valL a * valL b)) := by
  have h0 : allN [rowN A a c, rowN B b d] = true := by
    show (rightN a && (rightN b && true)) = true
    rw [ha, hb]; rfl
  unfold mulR
  rw [if_pos h0, mulGo]
  show (if 256 < (natL (1 * valL a)).length then _ else _) = _
  rw [if_neg (by rw [Nat.one_mul]; omega), mulGo]
  show (if 256 < (natL (1 * valL a * valL b)).length then _ else _) = _
  rw [if_neg (by rw [Nat.one_mul]; omega), mulGo]
  show (0, natL (1 * valL a * valL b)) = _
  rw [Nat.one_mul]
end
section

end
section
open Go.ChangeShapes Go.WideShapes Go.ChangeAt Go.RowKit
def NumR (w : World) (x : Nat) (A : Option Addr) (m c : Nat) : Prop := m = (natL x).length ∧ m ≤ c ∧ c ≤ maxLen ∧ Rd .u32 w w.heap.size A m (natL x)
theorem NumR.below {w w' : World} {x m c : Nat} {A : Option Addr} (h : NumR w x A m c) (hb : Below w.heap.size w w') : NumR w' x A m c := ⟨h.1, h.2.1, h.2.2.1, (h.2.2.2.below hb).mono hb.size⟩
theorem NumR.drew {w : World} {x m c : Nat} {A : Option Addr} (h : NumR w x A m c) : NumR w.drew x A m c := h.below (Below.refl _ _).drew
theorem NumR.alloc {w : World} {x m c : Nat} {A : Option Addr} (h : NumR w x A m c) (o : Obj) : NumR (w.alloc o) x A m c := h.below ((Below.refl _ _).alloc (Nat.le_refl _) o)
theorem NumR.zero (w : World) : NumR w 0 none 0 0 := ⟨by rw [natL_zero]; rfl, Nat.le_refl _, by simp [maxLen], by rw [natL_zero]; exact Rd.none_⟩
theorem NumR.one (w : World) (o : TypeId) : NumR (w.alloc (.cells #[.int .u32 1] o)) 1 (some ⟨w.heap.size, 0, none⟩) 1 1 := ⟨by rw [natL_one]; rfl, Nat.le_refl _, by simp [maxLen], by
  rw [natL_one]
  exact (rd_one _ _ _ _).mono (by simp)⟩
def NumV (w : World) (x : Nat) (v : Value) : Prop := ∃ A m c, v = .slice A m c ∧ NumR w x A m c
theorem NumV.of {w : World} {x m c : Nat} {A : Option Addr} (h : NumR w x A m c) : NumV w x (.slice A m c) := ⟨A, m, c, rfl, h⟩
theorem NumV.below {w w' : World} {x : Nat} {v : Value} (h : NumV w x v) (hb : Below w.heap.size w w') : NumV w' x v := by
  obtain ⟨A, m, c, e, h1⟩ := h
  exact ⟨A, m, c, e, h1.below hb⟩
theorem NumV.zero (w : World) : NumV w 0 (.slice none 0 0) := NumV.of (NumR.zero w)
def RetNr (w : World) (x : Nat) (e : Ending) (w' : World) : Prop := ∃ A m c, e = .returned (.slice A m c) ∧ NumR w' x A m c ∧ Below w.heap.size w w'
def RetRE (w : World) (x : Nat) (e : Ending) (w' : World) : Prop := ∃ A m c, e = .returned (.tuple #[.slice A m c, .int .i64 0]) ∧ NumR w' x A m c ∧ Below w.heap.size w w'
theorem RetNr.of {w w' : World} {x : Nat} {e : Ending} (h : RetN w (natL x) e w') : RetNr w x e w' := by
  obtain ⟨A, c, e, h1, h2, h3, h4⟩ := h
  exact ⟨A, _, c, e, ⟨rfl, h1, h2, h3⟩, h4⟩
theorem RetRE.of {w w' : World} {x : Nat} {e : Ending} (h : RetNE w (0, natL x) e w') : RetRE w x e w' := by
  obtain ⟨A, c, e, h1, h2, h3, h4⟩ := h
  exact ⟨A, _, c, e, ⟨rfl, h1, h2, h3⟩, h4⟩
theorem NumR.ret {w0 w : World} {x m c : Nat} {A : Option Addr} (h : NumR w x A m c) (hb : Below w0.heap.size w0 w) : RetNE w0 (0, natL x) (.returned (.tuple #[.slice A m c, .int .i64 0])) w := by
  obtain ⟨rfl, h1, h2, h3⟩ := h
  exact ⟨A, c, rfl, h1, h2, h3, hb⟩
def NowV (w : World) (g : Nat) (xs : List Nat) (vs : List Value) : Prop := vs.length = xs.length ∧ Blk w g 45 vs.toArray ∧ ∀ j, j < xs.length → NumV w (xs.getD j 0) (vs.getD j undef)
theorem NowV.below {w w' : World} {g : Nat} {xs : List Nat} {vs : List Value} (h : NowV w g xs vs) (hb : Below w.heap.size w w') : NowV w' g xs vs := ⟨h.1, h.2.1.below hb h.2.1.lt, fun j hj => (h.2.2 j hj).below hb⟩
theorem NowV.blk {w : World} {g : Nat} {xs : List Nat} {vs : List Value} (h : NowV w g xs vs) : Blk w g 45 vs.toArray := h.2.1
theorem NowV.at_ {w : World} {g : Nat} {xs : List Nat} {vs : List Value} (h : NowV w g xs vs) {j : Nat} (hj : j < xs.length) : w.cell? ⟨g, j, none⟩ = some (vs.getD j undef) := by
  rw [h.2.1.cell, List.getElem?_toArray, List.getD_eq_getElem?_getD, List.getElem?_eq_getElem (by rw [h.1]; exact hj)]
  rfl
theorem NowV.noInt {w : World} {g : Nat} {xs : List Nat} {vs : List Value} (h : NowV w g xs vs) (k : IntKind) : NoInt k vs.toArray := by
  intro j z hz
  rw [List.getElem?_toArray] at hz
  have hj : j < vs.length := by
    rcases Nat.lt_or_ge j vs.length with h1 | h1
    · exact h1
    · rw [List.getElem?_eq_none h1] at hz; cases hz
  obtain ⟨A, m, c, e, -⟩ := h.2.2 j (by rw [← h.1]; exact hj)
  rw [List.getD_eq_getElem?_getD, hz] at e
  cases e
theorem NowV.num {w : World} {g : Nat} {xs : List Nat} {vs : List Value} (h : NowV w g xs vs) {j : Nat} (hj : j < xs.length) : ∃ A m c, vs.getD j undef = .slice A m c ∧ NumR w (xs.getD j 0) A m c := h.2.2 j hj
theorem Rd.onlyB {k : IntKind} {w w' : World} {A : Option Addr} {n g : Nat} {t : TypeId} {cs : Array Value} {zs : List Int} (h : Rd k w w.heap.size A n zs) (hb : Blk w g t cs) (hno : NoInt k cs) (ho : Only g w w') : Rd k w' w'.heap.size A n zs := by
  refine ⟨h.1, fun hn => ?_⟩
  obtain ⟨b, off, e, hlt, hc⟩ := h.2 hn
  have hne : b ≠ g := by
    rintro rfl
    have h0 := hc 0 hn
    rw [hb.cell] at h0
    exact hno _ _ h0
  refine ⟨b, off, e, Nat.lt_of_lt_of_le hlt ho.size, fun j hj => ?_⟩
  rw [World.cell?_of_block (w := w) (w' := w') (a := ⟨b, off + j, none⟩) (ho.block b hlt hne)]
  exact hc j hj
theorem NumR.onlyB {w w' : World} {x g m c : Nat} {A : Option Addr} {t : TypeId} {cs : Array Value} (h : NumR w x A m c) (hb : Blk w g t cs) (hno : NoInt .u32 cs) (ho : Only g w w') : NumR w' x A m c := ⟨h.1, h.2.1, h.2.2.1, h.2.2.2.onlyB hb hno ho⟩
theorem NumV.onlyB {w w' : World} {x g : Nat} {v : Value} {t : TypeId} {cs : Array Value} (h : NumV w x v) (hb : Blk w g t cs) (hno : NoInt .u32 cs) (ho : Only g w w') : NumV w' x v := by
  obtain ⟨A, m, c, e, h1⟩ := h
  exact ⟨A, m, c, e, h1.onlyB hb hno ho⟩
theorem Rd.cellB {w w' : World} {A : Option Addr} {n g q : Nat} {t : TypeId} {cur : Array Value} {zs : List Int} {x : Int} {v : Value} (h : Rd .u32 w w.heap.size A n zs) (hb : Blk w g t cur) (hq : cur[q]? = some (.int .u64 x)) (hb' : Blk w' g t (cur.setIfInBounds q v)) (ho : Only g w w') : Rd .u32 w' w'.heap.size A n zs := by
  refine ⟨h.1, fun hn => ?_⟩
  obtain ⟨b, off, e, hlt, hc⟩ := h.2 hn
  refine ⟨b, off, e, Nat.lt_of_lt_of_le hlt ho.size, fun j hj => ?_⟩
  have h1 := hc j hj
  by_cases hne : b = g
  · subst hne
    rw [hb.cell] at h1
    rw [hb'.cell, Array.getElem?_setIfInBounds_ne (fun e => by subst e; rw [hq] at h1; cases h1)]
    exact h1
  · rw [World.cell?_of_block (w := w) (w' := w') (a := ⟨b, off + j, none⟩) (ho.block b hlt hne)]
    exact h1
theorem NumV.cellB {w w' : World} {x g q : Nat} {z : Int} {u v : Value} {t : TypeId} {cur : Array Value} (h : NumV w x u) (hb : Blk w g t cur) (hq : cur[q]? = some (.int .u64 z)) (hb' : Blk w' g t (cur.setIfInBounds q v)) (ho : Only g w w') : NumV w' x u := by
  obtain ⟨A, m, c, e, h1, h2, h3, h4⟩ := h
  exact ⟨A, m, c, e, h1, h2, h3, h4.cellB hb hq hb' ho⟩
theorem NumV.only {w w' : World} {x g : Nat} {v : Value} {xs : List Nat} {vs : List Value} (h : NumV w x v) (hn : NowV w g xs vs) (ho : Only g w w') : NumV w' x v := h.onlyB hn.2.1 (hn.noInt _) ho
theorem NumR.only {w w' : World} {x g m c : Nat} {A : Option Addr} {xs : List Nat} {vs : List Value} (h : NumR w x A m c) (hn : NowV w g xs vs) (ho : Only g w w') : NumR w' x A m c := h.onlyB hn.2.1 (hn.noInt _) ho
theorem NowV.only {w w' : World} {g g' : Nat} {xs ys : List Nat} {vs us : List Value} (h : NowV w g' ys us) (hn : NowV w g xs vs) (hne : g' ≠ g) (ho : Only g w w') : NowV w' g' ys us := ⟨h.1, h.2.1.only ho hne, fun j hj => (h.2.2 j hj).only hn ho⟩
theorem NowV.put {w w' : World} {g j x : Nat} {xs : List Nat} {vs : List Value} {v : Value} (h : NowV w g xs vs) (hv : NumV w x v) (hj : j < xs.length) (hk : Blk w' g 45 (vs.toArray.setIfInBounds j v)) (ho : Only g w w') : NowV w' g (xs.set j x) (vs.set j v) := by
  refine ⟨by rw [List.length_set, List.length_set]; exact h.1, by rw [← List.setIfInBounds_toArray]; exact hk, fun i hi => ?_⟩
  rw [List.length_set] at hi
  by_cases hij : i = j
  · subst hij
    rw [setN_at hj, if_pos rfl, List.getD_eq_getElem?_getD, List.getElem?_set_self (by rw [h.1]; exact hj)]
    exact hv.only h ho
  · rw [setN_at hj, if_neg hij, show (vs.set j v).getD i undef = vs.getD i undef by rw [List.getD_eq_getElem?_getD, List.getElem?_set_ne (fun e => hij e.symm), ← List.getD_eq_getElem?_getD]]
    exact (h.2.2 i hi).only h ho
theorem NowV.fresh {w : World} {g n : Nat} (h : Blk w g 45 (List.replicate n (Value.slice none 0 0)).toArray) : NowV w g (List.replicate n 0) (List.replicate n (.slice none 0 0)) := by
  refine ⟨by rw [List.length_replicate, List.length_replicate], h, fun j hj => ?_⟩
  rw [List.length_replicate] at hj
  rw [List.getD_eq_getElem?_getD, List.getElem?_replicate, if_pos hj, List.getD_eq_getElem?_getD, List.getElem?_replicate, if_pos hj]
  exact NumV.zero w
def WayA (w0 : World) (v1 : Value) (L : List Int) (gN : Nat) (xs : List Nat) (vs : List Value) (w : World) : Prop := Below w0.heap.size w0 w ∧ OwnI w w0.heap.size 24 .u64 v1 L ∧ w0.heap.size ≤ gN ∧ NowV w gN xs vs
def WayB (w0 : World) (v1 : Value) (L : List Int) (gN : Nat) (xs : List Nat) (vs : List Value) (gX : Nat) (nx : List Nat) (us : List Value) (w : World) : Prop := WayA w0 v1 L gN xs vs w ∧ w0.heap.size ≤ gX ∧ gN ≠ gX ∧ NowV w gX nx us
section
variable {w0 w w' : World} {v1 : Value} {gN gX : Nat} {L : List Int} {xs nx : List Nat} {vs us : List Value}
theorem WayA.bel (h : WayA w0 v1 L gN xs vs w) : Below w0.heap.size w0 w := h.1
theorem WayA.own (h : WayA w0 v1 L gN xs vs w) : OwnI w w0.heap.size 24 .u64 v1 L := h.2.1
theorem WayA.below (h : WayA w0 v1 L gN xs vs w) (hb : Below w.heap.size w w') : WayA w0 v1 L gN xs vs w' := ⟨h.1.trans (hb.mono h.1.size), h.2.1.below hb, h.2.2.1, h.2.2.2.below hb⟩
theorem WayA.drew (h : WayA w0 v1 L gN xs vs w) : WayA w0 v1 L gN xs vs w.drew := h.below (Below.refl _ _).drew
theorem WayA.alloc (h : WayA w0 v1 L gN xs vs w) (o : Obj) : WayA w0 v1 L gN xs vs (w.alloc o) := h.below ((Below.refl _ _).alloc (Nat.le_refl _) o)
theorem WayA.lt (h : WayA w0 v1 L gN xs vs w) : gN < w.heap.size := h.2.2.2.2.1.lt
theorem WayA.rd {A1 : Option Addr} {n c1 : Nat} (h : WayA w0 (.slice A1 n c1) L gN xs vs w) (hn : L.length = n) : Rd .u64 w w.heap.size A1 n L := OwnI.rd h.2.1 hn
theorem WayA.put {j x : Nat} {v : Value} (h : WayA w0 v1 L gN xs vs w) (hv : NumV w x v) (hj : j < xs.length) (hk : Blk w' gN 45 (vs.toArray.setIfInBounds j v)) (ho : Only gN w w') : WayA w0 v1 L gN (xs.set j x) (vs.set j v) w' :=
  ⟨h.1.trans (ho.below h.2.2.1 h.1.size), h.2.1.only h.2.2.2.2.1 (by decide) ho, h.2.2.1, h.2.2.2.put hv hj hk ho⟩
theorem WayA.start {w1 : World} {n : Nat} (hb : Below w.heap.size w w1) (ho : OwnI w1 w.heap.size 24 .u64 v1 L) : WayA w v1 L w1.heap.size (List.replicate n 0) (List.replicate n (.slice none 0 0)) (w1.alloc (.cells (Array.replicate n (Value.slice none 0 0)) 45)) :=
  ⟨hb.alloc hb.size _, ho.below ((Below.refl _ _).alloc (Nat.le_refl _) _), hb.size, NowV.fresh (by rw [List.toArray_replicate]; exact Blk.new w1 _ _)⟩
theorem WayA.fresh {n : Nat} (h : WayA w0 v1 L gN xs vs w) : WayB w0 v1 L gN xs vs w.heap.size (List.replicate n 0) (List.replicate n (.slice none 0 0)) (w.alloc (.cells (Array.replicate n (Value.slice none 0 0)) 45)) :=
  ⟨h.alloc _, h.1.size, Nat.ne_of_lt h.lt, NowV.fresh (by rw [List.toArray_replicate]; exact Blk.new w _ _)⟩
theorem WayB.bel (h : WayB w0 v1 L gN xs vs gX nx us w) : Below w0.heap.size w0 w := h.1.1
theorem WayB.fst (h : WayB w0 v1 L gN xs vs gX nx us w) : WayA w0 v1 L gN xs vs w := h.1
theorem WayB.below (h : WayB w0 v1 L gN xs vs gX nx us w) (hb : Below w.heap.size w w') : WayB w0 v1 L gN xs vs gX nx us w' := ⟨h.1.below hb, h.2.1, h.2.2.1, h.2.2.2.below hb⟩
theorem WayB.drew (h : WayB w0 v1 L gN xs vs gX nx us w) : WayB w0 v1 L gN xs vs gX nx us w.drew := h.below (Below.refl _ _).drew
theorem WayB.rd {A1 : Option Addr} {n c1 : Nat} (h : WayB w0 (.slice A1 n c1) L gN xs vs gX nx us w) (hn : L.length = n) : Rd .u64 w w.heap.size A1 n L := h.1.rd hn
theorem WayB.put {j x : Nat} {v : Value} (h : WayB w0 v1 L gN xs vs gX nx us w) (hv : NumV w x v) (hj : j < nx.length) (hk : Blk w' gX 45 (us.toArray.setIfInBounds j v)) (ho : Only gX w w') : WayB w0 v1 L gN xs vs gX (nx.set j x) (us.set j v) w' :=
  ⟨⟨h.1.1.trans (ho.below h.2.1 h.1.1.size), h.1.2.1.only h.2.2.2.2.1 (by decide) ho, h.1.2.2.1, h.1.2.2.2.only h.2.2.2 h.2.2.1 ho⟩, h.2.1, h.2.2.1, h.2.2.2.put hv hj hk ho⟩
theorem WayB.next {g1 n c1 k : Nat} {x : Int} {cur : Array Value} (h : WayB w0 (.slice (some ⟨g1, 0, none⟩) n c1) L gN xs vs gX nx us w) (hb : Blk w g1 24 cur) (hk : k < L.length) (hck : cur[k]? = some (.int .u64 (L.getD k 0))) (hb' : Blk w' g1 24 (cur.setIfInBounds k (.int .u64 x))) (h1 : w0.heap.size ≤ g1) (ho : Only g1 w w') : WayA w0 (.slice (some ⟨g1, 0, none⟩) n c1) (L.set k x) gX nx us w' :=
  ⟨h.1.1.trans (ho.below h1 h.1.1.size), OwnI.put h.1.2.1 hb hk hb', h.2.1, h.2.2.2.1, h.2.2.2.2.1.only ho (fun e => by
    subst e
    have h5 := h.2.2.2.2.1
    unfold Blk at h5 hb
    rw [h5] at hb
    injection hb with hb
    injection hb with _ h6
    exact absurd h6 (by decide)), fun j hj => (h.2.2.2.2.2 j hj).cellB hb hck hb' ho⟩
end
end
section
open Go.ChangeShapes Go.WideShapes Go.ChangeAt Go.RowKit
def key3 (x y z : Int) : Value := .agg #[.int .i64 x, .int .i64 y, .int .i64 z]
def I64 (x : Int) : Prop := -9223372036854775808 ≤ x ∧ x < 9223372036854775808
theorem I64.wf {x : Int} (h : I64 x) : (Lit.int .i64 x).wf = true := by
  obtain ⟨h0, h1⟩ := h
  simp [Lit.wf, IntKind.min, IntKind.max, IntKind.signed, IntKind.bits]
  omega
def MapG (G : Int → Int → Int → Value → Prop) (w : World) (b : Nat) : Prop := ∃ es clock, w.heap[b]? = some (.map es clock) ∧ ∀ e ∈ es.toList, ∃ x y z, I64 x ∧ I64 y ∧ I64 z ∧ e.key = key3 x y z ∧ G x y z e.val
theorem MapG.lt {G : Int → Int → Int → Value → Prop} {w : World} {b : Nat} (h : MapG G w b) : b < w.heap.size := by
  obtain ⟨es, c, hb, _⟩ := h
  rcases Nat.lt_or_ge b w.heap.size with h1 | h1
  · exact h1
  · rw [Array.getElem?_eq_none h1] at hb; cases hb
section
variable {P : Program} {t k e : TypeId} {G : Int → Int → Int → Value → Prop} {w : World} {b : Nat} {x y z : Int}
def SameM (b : Nat) (w W : World) : Prop := W.heap[b]? = w.heap[b]?
theorem MapG.store (K : WideMaps.KeyLaw P k) (ht : P.underlying t = some (.map k e)) (hk : ∀ x y z, I64 x → I64 y → I64 z → ∃ l, keyOf P k (key3 x y z) = some l) (h : MapG G w b) (hx : I64 x) (hy : I64 y) (hz : I64 z) {v : Value} (hv : G x y z v) :
    ∃ es' clock', (Instr.mapUpdate t (.map (some b)) (key3 x y z) v).run P w = .ok () (ChangeMaps.setBlock w b (.map es' clock')) ∧ MapG G (ChangeMaps.setBlock w b (.map es' clock')) b := by
  have hlt := h.lt
  obtain ⟨es, clock, hb, hes⟩ := h
  obtain ⟨l, hl⟩ := hk x y z hx hy hz
  have hks : ∀ e ∈ es.toList, ∃ l, keyOf P k e.key = some l := fun e he => by
    obtain ⟨x', y', z', a1, a2, a3, a4, _⟩ := hes e he
    rw [a4]
    exact hk x' y' z' a1 a2 a3
  have hset : ∀ o, (ChangeMaps.setBlock w b o).heap[b]? = some o := fun o => by
    simp [ChangeMaps.setBlock, hlt]
  rcases K.find w hl es.toList hks with ⟨h1, h2⟩ | ⟨j, e0, h1, h2, h3⟩
  · refine ⟨es.push ⟨key3 x y z, v, clock⟩, clock + 1, ?_, _, _, hset _, fun e he => ?_⟩
    · simp [Instr.mapUpdate, run_underlying ht, MapKept.run_getObj_map hb, K.check w false hl, h1, MapKept.run_setObj_map _ hb, Result.andThen, ChangeMaps.setBlock]
    · simp only [Array.toList_push, List.mem_append, List.mem_singleton] at he
      rcases he with he | rfl
      · exact hes e he
      · exact ⟨x, y, z, hx, hy, hz, rfl, hv⟩
  · have hj : es[j]? = some e0 := by simpa using h2
    refine ⟨es.modify j (fun e' => { e' with key := key3 x y z, val := v }), clock, ?_, _, _, hset _, fun e he => ?_⟩
    · simp [Instr.mapUpdate, run_underlying ht, MapKept.run_getObj_map hb, K.check w false hl, h1, hj, h3, K.stays w hl, MapKept.run_setObj_map _ hb, Result.andThen, ChangeMaps.setBlock]
    · rcases MapFrom.mem_modify he with he | ⟨e1, _, rfl⟩
      · exact hes e he
      · exact ⟨x, y, z, hx, hy, hz, rfl, hv⟩
theorem MapG.to {G' : Int → Int → Int → Value → Prop} {w' : World} (h : MapG G w b) (hs : SameM b w w') (hG : ∀ x y z v, G x y z v → G' x y z v) : MapG G' w' b := by
  obtain ⟨es, clock, hb, hes⟩ := h
  exact ⟨es, clock, hs.trans hb, fun e he => by
    obtain ⟨x, y, z, a1, a2, a3, a4, a5⟩ := hes e he
    exact ⟨x, y, z, a1, a2, a3, a4, hG _ _ _ _ a5⟩⟩
end
end
section
open Go.ChangeShapes Go.WideShapes Go.ChangeAt Go.RowKit
structure Kp (w w' : World) : Prop where
  size : w.heap.size ≤ w'.heap.size
  cell : ∀ g off v, w.cell? ⟨g, off, none⟩ = some v → w'.cell? ⟨g, off, none⟩ = some v
theorem cell_lt {w : World} {g off : Nat} {v : Value} (h : w.cell? ⟨g, off, none⟩ = some v) : g < w.heap.size := by
  rcases Nat.lt_or_ge g w.heap.size with h1 | h1
  · exact h1
  · unfold World.cell? at h
    rw [Array.getElem?_eq_none h1] at h
    cases h
theorem Kp.of_below {w w' : World} (h : Below w.heap.size w w') : Kp w w' := ⟨h.size, fun g off v hc => (h.cell (p := ⟨g, off, none⟩) (cell_lt hc)).trans hc⟩
theorem Kp.of_only {G : Int → Int → Int → Value → Prop} {w w' : World} {b : Nat} (h : Only b w w') (hm : MapG G w b) : Kp w w' := ⟨h.size, fun g off v hc => by
  have hne : g ≠ b := by
    rintro rfl
    obtain ⟨es, clock, hb, _⟩ := hm
    unfold World.cell? at hc
    rw [hb] at hc
    cases hc
  rw [World.cell?_of_block (w := w) (w' := w') (a := ⟨g, off, none⟩) (h.block g (cell_lt hc) hne)]
  exact hc⟩
theorem Kp.trans {w w' w'' : World} (h : Kp w w') (h' : Kp w' w'') : Kp w w'' := ⟨Nat.le_trans h.size h'.size, fun g off v hc => h'.cell g off v (h.cell g off v hc)⟩
theorem Rd.kp {k : IntKind} {w w' : World} {A : Option Addr} {n : Nat} {zs : List Int} (h : Rd k w w.heap.size A n zs) (hk : Kp w w') : Rd k w' w'.heap.size A n zs :=
  ⟨h.1, fun hn => by
    obtain ⟨b, off, e, hlt, hc⟩ := h.2 hn
    exact ⟨b, off, e, Nat.lt_of_lt_of_le hlt hk.size, fun j hj => hk.cell _ _ _ (hc j hj)⟩⟩
theorem NumR.kp {w w' : World} {x m c : Nat} {A : Option Addr} (h : NumR w x A m c) (hk : Kp w w') : NumR w' x A m c := ⟨h.1, h.2.1, h.2.2.1, h.2.2.2.kp hk⟩
theorem NumV.kp {w w' : World} {x : Nat} {v : Value} (h : NumV w x v) (hk : Kp w w') : NumV w' x v := by
  obtain ⟨A, m, c, e, h1⟩ := h
  exact ⟨A, m, c, e, h1.kp hk⟩
def TurM (w : World) (A : Option Addr) (T : List Turn) : Prop := ∀ i t, T[i]? = some t → ∃ g off v1 v2, A = some ⟨g, off, none⟩ ∧ w.cell? ⟨g, off + i * 3, none⟩ = some (.int .i64 (t.k : Int)) ∧ w.cell? ⟨g, off + i * 3 + 1, none⟩ = some v1 ∧ w.cell? ⟨g, off + i * 3 + 2, none⟩ = some v2 ∧ NumV w t.st v1 ∧ NumV w t.lost v2
theorem TurM.kp {w w' : World} {A : Option Addr} {T : List Turn} (h : TurM w A T) (hk : Kp w w') : TurM w' A T := fun i t ht => by
  obtain ⟨g, off, v1, v2, e, h1, h2, h3, h4, h5⟩ := h i t ht
  exact ⟨g, off, v1, v2, e, hk.cell _ _ _ h1, hk.cell _ _ _ h2, hk.cell _ _ _ h3, h4.kp hk, h5.kp hk⟩
def WayG (T : List Turn) (m : Nat) (w : World) (x y z : Int) (v : Value) : Prop := ∀ i j r : Nat, x = (i : Int) → y = (j : Int) → z = (r : Int) → NumV w (tapV m T i j r) v
theorem WayG.kp {T : List Turn} {m : Nat} {w w' : World} {x y z : Int} {v : Value} (h : WayG T m w x y z v) (hk : Kp w w') : WayG T m w' x y z v := fun i j r e1 e2 e3 => (h i j r e1 e2 e3).kp hk
structure TapS (T : List Turn) (m : Nat) (A : Option Addr) (b : Nat) (w : World) : Prop where
  tur : TurM w A T
  map : MapG (WayG T m w) w b
theorem TapS.below {T : List Turn} {m b : Nat} {A : Option Addr} {w w' : World} (h : TapS T m A b w) (hb : Below w.heap.size w w') : TapS T m A b w' :=
  ⟨h.tur.kp (.of_below hb), h.map.to (hb.block b h.map.lt) (fun _ _ _ _ hv => hv.kp (.of_below hb))⟩
structure TapY (T : List Turn) (m n cT b gc gs gt i j r k : Nat) (A : Option Addr) (vS vL : Value) (st lost : Nat) (w0 w : World) : Prop where
  bc : Blk w gc 120 #[.slice A n cT, .int .i64 (m : Int), .map (some b)]
  bs : Blk w gs 123 #[.int .i64 (i : Int), .int .i64 (j : Int), .int .i64 (r : Int)]
  bt : Blk w gt 150 #[.int .i64 (k : Int), vS, vL]
  tap : TapS T m A b w
  nS : NumV w st vS
  nL : NumV w lost vL
  onl : Only b w0 w
  lt : b < w0.heap.size
  gc0 : w0.heap.size ≤ gc
  gs0 : w0.heap.size ≤ gs
  gt0 : w0.heap.size ≤ gt
section
variable {T : List Turn} {m n cT b gc gs gt i j r k st lost : Nat} {A : Option Addr} {vS vL : Value} {w0 w w' : World}
theorem TapY.below (h : TapY T m n cT b gc gs gt i j r k A vS vL st lost w0 w) (hb : Below w.heap.size w w') : TapY T m n cT b gc gs gt i j r k A vS vL st lost w0 w' :=
  ⟨h.bc.below hb h.bc.lt, h.bs.below hb h.bs.lt, h.bt.below hb h.bt.lt, h.tap.below hb, h.nS.kp (.of_below hb), h.nL.kp (.of_below hb), h.onl.trans (.of_below hb), h.lt, h.gc0, h.gs0, h.gt0⟩
theorem TapY.drew (h : TapY T m n cT b gc gs gt i j r k A vS vL st lost w0 w) : TapY T m n cT b gc gs gt i j r k A vS vL st lost w0 w.drew := h.below (Below.refl _ _).drew
theorem TapY.call (h : TapY T m n cT b gc gs gt i j r k A vS vL st lost w0 w) (ht : TapS T m A b w') (ho : Only b w w') : TapY T m n cT b gc gs gt i j r k A vS vL st lost w0 w' :=
  have hk : Kp w w' := .of_only ho h.tap.map
  ⟨h.bc.only ho (by have := h.gc0; have := h.lt; omega), h.bs.only ho (by have := h.gs0; have := h.lt; omega), h.bt.only ho (by have := h.gt0; have := h.lt; omega), ht, h.nS.kp hk, h.nL.kp hk, h.onl.trans ho, h.lt, h.gc0, h.gs0, h.gt0⟩
theorem TapY.c0 (h : TapY T m n cT b gc gs gt i j r k A vS vL st lost w0 w) : w.cell? ⟨gc, 0, none⟩ = some (.slice A n cT) := by rw [h.bc.cell]; rfl
theorem TapY.c1 (h : TapY T m n cT b gc gs gt i j r k A vS vL st lost w0 w) : w.cell? ⟨gc, 1, none⟩ = some (.int .i64 (m : Int)) := by rw [h.bc.cell]; rfl
theorem TapY.c2 (h : TapY T m n cT b gc gs gt i j r k A vS vL st lost w0 w) : w.cell? ⟨gc, 2, none⟩ = some (.map (some b)) := by rw [h.bc.cell]; rfl
theorem TapY.s0 (h : TapY T m n cT b gc gs gt i j r k A vS vL st lost w0 w) : w.cell? ⟨gs, 0, none⟩ = some (.int .i64 (i : Int)) := by rw [h.bs.cell]; rfl
theorem TapY.s1 (h : TapY T m n cT b gc gs gt i j r k A vS vL st lost w0 w) : w.cell? ⟨gs, 1, none⟩ = some (.int .i64 (j : Int)) := by rw [h.bs.cell]; rfl
theorem TapY.s2 (h : TapY T m n cT b gc gs gt i j r k A vS vL st lost w0 w) : w.cell? ⟨gs, 2, none⟩ = some (.int .i64 (r : Int)) := by rw [h.bs.cell]; rfl
theorem TapY.t0 (h : TapY T m n cT b gc gs gt i j r k A vS vL st lost w0 w) : w.cell? ⟨gt, 0, none⟩ = some (.int .i64 (k : Int)) := by rw [h.bt.cell]; rfl
theorem TapY.t1 (h : TapY T m n cT b gc gs gt i j r k A vS vL st lost w0 w) : w.cell? ⟨gt, 1, none⟩ = some vS := by rw [h.bt.cell]; rfl
theorem TapY.t2 (h : TapY T m n cT b gc gs gt i j r k A vS vL st lost w0 w) : w.cell? ⟨gt, 2, none⟩ = some vL := by rw [h.bt.cell]; rfl
end
end
section
def mayB (n m : Int) : Bool := decide (1 ≤ n ∧ n < 9223372036854775808 ∧ 1 ≤ m ∧ m ≤ 64)
theorem mayB_iff {n m : Int} : mayB n m = true ↔ (1 ≤ n ∧ n < 9223372036854775808 ∧ 1 ≤ m ∧ m ≤ 64) := decide_eq_true_iff
theorem mayB_no {n m : Int} (h : ¬ (1 ≤ n ∧ n < 9223372036854775808 ∧ 1 ≤ m ∧ m ≤ 64)) : mayB n m = false := decide_eq_false h
theorem need_in {n : Int} (h : 1 ≤ n) (h2 : n < 9223372036854775808) : needN n ≤ 63 ∧ n.toNat ≤ 2 ^ needN n := by
  by_cases h1 : n = 1
  · subst h1; exact ⟨by decide, by decide⟩
  · have e : needN n = (n - 1).toNat.log2 + 1 := by
      unfold needN Wd.bitsL
      rw [if_neg (by omega), if_neg (by omega)]
    obtain ⟨x, hx⟩ : ∃ x, (n - 1).toNat = x := ⟨_, rfl⟩
    rw [hx] at e
    have h3 := Nat.log2_self_le (n := x) (by omega)
    have h4 := Nat.lt_log2_self (n := x)
    rw [e]
    refine ⟨?_, by omega⟩
    rcases Nat.lt_or_ge x.log2 63 with h5 | h5
    · omega
    · have h6 : 9223372036854775808 ≤ 2 ^ x.log2 := Nat.le_trans (by decide) (Nat.pow_le_pow_right (n := 2) (by omega) h5)
      omega
def eaS (P r m : Nat) : Nat → Nat
  | 0 => 0
  | j + 1 => eaS P r m j + r ^ j * P ^ (m - 1 - j)
theorem ea_sum {P r n m : Nat} (h : n + r = P) : ∀ j, j ≤ m → n * eaS P r m j + r ^ j * P ^ (m - j) = P ^ m
  | 0, _ => by rw [eaS, Nat.mul_zero, Nat.zero_add, Nat.pow_zero, Nat.one_mul, Nat.sub_zero]
  | j + 1, hj => by
    have ih := ea_sum (m := m) h j (by omega)
    have e : P ^ (m - j) = P ^ (m - 1 - j) * P := by rw [show m - j = (m - 1 - j) + 1 by omega, Nat.pow_succ]
    rw [e] at ih
    rw [eaS, show m - (j + 1) = m - 1 - j by omega, ← ih, Nat.pow_succ, ← h]
    obtain ⟨x, hx⟩ : ∃ x, r ^ j = x := ⟨_, rfl⟩
    obtain ⟨y, hy⟩ : ∃ y, (n + r) ^ (m - 1 - j) = y := ⟨_, rfl⟩
    obtain ⟨z, hz⟩ : ∃ z, eaS (n + r) r m j = z := ⟨_, rfl⟩
    rw [hx, hy, hz, Nat.mul_add, Nat.mul_add, Nat.mul_add, Nat.add_assoc]
    congr 1
    congr 1
    · rw [Nat.mul_comm n, Nat.mul_assoc]
    · rw [Nat.mul_assoc, Nat.mul_comm r y]
def oddP (n : Int) : Nat := 2 ^ needN n
def oddR (n : Int) : Nat := oddP n - n.toNat
def allV (n m : Int) : Nat := 2 ^ (needN n * m.toNat)
def lostV (n m : Int) : Nat := oddR n ^ m.toNat
def eachV (n m : Int) : Nat := eaS (oddP n) (oddR n) m.toNat m.toNat
theorem odd_add {n : Int} (h : 1 ≤ n) (h2 : n < 9223372036854775808) : n.toNat + oddR n = oddP n := by
  have := (need_in h h2).2
  unfold oddR oddP
  omega
theorem odd_pow (n m : Int) : oddP n ^ m.toNat = allV n m := (Nat.pow_mul 2 _ _).symm
theorem odd_sum {n m : Int} (h : mayB n m = true) : n.toNat * eachV n m + lostV n m = allV n m := by
  obtain ⟨h1, h2, h3, h4⟩ := mayB_iff.1 h
  have := ea_sum (m := m.toNat) (odd_add h1 h2) m.toNat (Nat.le_refl _)
  rw [Nat.sub_self, Nat.pow_zero, Nat.mul_one, odd_pow] at this
  exact this
theorem pow2_ltO {e k : Nat} (h : e < 32 * k) : 2 ^ e < 4294967296 ^ k := by
  rw [show (4294967296 : Nat) = 2 ^ 32 from rfl, ← Nat.pow_mul]
  exact Nat.pow_lt_pow_right (by omega) h
theorem exp_in {k m : Nat} (hk : k ≤ 63) (hm : m ≤ 64) : k * m ≤ 4032 := Nat.mul_le_mul hk hm
theorem allV_lt {n m : Int} (h : mayB n m = true) : allV n m < 4294967296 ^ 127 := by
  obtain ⟨h1, h2, h3, h4⟩ := mayB_iff.1 h
  have := exp_in (need_in h1 h2).1 (show m.toNat ≤ 64 by omega)
  exact pow2_ltO (by omega)
theorem odd_len {n m : Int} (h : mayB n m = true) {x : Nat} (hx : x ≤ allV n m) : (natL x).length ≤ 127 := (natL_len x 127).2 (Nat.lt_of_le_of_lt hx (allV_lt h))
theorem lostV_le {n m : Int} (h : mayB n m = true) : lostV n m ≤ allV n m := by have := odd_sum h; omega
theorem part_le {n m : Int} (h : mayB n m = true) {p : Nat} (hp : p ≤ n.toNat) : p * eachV n m ≤ allV n m := by
  have h1 := odd_sum h
  have h2 : p * eachV n m ≤ n.toNat * eachV n m := Nat.mul_le_mul_right _ hp
  omega
theorem eachV_le {n m : Int} (h : mayB n m = true) : eachV n m ≤ allV n m := by
  have := part_le h (p := 1) (by have := (mayB_iff.1 h).1; omega)
  omega
def bitR (n m : Int) : Int × Int := if mayB n m = true then ((needN n : Int) * m, 0) else (0, 1)
def allR (n m : Int) : Int × List Int := if mayB n m = true then (0, natL (allV n m)) else (1, [])
def lostR (n m : Int) : Int × List Int := if mayB n m = true then (0, natL (lostV n m)) else (1, [])
def eachR (n m : Int) : Int × List Int := if mayB n m = true then (0, natL (eachV n m)) else (1, [])
def shareR (p n m : Int) : Int × List Int := if mayB n m = true ∧ p ≤ n then (0, natL (p.toNat * eachV n m)) else (1, [])
def leadR' (i m : Int) (l : List Int) : Int × List Int :=
  if 1 ≤ m ∧ m ≤ 64 then (if sumL l < 9223372036854775808 then (if sumL l = 0 then (10, []) else if 0 ≤ i ∧ i < l.length then shareR (l.getD i.toNat 0) (sumL l) m else (3, [])) else (11, [])) else (1, [])
def pickR' (i m : Int) (l : List Int) : Int × List Int :=
  if 1 ≤ m ∧ m ≤ 64 then (if sumL l < 9223372036854775808 then (if sumL l = 0 then (10, []) else if (l.length : Int) * sumL l < 9223372036854775808 then (if 0 ≤ i ∧ i < l.length then shareR ((l.length : Int) * l.getD i.toNat 0) ((l.length : Int) * sumL l) m else (3, [])) else (11, [])) else (11, [])) else (1, [])
theorem shareR_ok {p n m : Int} (h : mayB n m = true) (hp : p ≤ n) : shareR p n m = (0, natL (p.toNat * eachV n m)) := if_pos ⟨h, hp⟩
theorem shareR_len (p n m : Int) : (shareR p n m).2.length ≤ 127 := by
  unfold shareR
  split
  · rename_i h
    exact odd_len h.1 (part_le h.1 (by have := (mayB_iff.1 h.1).1; omega))
  · show 0 ≤ 127; omega
theorem leadR'_len (i m : Int) (l : List Int) : (leadR' i m l).2.length ≤ 127 := by
  unfold leadR'
  repeat' split
  all_goals first | exact shareR_len _ _ _ | (show 0 ≤ 127; omega)
theorem sumL_at {l : List Int} (hz : ∀ z ∈ l, 0 ≤ z) {k : Nat} (hk : k < l.length) : l.getD k 0 ≤ sumL l := by
  have h1 := sumL_take hk
  have h2 := sumL_le hz (k + 1)
  have h3 : 0 ≤ sumL (l.take k) := sumL_nn fun z h => hz z (List.mem_of_mem_take h)
  omega
theorem powR_any {x k : Nat} (hx : (natL x).length ≤ 256) (hk : k ≤ 64) (k1 : 1 ≤ k) (h : (natL (x ^ k)).length ≤ 256) : powR (natL x) (k : Int) = (0, natL (x ^ k)) := by
  rcases Nat.eq_zero_or_pos x with h0 | h0
  · subst h0
    rw [Nat.zero_pow (by omega), natL_zero]
    unfold powR
    rw [if_pos ⟨rfl, by omega, by omega⟩, Int.toNat_natCast]
    unfold mulR
    have ha : allN (List.replicate k (rowOf [])) = true := List.all_eq_true.2 fun r hr' => by rw [List.eq_of_mem_replicate hr']; rfl
    rw [if_pos ha]
    have hz : ∀ k s, 1 ≤ k → mulGo s (List.replicate k (rowOf [])) = (0, []) := fun k => by
      induction k with
      | zero => intro s h; omega
      | succ k ih =>
        intro s _
        rw [List.replicate_succ, mulGo]
        rw [show valL (rowOf []).zs = 0 from rfl, Nat.mul_zero, natL_zero]
        rw [if_neg (by show ¬ 256 < 0; omega)]
        rcases Nat.eq_zero_or_pos k with h1 | h1
        · subst h1; rw [List.replicate_zero, mulGo, natL_zero]
        · exact ih 0 h1
    exact hz k 1 k1
  · have h1 := powR_ok (zs := natL x) (k := k) (rightN_natL hx) hk (by rw [natL_val]; exact h0) (by rw [natL_val]; exact h)
    rw [natL_val] at h1
    exact h1
end
section
open Go.ChangeShapes Go.WideShapes Go.ChangeAt Go.RowKit

end
section
open Go.ChangeShapes Go.WideShapes Go.ChangeAt Go.RowKit
theorem q10right_c (zs : List Int) (A : Option Addr) (n c : Nat) (hn : n ≤ maxLen) (w : World) (hrd : Rd .u32 w w.heap.size A n zs) : Calls Tryz.prog 84 #[.slice A n c] w fun e w' => e = .returned (.bool (rightN zs)) ∧ w = w' := by
  have hlen := hrd.len
  have hnm : (n : Int) ≤ 9223372036854775807 := by unfold maxLen at hn; omega
  by_cases hb : 256 < n
  · have HV := Lib.hid (rightN_big (l := zs) (by omega))
    have h1 : (256 : Int) < (n : Int) := by omega
    clear hrd hn
    go_enter Tryz.func84, Tryz.ntmps84
    go_wp2
    go_ret
    exact ⟨ret_boolN HV.out.symm, rfl⟩
  · have h1 : (n : Int) ≤ 256 := by omega
    rcases n with _ | m
    · obtain rfl := List.eq_nil_of_length_eq_zero hlen
      have HV := Lib.hid (show rightN [] = true from rfl)
      clear hrd hn hb
      go_enter Tryz.func84, Tryz.ntmps84
      go_wp2
      go_ret
      exact ⟨ret_boolN HV.out.symm, rfl⟩
    · obtain ⟨b, off, rfl, _, hc⟩ := hrd.at_ (by omega)
      have hcm := hc m (by omega)
      have hv := rightN_at (l := zs) (m := m) hlen (by omega)
      obtain ⟨z, hz⟩ : ∃ z, zs.getD m 0 = z := ⟨_, rfl⟩
      rw [hz] at hcm hv
      have HV := Lib.hid hv
      have m0 : ((m + 1 : Nat) : Int) = (m : Int) + 1 := by omega
      have m1 : ((m : Int) + 1 == 0) = false := by rw [beq_eq_false_iff_ne]; omega
      have m2 : (m : Int) ≤ 255 := by omega
      have m3 : (m : Int) + 1 - 1 = (m : Int) := by omega
      clear hrd hc hn hb hnm hlen hz hv
      go_enter Tryz.func84, Tryz.ntmps84
      go_wp2
      go_ret
      exact ⟨ret_boolN HV.out.symm, rfl⟩
theorem q10trim_c (zs : List Int) (A : Option Addr) (n c : Nat) (hn : n ≤ maxLen) (hnc : n ≤ c) (w : World) (hrd : Rd .u32 w w.heap.size A n zs) : Calls Tryz.prog 87 #[.slice A n c] w fun e w' => e = .returned (.slice A (trimL zs).length c) ∧ w = w' := by
  have HR := Lib.hid hrd
  have hlen := hrd.len
  have htk : zs.take n = zs := by rw [← hlen, List.take_length]
  have HTZ := Lib.hid (fun k h1 h2 => trimL_zero (l := zs) (k := k) h1 h2)
  have HTS := Lib.hid (fun k h1 h2 => trimL_stop (l := zs) (k := k) h1 h2)
  have hnm : (n : Int) ≤ 9223372036854775807 := by unfold maxLen at hn; omega
  have hnc' : (n : Int) ≤ (c : Int) := by omega
  clear hrd hn
  go_enter Tryz.func87, Tryz.ntmps87
  go_wp2
  go_loop [0] (fun v => ∃ k : Nat, k ≤ n ∧ v = .slice A k c ∧ trimL (zs.take k) = trimL zs) (fun v => match v with | .slice _ k _ => k | _ => 0)
  case atStart => exact ⟨n, Nat.le_refl _, rfl, by rw [htk]⟩
  case round =>
    obtain ⟨k, hk, rfl, htr⟩ := hrel
    have HTR := Lib.hid htr
    clear htr
    rcases k with _ | m
    · have HL : Hid ((trimL zs).length = 0) := Lib.hid (by rw [← HTR.out]; rfl)
      go_wp2
      go_ret
      exact ⟨ret_slice HL.out.symm, rfl⟩
    · obtain ⟨b, off, rfl, _, hc⟩ := HR.out.at_ (by omega)
      have hcm := hc m (by omega)
      have m0 : ((m + 1 : Nat) : Int) = (m : Int) + 1 := by omega
      have m3 : (m : Int) + 1 - 1 = (m : Int) := by omega
      have m2 : (m : Int) + 1 ≤ (n : Int) := by omega
      have m4 : (m : Int) ≤ (c : Int) := by omega
      by_cases hz : zs.getD m 0 = 0
      · rw [hz] at hcm
        have HN := Lib.hid ((HTZ.out m (by omega) hz).trans HTR.out)
        clear hc hz
        go_wp2
        go_round
        case rel => exact ⟨m, by omega, rfl, HN.out⟩
        case measure => simp
      · have hl := HTS.out m (by omega) hz
        rw [HTR.out] at hl
        have HL := Lib.hid hl
        obtain ⟨z, hzz⟩ : ∃ z, zs.getD m 0 = z := ⟨_, rfl⟩
        rw [hzz] at hcm hz
        have tz : (z == 0) = false := by rw [beq_eq_false_iff_ne]; exact hz
        clear hc hl hzz
        go_wp2
        go_ret
        exact ⟨ret_slice HL.out.symm, rfl⟩
theorem q10of_c (n : Int) (n0 : 0 ≤ n) (n1 : n < 18446744073709551616) (w : World) : Calls Tryz.prog 55 #[.int .u64 n] w (RetN w (natL n.toNat)) := by
  have hl : trimL [n % 4294967296, n / 4294967296] = natL n.toNat := by
    rw [trimL_eq (Lim.cons ⟨by omega, by omega⟩ (Lim.cons ⟨by omega, by omega⟩ Lim.nil))]
    congr 1
    show (n % 4294967296).toNat + 4294967296 * ((n / 4294967296).toNat + 4294967296 * 0) = n.toNat
    omega
  have e1 : IntKind.u32.wrap (n % 4294967296) = n % 4294967296 := by rw [IntKind.wrap_u32]; omega
  have e2 : IntKind.u32.wrap (n / 4294967296) = n / 4294967296 := by rw [IntKind.wrap_u32]; omega
  have ht : ∀ (A : Option Addr) W, Rd .u32 W W.heap.size A 2 [n % 4294967296, n / 4294967296] → Calls Tryz.prog 87 #[.slice A 2 2] W fun e w' => e = .returned (.slice A (trimL [n % 4294967296, n / 4294967296]).length 2) ∧ W = w' := fun A W h => q10trim_c _ A 2 2 (by simp [maxLen]) (Nat.le_refl _) W h
  have hrt := fun A W (h : Rd .u32 W W.heap.size A 2 [n % 4294967296, n / 4294967296]) => rd_trim h
  rw [hl] at ht hrt
  have hlt := trimL_len [n % 4294967296, n / 4294967296]
  rw [hl] at hlt
  have HLT := Lib.hid hlt
  obtain ⟨p, hp⟩ : ∃ p, n % 4294967296 = p := ⟨_, rfl⟩
  obtain ⟨q, hq⟩ : ∃ p, n / 4294967296 = p := ⟨_, rfl⟩
  obtain ⟨R, hR⟩ : ∃ p, natL n.toNat = p := ⟨_, rfl⟩
  rw [hp] at e1
  rw [hq] at e2
  rw [hp, hq, hR] at ht hrt
  rw [hR] at HLT ⊢
  have HT := Lib.hid ht
  have HRT := Lib.hid hrt
  have HRD := Lib.hid (rd_two32 w 89 p q)
  have HBL := Lib.hid ((Below.refl w.heap.size w).alloc (Nat.le_refl _) (.cells #[.int .u32 p, .int .u32 q] 89))
  clear ht hrt hl hlt hR
  go_enter Tryz.func55, Tryz.ntmps55
  go_wp2_with (first
    | (go_at_call 87; (with_reducible refine (HT.out _ _ HRD.out).mono ?_); rintro e _ ⟨rfl, rfl⟩))
  go_ret
  exact ⟨_, _, rfl, HLT.out, by simp [maxLen], HRT.out _ _ HRD.out, HBL.out⟩
end
section
open Go.ChangeShapes Go.WideShapes Go.ChangeAt Go.RowKit
theorem getD_rep0 (n t : Nat) : (List.replicate n (0 : Int)).getD t 0 = 0 := by
  rw [List.getD_eq_getElem?_getD, List.getElem?_replicate]
  split <;> rfl
theorem set_past {l : List Int} {i : Nat} (p : Int) (h : ∀ t, i ≤ t → l.getD t 0 = 0) : ∀ t, i + 1 ≤ t → (l.set i p).getD t 0 = 0 := fun t ht => by
  rw [List.getD_eq_getElem?_getD, List.getElem?_set_ne (by omega), ← List.getD_eq_getElem?_getD]
  exact h t (by omega)
end
section
open Go.ChangeShapes Go.WideShapes Go.ChangeAt Go.RowKit
set_option maxHeartbeats 8000000 in
theorem q10times_c (xs ys : List Int) (hx : Lim xs) (hy : Lim ys) (A B : Option Addr) (n m c d : Nat) (hn : n ≤ 100000) (hm : m ≤ 100000) (w : World) (hra : Rd .u32 w w.heap.size A n xs) (hrb : Rd .u32 w w.heap.size B m ys) : Calls Tryz.prog 107 #[.slice A n c, .slice B m d] w (RetN w (natL (valL xs * valL ys))) := by
  have hlx := hra.len
  have hly := hrb.len
  have HRA := Lib.hid hra
  have HRB := Lib.hid hrb
  obtain ⟨i0, hi0, hz0, hz1, hzb⟩ := info_parts info_u32d
  have HXG := Lib.hid (fun i => hx.getD i)
  have HYG := Lib.hid (fun i => hy.getD i)
  have HYD := Lib.hid (fun i => valL_drop_getD ys i)
  have HXT := Lib.hid (fun i (h : i < n) => valL_take_succ xs i (by omega))
  have HDY := Lib.hid (show valL (ys.drop m) = 0 by rw [List.drop_eq_nil_of_le (by omega)]; rfl)
  have hyl := valL_lt hy
  have hxl := fun i => valL_lt (hx.take i)
  rw [hly] at hyl
  have HYL := Lib.hid hyl
  have HXL := Lib.hid hxl
  obtain ⟨L, hL⟩ : ∃ L, n + m = L := ⟨_, rfl⟩
  have hLI : (n : Int) + (m : Int) = (L : Int) := by omega
  have hL2 : (L : Int) ≤ 200000 := by omega
  have hmk : ∀ W, (Instr.makeSlice 45 (.int .i64 (L : Int)) (.int .i64 (L : Int))).run Tryz.prog W = .ok (.slice (some ⟨W.heap.size, 0, none⟩) L L) (W.alloc (.cells (intsA .u32 (List.replicate L 0)) 89)) := fun W => run_make_ints (P := Tryz.prog) 45 89 i0 .u32 Tryz.underlying45 hi0 hz0 hz1 .i64 .i64 L (by rw [hzb]; omega) (by omega) W
  have HS0 : Hid (NatS w w.heap.size (List.replicate L 0) (w.alloc (.cells (intsA .u32 (List.replicate L 0)) 89))) := Lib.hid ⟨Blk.new _ _ _, Nat.le_refl _, (Below.refl _ _).alloc (Nat.le_refl _) _⟩
  have hst : valL (List.replicate L 0) = valL (xs.take 0) * valL ys := by rw [valL_rep, List.take_zero]; show 0 = 0 * _; omega
  have HST := Lib.hid hst
  have htk : xs.take n = xs := by rw [← hlx, List.take_length]
  have HTK := Lib.hid htk
  obtain ⟨Y, hY⟩ : ∃ Y, valL ys = Y := ⟨_, rfl⟩
  rw [hY] at HYL HST ⊢
  have hY0 : valL (ys.drop 0) = Y := by rw [List.drop_zero]; exact hY
  have HY0 := Lib.hid hY0
  have nI : (n : Int) ≤ 100000 := by omega
  have mI : (m : Int) ≤ 100000 := by omega
  have HNM : Hid (n + m = L) := Lib.hid hL
  clear hra hrb hx hy hst hly hyl hxl hY hY0 hlx hi0 hz0 hz1 hzb htk
  go_enter Tryz.func107, Tryz.ntmps107
  go_wp2
  clear hmk hLI
  obtain ⟨g, hg⟩ : ∃ g, w.heap.size = g := ⟨_, rfl⟩
  have HS1 : Hid (NatS w g (List.replicate L 0) (w.alloc (.cells (intsA .u32 (List.replicate L 0)) 89))) := by rw [← hg]; exact HS0
  rw [hg]
  clear hg HS0
  obtain ⟨w1, hw1⟩ : ∃ w1, w.alloc (.cells (intsA .u32 (List.replicate L 0)) 89) = w1 := ⟨_, rfl⟩
  rw [hw1] at HS1
  rw [hw1]
  clear hw1
  go_loopw [20] (fun ii wr => ∃ (i : Nat) (out : List Int), i ≤ n ∧ ii = .int .i64 (i : Int) ∧ out.length = L ∧ Lim out ∧ valL out = valL (xs.take i) * Y ∧ NatS w g out wr) (fun ii _ => n - (intOf ii).toNat)
  case atStart => exact ⟨0, _, by omega, rfl, List.length_replicate, Lim.rep _, HST.out, HS1.out⟩
  case round =>
    clear HST HS1
    obtain ⟨i, out0, hi, rfl, hol, hlo, hval, hns⟩ := hrel
    by_cases hin : i < n
    · have HNS := Lib.hid hns
      have hxi := HXG.out i
      have hxt := HXT.out i hin
      obtain ⟨b, off, rfl, hblt, hxc⟩ := (HRA.out.below hns.bel).at_ (by omega)
      have hxci := hxc i hin
      obtain ⟨x, hxx⟩ : ∃ x, xs.getD i 0 = x := ⟨_, rfl⟩
      rw [hxx] at hxi hxci hxt
      have hzt : out0.getD (i + m) 0 = 0 := limb_zero hlo (by
        rw [hval, Nat.pow_add]
        have h1 := HXL.out i
        have h2 := HYL.out
        have h3 : (xs.take i).length = i := by rw [List.length_take, HRA.out.len]; omega
        rw [h3] at h1
        exact Nat.mul_lt_mul'' h1 h2)
      obtain ⟨V, hV⟩ : ∃ V, valL out0 + 4294967296 ^ i * (0 + x.toNat * Y) = V := ⟨_, rfl⟩
      have HST : Hid (valL out0 + 4294967296 ^ (i + 0) * (0 + x.toNat * valL (ys.drop 0)) = V) := Lib.hid (by rw [HY0.out, Nat.add_zero]; exact hV)
      have HVV : Hid (V = valL (xs.take (i + 1)) * Y) := Lib.hid (by
        rw [← hV, hval, hxt, Nat.zero_add, Nat.add_mul, Nat.mul_assoc])
      have HZT := Lib.hid hzt
      have HOL := Lib.hid hol
      have HLO := Lib.hid hlo
      have hiI : (i : Int) < (n : Int) := by omega
      have HI1 : Hid (i + 1 ≤ n) := Lib.hid (by omega)
      obtain ⟨x0, x1⟩ := hxi
      have HXB : Hid (x.toNat < 4294967296) := Lib.hid (by omega)
      have HXN := Lib.hid (Int.toNat_of_nonneg x0)
      have hxw : IntKind.u64.wrap x = x := by rw [IntKind.wrap_u64]; omega
      clear hns hol hlo hval hxt hxc hxx hzt hV hblt hi
      go_wp2
      obtain ⟨wo, hwo⟩ : ∃ wo : World, wo = wr := ⟨_, rfl⟩
      rw [← hwo] at HNS
      rw [← hwo]
      clear hwo hxci wr
      go_loopw [8, 27] (fun cc kk wr => ∃ (k r : Nat) (out : List Int), k ≤ m ∧ r < 4294967296 ∧ cc = .int .u64 (r : Int) ∧ kk = .int .i64 (k : Int) ∧ out.length = L ∧ Lim out ∧ valL out + 4294967296 ^ (i + k) * (r + x.toNat * valL (ys.drop k)) = V ∧ out.getD (i + m) 0 = 0 ∧ NatS w g out wr) (fun _ kk _ => m - (intOf kk).toNat)
      case atStart => exact ⟨0, 0, out0, by omega, by omega, rfl, rfl, HOL.out, HLO.out, HST.out, HZT.out, HNS.out⟩
      case round =>
        clear HST HNS HOL HLO HZT
        obtain ⟨k, r, out, hk, hr1, rfl, rfl, hol, hlo, hval, hzt, hns⟩ := hrel
        by_cases hkm : k < m
        · have hyi := HYG.out k
          obtain ⟨b2, off2, rfl, _, hyc⟩ := (HRB.out.below hns.bel).at_ (by omega)
          have hyci := hyc k hkm
          rw [HYD.out k] at hval
          obtain ⟨y, hyy⟩ : ∃ x, ys.getD k 0 = x := ⟨_, rfl⟩
          rw [hyy] at hyi hyci hval
          obtain ⟨j, hj⟩ : ∃ j, i + k = j := ⟨_, rfl⟩
          have hjL : j < L := by have := HI1.out; have := HNM.out; omega
          have hoi := hlo.getD j
          obtain ⟨o, hoo⟩ : ∃ o, out.getD j 0 = o := ⟨_, rfl⟩
          have hoc := hns.at_ (j := j) (by omega)
          rw [hoo] at hoi hoc
          have hxb := mul_bound HXB.out (show y.toNat < 4294967296 by omega)
          obtain ⟨t, ht⟩ : ∃ t, x.toNat * y.toNat = t := ⟨_, rfl⟩
          have htI : x * y = (t : Int) := by
            rw [← ht, Int.natCast_mul, HXN.out, Int.toNat_of_nonneg hyi.1]
          rw [ht] at hxb
          obtain ⟨s, hs⟩ : ∃ s : Nat, s = o.toNat + t + r := ⟨_, rfl⟩
          have hsb : s < 18446744073709551616 := by omega
          obtain ⟨p, hp⟩ : ∃ p, s % 4294967296 = p := ⟨_, rfl⟩
          obtain ⟨q, hq⟩ : ∃ p, s / 4294967296 = p := ⟨_, rfl⟩
          have hpq : p + 4294967296 * q = s := by omega
          have hset := valL_set out j (p : Int) (by omega)
          rw [hoo, Int.toNat_natCast] at hset
          rw [hj] at hval
          have hnew := mul_step (4294967296 ^ j) p q r o.toNat x.toNat y.toNat (valL (ys.drop (k + 1))) (valL out) (valL (out.set j (p : Int))) V (by rw [ht]; omega) hset hval
          have HV2 : Hid (valL (out.set j (p : Int)) + 4294967296 ^ (i + (k + 1)) * (q + x.toNat * valL (ys.drop (k + 1))) = V) := Lib.hid (by rw [← Nat.add_assoc, hj, Nat.pow_succ]; exact hnew)
          have HLM2 := Lib.hid (hlo.set j (x := (p : Int)) ⟨by omega, by omega⟩)
          have HL2 : Hid ((out.set j (p : Int)).length = L) := Lib.hid (by rw [List.length_set]; exact hol)
          have HK2 : Hid (k + 1 ≤ m) := Lib.hid (by omega)
          have HQ1 : Hid (q < 4294967296) := Lib.hid (by omega)
          have HZ2 : Hid ((out.set j (p : Int)).getD (i + m) 0 = 0) := Lib.hid (by
            rw [List.getD_eq_getElem?_getD] at hzt ⊢
            rw [List.getElem?_set_ne (by omega)]
            exact hzt)
          have f0 : (i : Int) + (k : Int) = (j : Int) := by omega
          have f1 : IntKind.i64.wrap (j : Int) = (j : Int) := by rw [IntKind.wrap_i64]; omega
          have f2 : (j : Int) < (L : Int) := by omega
          have f3 : IntKind.u64.wrap o = o := by rw [IntKind.wrap_u64]; omega
          have f4 : IntKind.u64.wrap y = y := by rw [IntKind.wrap_u64]; omega
          have f5 : IntKind.u64.wrap (t : Int) = (t : Int) := by rw [IntKind.wrap_u64]; omega
          obtain ⟨u, hu⟩ : ∃ u : Int, (t : Int) + o = u := ⟨_, rfl⟩
          have f6 : IntKind.u64.wrap u = u := by rw [IntKind.wrap_u64]; omega
          have f7 : u + (r : Int) = (s : Int) := by omega
          have f8 : IntKind.u64.wrap (s : Int) = (s : Int) := by rw [IntKind.wrap_u64]; omega
          have f9 : IntKind.u32.wrap (s : Int) = (p : Int) := by rw [IntKind.wrap_u32]; omega
          have f10 : (s : Int) / 4294967296 = (q : Int) := by omega
          have f11 : IntKind.u64.wrap (q : Int) = (q : Int) := by rw [IntKind.wrap_u64]; omega
          have k1 : (k : Int) < (m : Int) := by omega
          have HJS := Lib.hid (nat_lt (out := out) (j := j) (by omega))
          have HNS := Lib.hid hns
          obtain ⟨y0, y1⟩ := hyi
          clear hns hol hlo hval hzt hyc hyy hj hjL hoi hoo hxb ht hs hsb hp hq hpq hset hnew hk hkm hr1
          go_wp2_with (first
            | (with_reducible refine at_any ?_; refine at_store 55 rfl ?_; refine wpList_store_cell rfl 89 (.tmp 55) (.tmp 52) rfl g j rfl 89 (intsA .u32 out) (NatS.blk HNS.out) (.int .u32 (p : Int)) rfl HJS.out size_u32s rfl rfl ?_; intro w90 hk90 ho90; have HF9 := Lib.hid (NatS.set HNS.out hk90.out ho90); clear hk90 ho90))
          go_roundw
          case rel => exact ⟨k + 1, q, _, HK2.out, HQ1.out, rfl, by go_num, HL2.out, HLM2.out, HV2.out, HZ2.out, HF9.out⟩
          case measure => have := HK2.out; simp [intOf]; omega
        · obtain rfl : k = m := by omega
          obtain ⟨j, hj⟩ : ∃ j, i + k = j := ⟨_, rfl⟩
          rw [hj, HDY.out, Nat.mul_zero, Nat.add_zero] at hval
          rw [hj] at hzt
          have hjL : j < L := by have := HI1.out; have := HNM.out; omega
          have hset := valL_set out j (r : Int) (by omega)
          rw [hzt, Int.toNat_natCast] at hset
          have hfin : valL (out.set j (r : Int)) = V := by
            have h0 : 4294967296 ^ j * (0 : Int).toNat = 0 := Nat.mul_zero _
            rw [h0] at hset
            omega
          have HVT := Lib.hid (hfin.trans HVV.out)
          have HLM2 := Lib.hid (hlo.set j (x := (r : Int)) ⟨by omega, by omega⟩)
          have HL2 : Hid ((out.set j (r : Int)).length = L) := Lib.hid (by rw [List.length_set]; exact hol)
          have f0 : (i : Int) + (k : Int) = (j : Int) := by omega
          have f1 : IntKind.i64.wrap (j : Int) = (j : Int) := by rw [IntKind.wrap_i64]; omega
          have f2 : (j : Int) < (L : Int) := by omega
          have f3 : IntKind.u32.wrap (r : Int) = (r : Int) := by rw [IntKind.wrap_u32]; omega
          have HJS := Lib.hid (nat_lt (out := out) (j := j) (by omega))
          have HNS := Lib.hid hns
          clear hk hr1 hol hlo hval hzt hns hkm hset hfin hj hjL
          go_wp2_with (first
            | (with_reducible refine at_any ?_; refine at_store 64 rfl ?_; refine wpList_store_cell rfl 89 (.tmp 64) (.tmp 63) rfl g j rfl 89 (intsA .u32 out) (NatS.blk HNS.out) (.int .u32 (r : Int)) rfl HJS.out size_u32s rfl rfl ?_; intro w90 hk90 ho90; have HF9 := Lib.hid (NatS.set HNS.out hk90.out ho90); clear hk90 ho90))
          go_roundw
          case rel => exact ⟨i + 1, _, HI1.out, by go_num, HL2.out, HLM2.out, HVT.out, HF9.out⟩
          case measure => have := HI1.out; simp [intOf]; omega
    · obtain rfl : i = n := by omega
      rw [HTK.out] at hval
      have hrd7 := hns.rd
      have htr := q10trim_c out0 (some ⟨g, 0, none⟩) out0.length L (by unfold maxLen; omega) (by omega) wr hrd7
      have hrt := rd_trim hrd7
      have htl := trimL_len out0
      rw [trimL_eq hlo, hval] at htr hrt htl
      rw [hol] at htr htl
      have HTR := Lib.hid htr
      have HRT := Lib.hid hrt
      have HTL := Lib.hid htl
      have HBL := Lib.hid hns.bel
      have HML : Hid (L ≤ maxLen) := Lib.hid (by unfold maxLen; omega)
      clear htr hrt htl hrd7 hval hlo hol hns
      go_wp2_with (first
        | (go_at_call 87; (with_reducible refine HTR.out.mono ?_); rintro e _ ⟨rfl, rfl⟩))
      go_ret
      exact ⟨_, _, rfl, HTL.out, HML.out, HRT.out, HBL.out⟩
end
section
open Go.ChangeShapes Go.WideShapes Go.ChangeAt Go.RowKit
set_option maxHeartbeats 4000000 in
theorem q10foldT_c (s0 : Nat) (hs0 : (natL s0).length ≤ 256) (A0 : Option Addr) (c0 : Nat) (hc0 : (natL s0).length ≤ c0) (hm0 : c0 ≤ maxLen) (rs : List NRow) (A : Option Addr) (n c : Nat) (hn : n ≤ 100000) (w : World) (hr0 : Rd .u32 w w.heap.size A0 (natL s0).length (natL s0)) (hrd : RdNs w w.heap.size A n rs) : Calls Tryz.prog 106 #[.func (.func 107) #[] #[], .slice A0 (natL s0).length c0, .slice A n c] w (RetNE w (if allN rs = true then mulGo s0 rs else (1, []))) := by
  have HR := Lib.hid hrd
  have hnI : (n : Int) ≤ 100000 := by omega
  have HE := Lib.hid (drop_end hrd.1)
  have HR0 := Lib.hid hr0
  have HP0 := Lib.hid (And.intro hs0 (And.intro hc0 hm0))
  obtain ⟨N0, hN0⟩ : ∃ N, (natL s0).length = N := ⟨_, rfl⟩
  have HN0 := Lib.hid hN0
  rw [hN0]
  obtain ⟨R, hR⟩ : ∃ R, (if allN rs = true then mulGo s0 rs else (1, [])) = R := ⟨_, rfl⟩
  have HRES := Lib.hid hR
  rw [hR]
  clear hrd hr0 hs0 hc0 hm0 hN0 hR
  go_enter Tryz.func106, Tryz.ntmps106
  go_wp2
  go_loopw [15] (fun ii wr => ∃ k : Nat, k ≤ n ∧ ii = .int .i64 (k : Int) ∧ allN (rs.drop k) = allN rs ∧ w = wr) (fun ii _ => n - (intOf ii).toNat)
  case atStart => exact ⟨0, by omega, rfl, by rw [List.drop_zero], by first | rfl | trivial⟩
  case round =>
    obtain ⟨k, hk, rfl, hall, rfl⟩ := hrel
    by_cases hlt : k < n
    · obtain ⟨r, b, off, hr, rfl, hcell, hrr, hrc, hrm, hrl, hdr⟩ := HR.out.row hlt
      have hst := allN_step hdr
      rw [hall] at hst
      have hrt := fun W h => q10right_c r.zs r.A r.n r.c (by omega) W h
      have h3 : (k : Int) < (n : Int) := by omega
      obtain ⟨RA, hRA⟩ : ∃ x, r.A = x := ⟨_, rfl⟩
      obtain ⟨Rn, hRn⟩ : ∃ x, r.n = x := ⟨_, rfl⟩
      obtain ⟨Rc, hRc⟩ : ∃ x, r.c = x := ⟨_, rfl⟩
      rw [hRA, hRn, hRc] at hcell
      rw [hRA, hRn] at hrr
      rw [hRA, hRn, hRc] at hrt
      have HRR := Lib.hid hrr
      cases hok : rightN r.zs with
      | true =>
        rw [hok] at hrt hst
        rw [Bool.true_and] at hst
        have HRT := Lib.hid hrt
        have HST := Lib.hid hst.symm
        clear hrt hst hall hr hrr hrc hrm hrl hdr hok hRA hRn hRc
        go_wp2_with (first
          | (go_at_call 84; (with_reducible refine (HRT.out _ HRR.out).mono ?_); rintro e _ ⟨rfl, rfl⟩))
        go_roundw
        case rel => exact ⟨k + 1, by omega, by go_num, HST.out, by first | rfl | trivial⟩
        case measure => simp [intOf]; omega
      | false =>
        rw [hok] at hrt hst
        rw [Bool.false_and] at hst
        have HRT := Lib.hid hrt
        have HST := Lib.hid hst
        clear hrt hst hall hr hrr hrc hrm hrl hdr hok hRA hRn hRc
        go_wp2_with (first
          | (go_at_call 84; (with_reducible refine (HRT.out _ HRR.out).mono ?_); rintro e _ ⟨rfl, rfl⟩))
        go_ret2
        rw [← HRES.out, if_neg (by rw [HST.out]; decide)]
        exact RetNE.nil 1 (Below.refl _ _)
    · obtain rfl : k = n := by omega
      rw [HE.out] at hall
      have hok : allN rs = true := hall.symm
      have HOK := Lib.hid hok
      have HM := Lib.hid (fun r hr => rightN_len (allN_mem hok (r := r) hr))
      clear hall hok
      go_wp2
      go_loopw [10, 26] (fun v ii wr => ∃ (j s : Nat) (A' : Option Addr) (c' : Nat), j ≤ k ∧ ii = .int .i64 (j : Int) ∧ v = .slice A' (natL s).length c' ∧ (natL s).length ≤ 256 ∧ (natL s).length ≤ c' ∧ c' ≤ maxLen ∧ Rd .u32 wr wr.heap.size A' (natL s).length (natL s) ∧ mulGo s (rs.drop j) = mulGo s0 rs ∧ Below w.heap.size w wr) (fun _ ii _ => k - (intOf ii).toNat)
      case atStart => exact ⟨0, s0, A0, c0, by omega, rfl, by rw [HN0.out], HP0.out.1, HP0.out.2.1, HP0.out.2.2, HR0.out, by rw [List.drop_zero], Below.refl _ _⟩
      case round =>
        obtain ⟨j, s, A', c', hj, rfl, rfl, hl, hlc, hcm, hrs, hgo, hbl⟩ := hrel
        by_cases hlt : j < k
        · obtain ⟨r, b, off, hr, hA, hcell, hrr, hrc, hrm, hrl, hdr⟩ := (HR.out.to hbl).row hlt
          have hst := mulGo_step (s := s) hdr
          rw [hgo] at hst
          have hrlen : r.n ≤ 256 := by rw [← hrr.len]; exact HM.out r (List.mem_of_getElem? hr)
          have hsum := fun W h h' => q10times_c (natL s) r.zs (natL_lim s) hrl A' r.A (natL s).length r.n c' r.c (by omega) (by omega) W h h'
          rw [natL_val] at hsum
          have h3 : (j : Int) < (k : Int) := by omega
          obtain ⟨S, hS⟩ : ∃ S, s * valL r.zs = S := ⟨_, rfl⟩
          rw [hS] at hst hsum
          obtain ⟨RA, hRA⟩ : ∃ x, r.A = x := ⟨_, rfl⟩
          obtain ⟨Rn, hRn⟩ : ∃ x, r.n = x := ⟨_, rfl⟩
          obtain ⟨Rc, hRc⟩ : ∃ x, r.c = x := ⟨_, rfl⟩
          rw [hRA, hRn, hRc] at hcell hsum
          rw [hRA, hRn] at hrr
          have HRR := Lib.hid hrr
          have HRS := Lib.hid hrs
          have HBL := Lib.hid hbl
          have HST := Lib.hid hst
          have HSUM := Lib.hid hsum
          have HJ1 : Hid (j + 1 ≤ k) := Lib.hid (by omega)
          subst hA
          clear hst hsum hgo hr hrr hrs hrc hrm hrl hdr hRA hRn hRc hbl hS hl hlc hcm
          by_cases hbig : 256 < (natL S).length
          · have hgr := HST.out
            rw [if_pos hbig] at hgr
            have HG := Lib.hid hgr
            have hb2 : (256 : Int) < ((natL S).length : Int) := by omega
            obtain ⟨Z, hZ⟩ : ∃ Z, natL S = Z := ⟨_, rfl⟩
            rw [hZ] at HSUM hb2
            clear hgr hbig HST
            go_wp2_with (first
              | (go_at_call 107; (with_reducible refine (HSUM.out _ HRS.out HRR.out).mono ?_); rintro e w5 ⟨A5, c5, rfl, hl5, hm5, hr5, hb5⟩; have HB5 := Lib.hid (HBL.out.trans (hb5.mono HBL.out.size)); clear hl5 hm5 hr5 hb5))
            go_ret2
            rw [← HRES.out, if_pos HOK.out, HG.out]
            exact RetNE.nil 11 HB5.out
          · have hgr := HST.out
            rw [if_neg hbig] at hgr
            have HG := Lib.hid hgr.symm
            have HSM : Hid ((natL S).length ≤ 256) := Lib.hid (by omega)
            have hb2 : ((natL S).length : Int) ≤ 256 := by omega
            obtain ⟨Z, hZ⟩ : ∃ Z, natL S = Z := ⟨_, rfl⟩
            have HZ := Lib.hid hZ
            rw [hZ] at HSUM hb2 HSM
            clear hgr hbig HST hZ
            go_wp2_with (first
              | (go_at_call 107; (with_reducible refine (HSUM.out _ HRS.out HRR.out).mono ?_); rintro e w5 ⟨A5, c5, rfl, hl5, hm5, hr5, hb5⟩; have HB5 := Lib.hid (HBL.out.trans (hb5.mono HBL.out.size)); have HL5 := Lib.hid hl5; have HM5 := Lib.hid hm5; have HR5 := Lib.hid hr5; clear hl5 hm5 hr5 hb5))
            go_roundw
            case rel => exact ⟨j + 1, S, A5, c5, HJ1.out, by go_num, by rw [HZ.out], by rw [HZ.out]; exact HSM.out, by rw [HZ.out]; exact HL5.out, HM5.out, by rw [HZ.out]; exact HR5.out, HG.out, HB5.out⟩
            case measure => have := HJ1.out; simp [intOf]; omega
        · obtain rfl : j = k := by omega
          rw [HE.out] at hgo
          have HG := Lib.hid (show (0, natL s) = mulGo s0 rs from hgo)
          have HL := Lib.hid hlc
          have HM5 := Lib.hid hcm
          have HR5 := Lib.hid hrs
          have HB5 := Lib.hid hbl
          obtain ⟨Z, hZ⟩ : ∃ Z, natL s = Z := ⟨_, rfl⟩
          rw [hZ] at HG HL HR5 ⊢
          clear hgo hlc hcm hrs hbl hZ hl
          go_wp2
          go_ret2
          rw [← HRES.out, if_pos HOK.out, ← HG.out]
          exact ⟨_, _, rfl, HL.out, HM5.out, HR5.out, HB5.out⟩
set_option maxHeartbeats 4000000 in
theorem q10mul_c (rs : List NRow) (A : Option Addr) (n c : Nat) (hn : n ≤ 100000) (w : World) (hrd : RdNs w w.heap.size A n rs) : Calls Tryz.prog 85 #[.slice A n c] w (RetNE w (mulR rs)) := by
  have hof := fun W => q10of_c 1 (by omega) (by omega) W
  rw [show (1 : Int).toNat = 1 from rfl] at hof
  have h1 : (natL 1).length = 1 := by rw [natL_one]; rfl
  have HF : Hid (∀ A0 c0 W, (natL 1).length ≤ c0 → c0 ≤ maxLen → Rd .u32 W W.heap.size A0 (natL 1).length (natL 1) → RdNs W W.heap.size A n rs → Calls Tryz.prog 106 #[.func (.func 107) #[] #[], .slice A0 (natL 1).length c0, .slice A n c] W (RetNE W (mulR rs))) := Lib.hid (fun A0 c0 W h2 h3 h4 h5 => q10foldT_c 1 (by rw [h1]; omega) A0 c0 h2 h3 rs A n c hn W h4 h5)
  have HR := Lib.hid hrd
  have HOF := Lib.hid hof
  obtain ⟨⟨er, zr⟩, hR⟩ : ∃ R, mulR rs = R := ⟨_, rfl⟩
  rw [hR] at HF ⊢
  obtain ⟨Z, hZ⟩ : ∃ Z, natL 1 = Z := ⟨_, rfl⟩
  rw [hZ] at HF HOF
  clear hrd hR hof hZ h1
  go_enter Tryz.func85, Tryz.ntmps85
  go_wp2_with (first
    | (go_at_call 55; (with_reducible refine (HOF.out _).mono ?_); rintro e w4 ⟨A4, c4, rfl, hl4, hm4, hr4, hb4⟩; have HB4 := Lib.hid hb4; have HL4 := Lib.hid hl4; have HM4 := Lib.hid hm4; have HR4 := Lib.hid hr4; have HS4 := Lib.hid (HR.out.to hb4); clear hl4 hm4 hr4 hb4)
    | (go_at_call 106; (with_reducible refine (HF.out _ _ _ HL4.out HM4.out HR4.out HS4.out).mono ?_); rintro e w5 ⟨A5, c5, rfl, hl5, hm5, hr5, hb5⟩; have HB5 := Lib.hid (HB4.out.trans (hb5.mono HB4.out.size)); have HL5 := Lib.hid hl5; have HM5 := Lib.hid hm5; have HR5 := Lib.hid hr5; clear hl5 hm5 hr5 hb5))
  go_ret2
  exact ⟨_, _, rfl, HL5.out, HM5.out, HR5.out, HB5.out⟩
end
section
open Go.ChangeShapes Go.WideShapes Go.ChangeAt Go.RowKit
set_option maxHeartbeats 4000000 in
theorem q10less_c (xs ys : List Int) (hx : Lim xs) (hy : Lim ys) (A B : Option Addr) (n m c d : Nat) (hn : n ≤ 100000) (hmn : m ≤ n) (hv : valL ys ≤ valL xs) (w : World) (hra : Rd .u32 w w.heap.size A n xs) (hrb : Rd .u32 w w.heap.size B m ys) : Calls Tryz.prog 136 #[.slice A n c, .slice B m d] w (RetN w (natL (valL xs - valL ys))) := by
  have hla := hra.len
  have hlb := hrb.len
  have HRA := Lib.hid hra
  have HRB := Lib.hid hrb
  obtain ⟨i0, hi0, hz0, hz1, hzb⟩ := info_parts info_u32d
  have HXG := Lib.hid (fun i => hx.getD i)
  have HYG := Lib.hid (fun i => hy.getD i)
  have HXT := Lib.hid (fun i => valL_take_next xs i)
  have HYT := Lib.hid (fun i => valL_take_next ys i)
  have HYE := Lib.hid (fun i (h : m ≤ i) => show ys.getD i 0 = 0 by rw [List.getD_eq_getElem?_getD, List.getElem?_eq_none (by omega)]; rfl)
  have htx : xs.take n = xs := by rw [← hla, List.take_length]
  have hty : ys.take n = ys := List.take_of_length_le (by omega)
  have HTX := Lib.hid htx
  have HTY := Lib.hid hty
  have HV := Lib.hid hv
  have hmk : ∀ W, (Instr.makeSlice 45 (.int .i64 (n : Int)) (.int .i64 (n : Int))).run Tryz.prog W = .ok (.slice (some ⟨W.heap.size, 0, none⟩) n n) (W.alloc (.cells (intsA .u32 (List.replicate n 0)) 89)) := fun W => run_make_ints (P := Tryz.prog) 45 89 i0 .u32 Tryz.underlying45 hi0 hz0 hz1 .i64 .i64 n (by rw [hzb]; omega) (by omega) W
  have HS0 : Hid (NatS w w.heap.size (List.replicate n 0) (w.alloc (.cells (intsA .u32 (List.replicate n 0)) 89))) := Lib.hid ⟨Blk.new _ _ _, Nat.le_refl _, (Below.refl _ _).alloc (Nat.le_refl _) _⟩
  have HST : Hid (valL (List.replicate n 0) + valL (ys.take 0) = valL (xs.take 0) + 4294967296 ^ 0 * 0) := Lib.hid (by rw [valL_rep]; rfl)
  have nI : (n : Int) ≤ 100000 := by omega
  have mI : (m : Int) ≤ (n : Int) := by omega
  clear hra hrb hx hy hi0 hz0 hz1 hzb htx hty hv hla hlb
  go_enter Tryz.func136, Tryz.ntmps136
  go_wp2
  clear hmk
  obtain ⟨g, hg⟩ : ∃ g, w.heap.size = g := ⟨_, rfl⟩
  have HS1 : Hid (NatS w g (List.replicate n 0) (w.alloc (.cells (intsA .u32 (List.replicate n 0)) 89))) := by rw [← hg]; exact HS0
  rw [hg]
  clear hg HS0
  obtain ⟨w1, hw1⟩ : ∃ w1, w.alloc (.cells (intsA .u32 (List.replicate n 0)) 89) = w1 := ⟨_, rfl⟩
  rw [hw1] at HS1
  rw [hw1]
  clear hw1
  go_loopw [6, 15] (fun cc ii wr => ∃ (i bo : Nat) (out : List Int), i ≤ n ∧ bo ≤ 1 ∧ cc = .int .u64 (bo : Int) ∧ ii = .int .i64 (i : Int) ∧ out.length = n ∧ Lim out ∧ (∀ t, i ≤ t → out.getD t 0 = 0) ∧ valL out + valL (ys.take i) = valL (xs.take i) + 4294967296 ^ i * bo ∧ NatS w g out wr) (fun _ ii _ => n - (intOf ii).toNat)
  case atStart => exact ⟨0, 0, _, by omega, by omega, rfl, rfl, List.length_replicate, Lim.rep _, fun t _ => getD_rep0 _ t, HST.out, HS1.out⟩
  case round =>
    clear HST HS1
    obtain ⟨i, bo, out, hi, hbo, rfl, rfl, hol, hlo, hzr, hval, hns⟩ := hrel
    have HNS := Lib.hid hns
    by_cases hin : i < n
    · obtain ⟨b1, o1, rfl, _, hc1⟩ := (HRA.out.below hns.bel).at_ (by omega)
      have hk1 := hc1 i hin
      have hxi := HXG.out i
      have hyi := HYG.out i
      have hxt := HXT.out i
      have hyt := HYT.out i
      have hye := HYE.out i
      obtain ⟨x, hxx⟩ : ∃ x, xs.getD i 0 = x := ⟨_, rfl⟩
      obtain ⟨y, hyy⟩ : ∃ x, ys.getD i 0 = x := ⟨_, rfl⟩
      rw [hxx] at hxi hxt hk1
      rw [hyy] at hyi hyt hye
      obtain ⟨x0, x1⟩ := hxi
      obtain ⟨u, hu⟩ : ∃ u : Int, y + (bo : Int) = u := ⟨_, rfl⟩
      have hgen : ∀ (dg : Int) (bn : Nat), 0 ≤ dg → dg < 4294967296 → bn ≤ 1 → dg + u = x + 4294967296 * (bn : Int) → Hid ((out.set i dg).length = n ∧ Lim (out.set i dg) ∧ (∀ t, i + 1 ≤ t → (out.set i dg).getD t 0 = 0) ∧ valL (out.set i dg) + valL (ys.take (i + 1)) = valL (xs.take (i + 1)) + 4294967296 ^ (i + 1) * bn) := fun dg bn h0 h1 h2 h3 => Lib.hid ⟨by rw [List.length_set]; exact hol, hlo.set i ⟨h0, h1⟩, set_past dg hzr, by
        have hs := sub_step (4294967296 ^ i) dg.toNat y.toNat bo x.toNat bn (valL out) (valL (ys.take i)) (valL (xs.take i)) (by omega) hval
        have hset := valL_set out i dg (by omega)
        rw [hzr i (Nat.le_refl _)] at hset
        have h0 : 4294967296 ^ i * (0 : Int).toNat = 0 := Nat.mul_zero _
        rw [h0, Nat.add_zero] at hset
        rw [hset, hxt, hyt, Nat.pow_succ]
        exact hs⟩
      have HI1 : Hid (i + 1 ≤ n) := Lib.hid (by omega)
      have i1 : (i : Int) < (n : Int) := by omega
      have HJS := Lib.hid (nat_lt (out := out) (j := i) (by omega))
      obtain ⟨R1, hR1⟩ : ∃ z : Int, (x - (bo : Int)) % 18446744073709551616 = z := ⟨_, rfl⟩
      obtain ⟨R2, hR2⟩ : ∃ z : Int, (x - u) % 18446744073709551616 = z := ⟨_, rfl⟩
      have f1 : IntKind.u64.wrap x = x := by rw [IntKind.wrap_u64]; omega
      have f2 : IntKind.u64.wrap (x - (bo : Int)) = R1 := by rw [IntKind.wrap_u64]; exact hR1
      obtain ⟨dg, bn, hd0, hd1, hb1, hdd, hdw, hbw⟩ : ∃ (dg : Int) (bn : Nat), 0 ≤ dg ∧ dg < 4294967296 ∧ bn ≤ 1 ∧ dg + u = x + 4294967296 * (bn : Int) ∧ IntKind.u32.wrap R2 = dg ∧ R2 / 9223372036854775808 = (bn : Int) := by
        by_cases hux : x < u
        · exact ⟨x + 4294967296 - u, 1, by omega, by omega, by omega, by omega, by rw [IntKind.wrap_u32]; omega, by omega⟩
        · exact ⟨x - u, 0, by omega, by omega, by omega, by omega, by rw [IntKind.wrap_u32]; omega, by omega⟩
      have HG := hgen dg bn hd0 hd1 hb1 hdd
      have HB1 := Lib.hid hb1
      have hbn : IntKind.u64.wrap (bn : Int) = (bn : Int) := by rw [IntKind.wrap_u64]; omega
      have R0 : 0 ≤ R2 := by omega
      have R3 : R2 < 18446744073709551616 := by omega
      have bI : (bn : Int) ≤ 1 := by omega
      by_cases him : i < m
      · obtain ⟨b2, o2, rfl, _, hc2⟩ := (HRB.out.below hns.bel).at_ (by omega)
        have hk2 := hc2 i him
        rw [hyy] at hk2
        obtain ⟨y0, y1⟩ := hyi
        have f3 : IntKind.u64.wrap y = y := by rw [IntKind.wrap_u64]; omega
        have f4 : IntKind.u64.wrap (R1 - y) = R2 := by rw [IntKind.wrap_u64]; omega
        have i2 : (i : Int) < (m : Int) := by omega
        clear hns hol hlo hzr hval hc1 hc2 hxx hyy hye hgen hu hR1 hR2 hdd hb1 hxt hyt hi hin him hbo
        go_wp2_with (first
          | (with_reducible refine at_any ?_; refine at_store 41 rfl ?_; refine wpList_store_cell rfl 89 (.tmp 41) (.tmp 38) rfl g i rfl 89 (intsA .u32 out) (NatS.blk HNS.out) (.int .u32 dg) rfl HJS.out size_u32s rfl rfl ?_; intro w90 hk90 ho90; have HF9 := Lib.hid (NatS.set HNS.out hk90.out ho90); clear hk90 ho90))
        go_roundw
        case rel => exact ⟨i + 1, bn, _, HI1.out, HB1.out, rfl, by go_num, HG.out.1, HG.out.2.1, HG.out.2.2.1, HG.out.2.2.2, HF9.out⟩
        case measure => have := HI1.out; simp [intOf]; omega
      · have hy0 : y = 0 := hye (by omega)
        subst hy0
        obtain rfl : R2 = R1 := by omega
        have i2 : ¬ (i : Int) < (m : Int) := by omega
        clear hns hol hlo hzr hval hc1 hxx hyy hye hgen hu hR1 hR2 hdd hb1 hxt hyt hi hin him hbo
        go_wp2_with (first
          | (with_reducible refine at_any ?_; refine at_store 41 rfl ?_; refine wpList_store_cell rfl 89 (.tmp 41) (.tmp 38) rfl g i rfl 89 (intsA .u32 out) (NatS.blk HNS.out) (.int .u32 dg) rfl HJS.out size_u32s rfl rfl ?_; intro w90 hk90 ho90; have HF9 := Lib.hid (NatS.set HNS.out hk90.out ho90); clear hk90 ho90))
        go_roundw
        case rel => exact ⟨i + 1, bn, _, HI1.out, HB1.out, rfl, by go_num, HG.out.1, HG.out.2.1, HG.out.2.2.1, HG.out.2.2.2, HF9.out⟩
        case measure => have := HI1.out; simp [intOf]; omega
    · obtain rfl : i = n := by omega
      rw [HTX.out, HTY.out] at hval
      have hvl := valL_lt hlo
      rw [hol] at hvl
      have hve := sub_end hbo hval hvl HV.out
      have hrd7 := hns.rd
      have htr := q10trim_c out (some ⟨g, 0, none⟩) out.length i (by unfold maxLen; omega) (by omega) wr hrd7
      have hrt := rd_trim hrd7
      have htl := trimL_len out
      rw [trimL_eq hlo, hve] at htr hrt htl
      rw [hol] at htr htl
      have HTR := Lib.hid htr
      have HRT := Lib.hid hrt
      have HTL := Lib.hid htl
      have HBL := Lib.hid hns.bel
      have HML : Hid (i ≤ maxLen) := Lib.hid (by unfold maxLen; omega)
      clear htr hrt htl hrd7 hval hlo hol hns hve hvl hbo hzr
      go_wp2_with (first
        | (go_at_call 87; (with_reducible refine HTR.out.mono ?_); rintro e _ ⟨rfl, rfl⟩))
      go_ret
      exact ⟨_, _, rfl, HTL.out, HML.out, HRT.out, HBL.out⟩
def cmpI (x y : Int) : Int := if x < y then -1 else if y < x then 1 else 0
theorem cmpI_lt {x y : Int} (h : x < y) : cmpI x y = -1 := by unfold cmpI; rw [if_pos h]
theorem cmpI_gt {x y : Int} (h : y < x) : cmpI x y = 1 := by unfold cmpI; rw [if_neg (by omega), if_pos h]
theorem cmpint_c (x y : Int) (hne : x ≠ y) (w : World) : Calls Tryz.prog 141 #[.int .i64 x, .int .i64 y] w fun e w' => e = .returned (.int .i64 (cmpI x y)) ∧ w = w' := by
  have t1 : (x != x) = false := by simp
  have t2 : (y != y) = false := by simp
  by_cases h : x < y
  · rw [cmpI_lt h]
    go_enter Tryz.func141, Tryz.ntmps141
    go_wp2
    go_ret
    exact ⟨rfl, rfl⟩
  · have h2 : y < x := by omega
    rw [cmpI_gt h2]
    go_enter Tryz.func141, Tryz.ntmps141
    go_wp2
    go_ret
    exact ⟨rfl, rfl⟩
theorem cmpu32_c (x y : Int) (hne : x ≠ y) (w : World) : Calls Tryz.prog 142 #[.int .u32 x, .int .u32 y] w fun e w' => e = .returned (.int .i64 (cmpI x y)) ∧ w = w' := by
  have t1 : (x != x) = false := by simp
  have t2 : (y != y) = false := by simp
  by_cases h : x < y
  · rw [cmpI_lt h]
    go_enter Tryz.func142, Tryz.ntmps142
    go_wp2
    go_ret
    exact ⟨rfl, rfl⟩
  · have h2 : y < x := by omega
    rw [cmpI_gt h2]
    go_enter Tryz.func142, Tryz.ntmps142
    go_wp2
    go_ret
    exact ⟨rfl, rfl⟩
end
section
open Go.ChangeShapes Go.WideShapes Go.ChangeAt Go.RowKit
def TwoC (w : World) (b1 o1 b2 o2 : Nat) (x y : Int) (W : World) : Prop := W.cell? ⟨b1, o1, none⟩ = some (.int .u32 x) ∧ W.cell? ⟨b2, o2, none⟩ = some (.int .u32 y) ∧ Below w.heap.size w W
theorem TwoC.drew {w W : World} {b1 o1 b2 o2 : Nat} {x y : Int} (h : TwoC w b1 o1 b2 o2 x y W) : TwoC w b1 o1 b2 o2 x y W.drew := ⟨h.1, h.2.1, h.2.2.trans ((Below.refl _ _).drew)⟩
set_option maxHeartbeats 4000000 in
theorem q10cmp_c (xs ys : List Int) (hx : Lim xs) (hy : Lim ys) (A B : Option Addr) (n m c d : Nat) (hn : n ≤ maxLen) (hm : m ≤ maxLen) (w : World) (hra : Rd .u32 w w.heap.size A n xs) (hrb : Rd .u32 w w.heap.size B m ys) : Calls Tryz.prog 135 #[.slice A n c, .slice B m d] w fun e w' => e = .returned (.int .i64 (cmpR xs ys)) ∧ Below w.heap.size w w' := by
  have hr1 := fun W h => q10right_c xs A n c hn W h
  have hr2 := fun W h => q10right_c ys B m d hm W h
  have HRA := Lib.hid hra
  have HRB := Lib.hid hrb
  have hla := hra.len
  have hlb := hrb.len
  have hnI : (n : Int) ≤ 9223372036854775807 := by unfold maxLen at hn; omega
  have hmI : (m : Int) ≤ 9223372036854775807 := by unfold maxLen at hm; omega
  cases h1 : rightN xs with
  | false =>
    have e1 : cmpR xs ys = 0 := by unfold cmpR; rw [h1]; rfl
    rw [h1] at hr1
    rw [e1]
    have HR1 := Lib.hid hr1
    clear hr1 hr2 h1 e1 hra hrb hn hm
    go_enter Tryz.func135, Tryz.ntmps135
    go_wp2_with (first
      | (go_at_call 84; (with_reducible refine (HR1.out _ HRA.out).mono ?_); rintro e _ ⟨rfl, rfl⟩))
    go_ret
    exact ⟨rfl, Below.refl _ _⟩
  | true =>
    rw [h1] at hr1
    have HR1 := Lib.hid hr1
    cases h2 : rightN ys with
    | false =>
      have e1 : cmpR xs ys = 0 := by unfold cmpR; rw [h1, h2]; rfl
      rw [h2] at hr2
      rw [e1]
      have HR2 := Lib.hid hr2
      clear hr1 hr2 h1 h2 e1 hra hrb hn hm
      go_enter Tryz.func135, Tryz.ntmps135
      go_wp2_with (first
        | (go_at_call 84; (with_reducible refine (HR1.out _ HRA.out).mono ?_); rintro e _ ⟨rfl, rfl⟩)
        | (go_at_call 84; (with_reducible refine (HR2.out _ HRB.out).mono ?_); rintro e _ ⟨rfl, rfl⟩))
      go_ret
      exact ⟨rfl, Below.refl _ _⟩
    | true =>
      have e1 : cmpR xs ys = if valL xs < valL ys then -1 else if valL ys < valL xs then 1 else 0 := by unfold cmpR; rw [h1, h2]; rfl
      rw [h2] at hr2
      have HR2 := Lib.hid hr2
      have HE1 := Lib.hid e1
      by_cases hl : n = m
      · subst hl
        have t1 : ((n : Int) != (n : Int)) = false := by simp
        have HL := Lib.hid (fun i (h : i < n) hd hlt => cmp_less hx hy (i := i) (by omega) (by omega) hd hlt)
        have HG := Lib.hid (fun i (h : i < n) hd hlt => cmp_less hy hx (i := i) (by omega) (by omega) hd hlt)
        have HDX := Lib.hid (fun i (h : i < n) => show xs.drop i = xs.getD i 0 :: xs.drop (i + 1) by rw [List.drop_eq_getElem_cons (by omega), List.getD_eq_getElem?_getD, List.getElem?_eq_getElem (by omega)]; rfl)
        have HDY := Lib.hid (fun i (h : i < n) => show ys.drop i = ys.getD i 0 :: ys.drop (i + 1) by rw [List.drop_eq_getElem_cons (by omega), List.getD_eq_getElem?_getD, List.getElem?_eq_getElem (by omega)]; rfl)
        have hend : xs.drop n = ys.drop n := by rw [List.drop_eq_nil_of_le (by omega), List.drop_eq_nil_of_le (by omega)]
        have HEND := Lib.hid hend
        clear hr1 hr2 h1 h2 e1 hra hrb hn hm hx hy hend
        go_enter Tryz.func135, Tryz.ntmps135
        go_wp2_with (first
          | (go_at_call 84; (with_reducible refine (HR1.out _ HRA.out).mono ?_); rintro e _ ⟨rfl, rfl⟩)
          | (go_at_call 84; (with_reducible refine (HR2.out _ HRB.out).mono ?_); rintro e _ ⟨rfl, rfl⟩))
        go_loopw [5] (fun ii wr => ∃ j : Nat, j ≤ n ∧ ii = .int .i64 ((j : Int) - 1) ∧ xs.drop j = ys.drop j ∧ Below w.heap.size w wr) (fun ii _ => (intOf ii + 1).toNat)
        case atStart => exact ⟨n, Nat.le_refl _, by go_num, HEND.out, Below.refl _ _⟩
        case round =>
          obtain ⟨j, hj, rfl, hd, hbl⟩ := hrel
          rcases j with _ | i
          · have hxy : xs = ys := by rw [List.drop_zero, List.drop_zero] at hd; exact hd
            have HE2 : Hid (cmpR xs ys = 0) := Lib.hid (by rw [HE1.out, hxy, if_neg (by omega), if_neg (by omega)])
            have HBL := Lib.hid hbl
            clear hd hbl hxy
            rw [show ((0 : Nat) : Int) - 1 = -1 from rfl]
            go_wp2
            go_ret
            rw [HE2.out]
            exact ⟨rfl, HBL.out⟩
          · have hin : i < n := by omega
            rw [show ((i + 1 : Nat) : Int) - 1 = (i : Int) by omega]
            obtain ⟨b1, o1, rfl, _, hc1⟩ := (HRA.out.below hbl).at_ (by omega)
            obtain ⟨b2, o2, rfl, _, hc2⟩ := (HRB.out.below hbl).at_ (by omega)
            have hk1 := hc1 i hin
            have hk2 := hc2 i hin
            have hlt := HL.out i hin hd
            have hgt := HG.out i hin hd.symm
            have hdx := HDX.out i hin
            have hdy := HDY.out i hin
            obtain ⟨x, hx⟩ : ∃ x, xs.getD i 0 = x := ⟨_, rfl⟩
            obtain ⟨y, hy⟩ : ∃ y, ys.getD i 0 = y := ⟨_, rfl⟩
            rw [hx] at hk1 hlt hgt hdx
            rw [hy] at hk2 hlt hgt hdy
            have i0 : (0 : Int) ≤ (i : Int) := by omega
            have i1 : (i : Int) < (n : Int) := by omega
            have HIN := Lib.hid i1
            have HBL := Lib.hid hbl
            by_cases hxy : x = y
            · subst hxy
              have t2 : (x != x) = false := by simp
              have HD := Lib.hid (show xs.drop i = ys.drop i by rw [hdx, hdy, hd])
              clear hc1 hc2 hlt hgt hdx hdy hx hy hd hbl
              go_wp2
              go_quiet (fail)
              go_wp2
              go_roundw
              case rel => exact ⟨i, by omega, by go_num, HD.out, below_drewN HBL.out _⟩
              case measure => simp [intOf]
            · have HE2 : Hid (cmpR xs ys = cmpI x y) := Lib.hid (by
                rw [HE1.out]
                by_cases h : x < y
                · rw [if_pos (hlt h), cmpI_lt h]
                · have h' : y < x := by omega
                  have := hgt h'
                  rw [if_neg (by omega), if_pos this, cmpI_gt h'])
              have t2 : (x != y) = true := by simp [bne, hxy]
              have HCMP := Lib.hid (fun W => cmpu32_c x y hxy W)
              have HC0 : Hid (∀ k, TwoC w b1 (o1 + i) b2 (o2 + i) x y (wr.drewN k)) := Lib.hid (fun k => ⟨hk1, hk2, below_drewN hbl k⟩)
              clear hc1 hc2 hlt hgt hdx hdy hx hy hd hbl hxy
              go_wp2
              go_quiet (fail)
              go_wp2
              refine wp_region_held_drew (S := (TwoC w b1 (o1 + i) b2 (o2 + i) x y)) (by kernel_rfl) ((HC0.out _).drew) (fun hH => ?_)
              refine wpAnyH_letter #[false, false, false, false, false, false, false, false, false, false] (by kernel_rfl) (fun _ _ d _ _ h => by cases d <;> exact h) (fun QL HQ1 HQ2 => ?_)
              refine held_v 0 (some 40) rfl (by kernel_rfl) (by kernel_rfl) (by kernel_rfl) (by kernel_rfl) (fun c a v w h => HQ2.out c a _ v w h) (by kernel_rfl) (.slice (some ⟨b1, o1, none⟩) n c) (fun W h => by kernel_rfl) hH ?_
              try simp only [Act.put, List.setIfInBounds_toArray, List.set_cons_zero, List.set_cons_succ]
              refine held_v 1 (some 41) rfl (by kernel_rfl) (by kernel_rfl) (by kernel_rfl) (by kernel_rfl) (fun c a v w h => HQ2.out c a _ v w h) (by kernel_rfl) (.int .i64 (i : Int)) (fun W h => by kernel_rfl) hH ?_
              try simp only [Act.put, List.setIfInBounds_toArray, List.set_cons_zero, List.set_cons_succ]
              refine held_v 2 (some 42) rfl (by kernel_rfl) (by kernel_rfl) (by kernel_rfl) (by kernel_rfl) (fun c a v w h => HQ2.out c a _ v w h) (by kernel_rfl) (.pointer (some ⟨b1, o1 + i, none⟩)) (fun W h => by have p := HIN.out; go_simp) hH ?_
              try simp only [Act.put, List.setIfInBounds_toArray, List.set_cons_zero, List.set_cons_succ]
              refine held_v 3 (some 43) rfl (by kernel_rfl) (by kernel_rfl) (by kernel_rfl) (by kernel_rfl) (fun c a v w h => HQ2.out c a _ v w h) (by kernel_rfl) (.int .u32 x) (fun W h => by have p := h.1; go_simp) hH ?_
              try simp only [Act.put, List.setIfInBounds_toArray, List.set_cons_zero, List.set_cons_succ]
              refine held_v 4 (some 44) rfl (by kernel_rfl) (by kernel_rfl) (by kernel_rfl) (by kernel_rfl) (fun c a v w h => HQ2.out c a _ v w h) (by kernel_rfl) (.slice (some ⟨b2, o2, none⟩) n d) (fun W h => by kernel_rfl) hH ?_
              try simp only [Act.put, List.setIfInBounds_toArray, List.set_cons_zero, List.set_cons_succ]
              refine held_v 5 (some 45) rfl (by kernel_rfl) (by kernel_rfl) (by kernel_rfl) (by kernel_rfl) (fun c a v w h => HQ2.out c a _ v w h) (by kernel_rfl) (.int .i64 (i : Int)) (fun W h => by kernel_rfl) hH ?_
              try simp only [Act.put, List.setIfInBounds_toArray, List.set_cons_zero, List.set_cons_succ]
              refine held_v 6 (some 46) rfl (by kernel_rfl) (by kernel_rfl) (by kernel_rfl) (by kernel_rfl) (fun c a v w h => HQ2.out c a _ v w h) (by kernel_rfl) (.pointer (some ⟨b2, o2 + i, none⟩)) (fun W h => by have p := HIN.out; go_simp) hH ?_
              try simp only [Act.put, List.setIfInBounds_toArray, List.set_cons_zero, List.set_cons_succ]
              refine held_v 7 (some 47) rfl (by kernel_rfl) (by kernel_rfl) (by kernel_rfl) (by kernel_rfl) (fun c a v w h => HQ2.out c a _ v w h) (by kernel_rfl) (.int .u32 y) (fun W h => by have p := h.2.1; go_simp) hH ?_
              try simp only [Act.put, List.setIfInBounds_toArray, List.set_cons_zero, List.set_cons_succ]
              refine wpAnyH_ready (rs := [8]) (by kernel_rfl) (by decide) ?_
              refine AllReadyH.cons rfl (fun K hK => ?_) AllReadyH.nil
              refine step_call (some 48) (by kernel_rfl) (by kernel_rfl) _ _ (by kernel_rfl) _ (HCMP.out _) ?_
              rintro e _ ⟨rfl, rfl⟩
              refine ⟨_, rfl, ?_⟩
              refine hK.out _ _ hH (fun _ => ?_)
              clear hK K
              try simp only [Act.put, List.setIfInBounds_toArray, List.set_cons_zero, List.set_cons_succ]
              refine held_v 9 (some 4) rfl (by kernel_rfl) (by kernel_rfl) (by kernel_rfl) (by kernel_rfl) (fun c a v w h => HQ2.out c a _ v w h) (by kernel_rfl) (.int .i64 (cmpI x y)) (fun W h => by kernel_rfl) hH ?_
              try simp only [Act.put, List.setIfInBounds_toArray, List.set_cons_zero, List.set_cons_succ]
              refine wpAnyH_done (by kernel_rfl) ?_ _
              refine HQ1.out _ _ ?_
              clear HQ1 HQ2
              have HH := Lib.hid hH
              go_wp2
              go_ret
              rw [HE2.out]
              exact ⟨rfl, HH.out.2.2⟩
      · have t1 : ((n : Int) != (m : Int)) = true := by rw [bne_iff_ne]; omega
        have HE2 : Hid (cmpR xs ys = cmpI (n : Int) (m : Int)) := Lib.hid (by
          by_cases h : n < m
          · rw [e1, if_pos (len_less hx hy h2 (by omega)), cmpI_lt (by omega)]
          · have hv := len_less hy hx h1 (by omega)
            rw [e1, if_neg (by omega), if_pos hv, cmpI_gt (by omega)])
        have HCMP := Lib.hid (fun W => cmpint_c (n : Int) (m : Int) (by omega) W)
        rw [HE2.out]
        clear hr1 hr2 h1 h2 e1 hra hrb hn hm hx hy hl HE1
        go_enter Tryz.func135, Tryz.ntmps135
        go_wp2_with (first
          | (go_at_call 84; (with_reducible refine (HR1.out _ HRA.out).mono ?_); rintro e _ ⟨rfl, rfl⟩)
          | (go_at_call 84; (with_reducible refine (HR2.out _ HRB.out).mono ?_); rintro e _ ⟨rfl, rfl⟩)
          | (go_at_call 141; (with_reducible refine (HCMP.out _).mono ?_); rintro e _ ⟨rfl, rfl⟩))
        go_ret
        exact ⟨rfl, Below.refl _ _⟩
set_option maxHeartbeats 4000000 in
theorem q10sub_c (xs ys : List Int) (hx : Lim xs) (hy : Lim ys) (A B : Option Addr) (n m c d : Nat) (hn : n ≤ maxLen) (hm : m ≤ maxLen) (w : World) (hra : Rd .u32 w w.heap.size A n xs) (hrb : Rd .u32 w w.heap.size B m ys) : Calls Tryz.prog 125 #[.slice A n c, .slice B m d] w (RetNE w (subR xs ys)) := by
  have hr1 := fun W h => q10right_c xs A n c hn W h
  have hr2 := fun W h => q10right_c ys B m d hm W h
  have hcmp := fun W h h' => q10cmp_c xs ys hx hy A B n m c d hn hm W h h'
  have HRA := Lib.hid hra
  have HRB := Lib.hid hrb
  have hla := hra.len
  have hlb := hrb.len
  cases h1 : rightN xs with
  | false =>
    have e1 : subR xs ys = (1, []) := by unfold subR; rw [h1]; rfl
    rw [h1] at hr1
    rw [e1]
    have HR1 := Lib.hid hr1
    clear hr1 hr2 h1 e1 hra hrb hn hm hcmp
    go_enter Tryz.func125, Tryz.ntmps125
    go_wp2_with (first
      | (go_at_call 84; (with_reducible refine (HR1.out _ HRA.out).mono ?_); rintro e _ ⟨rfl, rfl⟩))
    go_ret2
    exact RetNE.nil 1 (Below.refl _ _)
  | true =>
    rw [h1] at hr1
    have HR1 := Lib.hid hr1
    cases h2 : rightN ys with
    | false =>
      have e1 : subR xs ys = (1, []) := by unfold subR; rw [h1, h2]; rfl
      rw [h2] at hr2
      rw [e1]
      have HR2 := Lib.hid hr2
      clear hr1 hr2 h1 h2 e1 hra hrb hn hm hcmp
      go_enter Tryz.func125, Tryz.ntmps125
      go_wp2_with (first
        | (go_at_call 84; (with_reducible refine (HR1.out _ HRA.out).mono ?_); rintro e _ ⟨rfl, rfl⟩)
        | (go_at_call 84; (with_reducible refine (HR2.out _ HRB.out).mono ?_); rintro e _ ⟨rfl, rfl⟩))
      go_ret2
      exact RetNE.nil 1 (Below.refl _ _)
    | true =>
      have e1 : subR xs ys = if valL xs < valL ys then (12, []) else (0, natL (valL xs - valL ys)) := by unfold subR; rw [h1, h2]; rfl
      have c1 : cmpR xs ys = if valL xs < valL ys then -1 else if valL ys < valL xs then 1 else 0 := by unfold cmpR; rw [h1, h2]; rfl
      rw [h2] at hr2
      have HR2 := Lib.hid hr2
      by_cases hv : valL xs < valL ys
      · rw [e1, if_pos hv]
        rw [c1, if_pos hv] at hcmp
        have HC := Lib.hid hcmp
        clear hr1 hr2 h1 h2 e1 c1 hra hrb hn hm hcmp hv
        go_enter Tryz.func125, Tryz.ntmps125
        go_wp2_with (first
          | (go_at_call 84; (with_reducible refine (HR1.out _ HRA.out).mono ?_); rintro e _ ⟨rfl, rfl⟩)
          | (go_at_call 84; (with_reducible refine (HR2.out _ HRB.out).mono ?_); rintro e _ ⟨rfl, rfl⟩)
          | (go_at_call 135; (with_reducible refine (HC.out _ HRA.out HRB.out).mono ?_); rintro e w3 ⟨rfl, hb3⟩; have HB3 := Lib.hid hb3; clear hb3))
        go_ret2
        exact RetNE.nil 12 HB3.out
      · rw [e1, if_neg hv]
        rw [c1, if_neg hv] at hcmp
        have hmn : m ≤ n := by
          rcases Nat.lt_or_ge n m with h | h
          · exact absurd (len_less hx hy h2 (by omega)) hv
          · exact h
        have hn256 : n ≤ 256 := by rw [← hla]; exact rightN_len h1
        obtain ⟨z, hz⟩ : ∃ z : Int, (if valL ys < valL xs then (1 : Int) else 0) = z := ⟨_, rfl⟩
        have hz0 : ¬ z < 0 := by rw [← hz]; split <;> omega
        rw [hz] at hcmp
        have HC := Lib.hid hcmp
        have hless := fun W h h' => q10less_c xs ys hx hy A B n m c d (by omega) hmn (by omega) W h h'
        have HLESS := Lib.hid hless
        obtain ⟨R, hR⟩ : ∃ R, natL (valL xs - valL ys) = R := ⟨_, rfl⟩
        rw [hR] at HLESS ⊢
        clear hr1 hr2 h1 h2 e1 c1 hra hrb hm hcmp hv hz hx hy hn hless hR
        go_enter Tryz.func125, Tryz.ntmps125
        go_wp2_with (first
          | (go_at_call 84; (with_reducible refine (HR1.out _ HRA.out).mono ?_); rintro e _ ⟨rfl, rfl⟩)
          | (go_at_call 84; (with_reducible refine (HR2.out _ HRB.out).mono ?_); rintro e _ ⟨rfl, rfl⟩)
          | (go_at_call 135; (with_reducible refine (HC.out _ HRA.out HRB.out).mono ?_); rintro e w3 ⟨rfl, hb3⟩; have HB3 := Lib.hid hb3; have HA3 := Lib.hid (HRA.out.below hb3).fit; have HD3 := Lib.hid (HRB.out.below hb3).fit; clear hb3)
          | (go_at_call 136; (with_reducible refine (HLESS.out _ HA3.out HD3.out).mono ?_); rintro e w4 ⟨A4, c4, rfl, hl4, hm4, hr4, hb4⟩; have HB4 := Lib.hid (HB3.out.trans (hb4.mono HB3.out.size)); have HL4 := Lib.hid hl4; have HM4 := Lib.hid hm4; have HR4 := Lib.hid hr4; clear hl4 hm4 hr4 hb4))
        go_ret2
        exact ⟨_, _, rfl, HL4.out, HM4.out, HR4.out, HB4.out⟩
end
section
namespace Div64
def KI (b c u v q r : Nat) : Prop := u = q * b + r ∧ (u * 4294967296 + v) / (b * 4294967296 + c) ≤ q ∧ q ≤ 4294967297 ∧ r < 4294967296
theorem KI.start {b c u v : Nat} (hb : 2147483648 ≤ b) (hb2 : b < 4294967296) (hc : c < 4294967296) (hv : v < 4294967296) (hu : u < b * 4294967296 + c) : KI b c u v (u / b) (u % b) := by
  have h1 : u = u / b * b + u % b := by rw [Nat.mul_comm]; exact (Nat.div_add_mod u b).symm
  have hm : u % b < b := Nat.mod_lt _ (by omega)
  refine ⟨h1, ?_, ?_, by omega⟩
  · rw [Nat.le_div_iff_mul_le (by omega)]
    have h2 : (u * 4294967296 + v) / (b * 4294967296 + c) * (b * 4294967296 + c) ≤ u * 4294967296 + v := Nat.div_mul_le_self _ _
    generalize (u * 4294967296 + v) / (b * 4294967296 + c) = q at *
    rw [Nat.mul_add, ← Nat.mul_assoc] at h2
    generalize q * b = x at *
    generalize q * c = y at *
    omega
  · have h3 : u / b < 4294967298 := by
      rw [Nat.div_lt_iff_lt_mul (by omega)]
      omega
    omega
theorem KI.test {b c u v q r : Nat} (hb : 2147483648 ≤ b) (h : KI b c u v q r) : (r * 4294967296 + v < q * c) ↔ (u * 4294967296 + v) / (b * 4294967296 + c) < q := by
  rw [Nat.div_lt_iff_lt_mul (by omega), h.1, Nat.mul_add, Nat.add_mul, Nat.mul_assoc]
  omega
theorem KI.lt {b c u v : Nat} (hb : 2147483648 ≤ b) (hv : v < 4294967296) (hu : u < b * 4294967296 + c) : (u * 4294967296 + v) / (b * 4294967296 + c) < 4294967296 := by
  rw [Nat.div_lt_iff_lt_mul (by omega)]
  omega
theorem KI.next {b c u v q r : Nat} (hb : 2147483648 ≤ b) (hb2 : b < 4294967296) (hc : c < 4294967296) (hv : v < 4294967296) (hu : u < b * 4294967296 + c) (h : KI b c u v q r) (ht : 4294967296 ≤ q ∨ r * 4294967296 + v < q * c) : ∃ p, q = p + 1 ∧ (r + b < 4294967296 → KI b c u v p (r + b)) ∧ (4294967296 ≤ r + b → p = (u * 4294967296 + v) / (b * 4294967296 + c)) := by
  have h0 := KI.lt (c := c) hb hv hu
  have h1 : (u * 4294967296 + v) / (b * 4294967296 + c) < q := by
    rcases ht with ht | ht
    · omega
    · exact (h.test hb).1 ht
  obtain ⟨p, rfl⟩ : ∃ p, q = p + 1 := ⟨q - 1, by have := Nat.lt_of_le_of_lt (Nat.zero_le _) h1; omega⟩
  obtain ⟨e1, e2, e3, e4⟩ := h
  refine ⟨p, rfl, fun hr => ⟨by rw [Nat.add_mul, Nat.one_mul] at e1; omega, by omega, by omega, hr⟩, fun hr => ?_⟩
  have h2 : p * (b * 4294967296 + c) ≤ u * 4294967296 + v := by
    have h3 : p * c ≤ 4294967296 * 4294967295 := Nat.mul_le_mul (by omega) (by omega)
    rw [Nat.add_mul, Nat.one_mul] at e1
    rw [Nat.mul_add, ← Nat.mul_assoc]
    generalize p * b = x at *
    generalize p * c = y at *
    omega
  have h3 : p ≤ (u * 4294967296 + v) / (b * 4294967296 + c) := (Nat.le_div_iff_mul_le (by omega)).2 h2
  omega
theorem KI.done {b c u v q r : Nat} (hb : 2147483648 ≤ b) (h : KI b c u v q r) (ht : ¬ r * 4294967296 + v < q * c) : q = (u * 4294967296 + v) / (b * 4294967296 + c) := by
  have h1 := h.2.1
  rw [h.test hb] at ht
  omega
theorem whole {U d s n32 n1 n0 b c : Nat} (hd : 0 < d) (hy : d * 2 ^ s = b * 4294967296 + c) (hU : U < d * 4294967296) (hn : U * 2 ^ s = (n32 * 4294967296 + n1) * 4294967296 + n0) (h1 : n1 < 4294967296) (h0 : n0 < 4294967296) :
    n32 * 4294967296 + n1 < b * 4294967296 + c ∧ (n32 * 4294967296 + n1) / (b * 4294967296 + c) = 0 ∧ ((n32 * 4294967296 + n1) * 4294967296 + n0) / (b * 4294967296 + c) = U / d ∧ ((n32 * 4294967296 + n1) * 4294967296 + n0) = (U / d) * (b * 4294967296 + c) + (U % d) * 2 ^ s := by
  have hp : 0 < 2 ^ s := Nat.pow_pos (by omega)
  have e1 : U * 2 ^ s < d * 2 ^ s * 4294967296 := by
    rw [Nat.mul_right_comm]
    exact (Nat.mul_lt_mul_right hp).2 hU
  rw [hn, hy] at e1
  have h2 : n32 * 4294967296 + n1 < b * 4294967296 + c := Nat.lt_of_mul_lt_mul_right (Nat.lt_of_le_of_lt (Nat.le_add_right _ n0) e1)
  refine ⟨h2, Nat.div_eq_of_lt h2, ?_, ?_⟩
  · rw [← hn, ← hy, Nat.mul_div_mul_right _ _ hp]
  · rw [← hn, ← hy, ← Nat.mul_assoc, ← Nat.add_mul]
    congr 1
    rw [Nat.mul_comm]; exact (Nat.div_add_mod U d).symm
end Div64
end
section
def renA : Go.Shelf.Ren := ⟨fun
  | 129 => 114
  | 134 => 143
  | 212 => 108
  | 263 => 123
  | 264 => 89
  | n => n, fun
  | 0 => 0
  | 3 => 3
  | 4 => 4
  | 5 => 5
  | 9 => 9
  | 37 => 36
  | 46 => 109
  | 51 => 89
  | 53 => 24
  | 146 => 179
  | 148 => 135
  | n => n, fun
  | n => n⟩
theorem lays134 : Go.Proofs.Lays.n134 Tryz.prog renA where
  mixed := by kernel_rfl
  f129 := Tryz.func114.trans (congrArg some (by kernel_rfl))
  f134 := Tryz.func143.trans (congrArg some (by kernel_rfl))
  t3 := Tryz.underlying3
  a3 := Tryz.isAgg3
  z3 := Tryz.sizeOf3
  v3 := Tryz.zeroValue3
  t4 := Tryz.underlying4
  a4 := Tryz.isAgg4
  z4 := Tryz.sizeOf4
  v4 := Tryz.zeroValue4
  t5 := Tryz.underlying5
  a5 := Tryz.isAgg5
  z5 := Tryz.sizeOf5
  v5 := Tryz.zeroValue5
  t9 := Tryz.underlying9
  a9 := Tryz.isAgg9
  z9 := Tryz.sizeOf9
  v9 := Tryz.zeroValue9
  t46 := Tryz.underlying109
  a46 := Tryz.isAgg109
  z46 := Tryz.sizeOf109
  v46 := Tryz.zeroValue109
  t53 := Tryz.underlying24
  a53 := Tryz.isAgg24
  z53 := Tryz.sizeOf24
  v53 := Tryz.zeroValue24
theorem lays212 : Go.Proofs.Lays.n212 Tryz.prog renA where
  mixed := by kernel_rfl
  f212 := Tryz.func108.trans (congrArg some (by kernel_rfl))
  f263 := Tryz.func123.trans (congrArg some (by kernel_rfl))
  f264 := Tryz.func89.trans (congrArg some (by kernel_rfl))
  t46 := Tryz.underlying109
  a46 := Tryz.isAgg109
  z46 := Tryz.sizeOf109
  v46 := Tryz.zeroValue109
  t51 := Tryz.underlying89
  a51 := Tryz.isAgg89
  z51 := Tryz.sizeOf89
  v51 := Tryz.zeroValue89
  t53 := Tryz.underlying24
  a53 := Tryz.isAgg24
  z53 := Tryz.sizeOf24
  v53 := Tryz.zeroValue24
  t146 := Tryz.underlying179
  a146 := Tryz.isAgg179
  z146 := Tryz.sizeOf179
  v146 := Tryz.zeroValue179
  t148 := Tryz.underlying135
  a148 := Tryz.isAgg135
  z148 := Tryz.sizeOf135
  v148 := Tryz.zeroValue135
end
section
open Go.ChangeShapes Go.WideShapes Go.ChangeAt Go.RowKit Div64
theorem u64lo {x : Int} (x0 : 0 ≤ x) (x1 : x < 18446744073709551616) : IntKind.u64.wrap x = x := by rw [IntKind.wrap_u64]; omega
theorem u64mask (a : Nat) (a1 : a < 18446744073709551616) : bits .and .u64 (a : Int) 4294967295 = ((a % 4294967296 : Nat) : Int) := by
  have h := bits_and_u64_nat a 4294967295 (by omega) (by omega)
  rw [Nat.and_two_pow_sub_one_eq_mod a 32] at h
  exact h
structure Parts (hi lo d s : Nat) (y b c h2 l2 n32 n10 n1 n0 : Nat) : Prop where
  ey : IntKind.u64.wrap ((d : Int) * 2 ^ s) = (y : Int)
  eb : (y : Int) / 4294967296 = (b : Int)
  ec : bits .and .u64 (y : Int) 4294967295 = (c : Int)
  eh : IntKind.u64.wrap ((hi : Int) * 2 ^ s) = (h2 : Int)
  el : (lo : Int) / 2 ^ (64 - s) = (l2 : Int)
  eo : bits .or .u64 (h2 : Int) (l2 : Int) = (n32 : Int)
  en : IntKind.u64.wrap ((lo : Int) * 2 ^ s) = (n10 : Int)
  e1 : (n10 : Int) / 4294967296 = (n1 : Int)
  e0 : bits .and .u64 (n10 : Int) 4294967295 = (n0 : Int)
  hy : d * 2 ^ s = b * 4294967296 + c
  yy : y = b * 4294967296 + c
  hn : (hi * 18446744073709551616 + lo) * 2 ^ s = (n32 * 4294967296 + n1) * 4294967296 + n0
  b0 : 2147483648 ≤ b
  b1 : b < 4294967296
  c1 : c < 4294967296
  n11 : n1 < 4294967296
  n01 : n0 < 4294967296
theorem parts (hi lo d s : Nat) (hlo : lo < 18446744073709551616) (hU : hi * 18446744073709551616 + lo < d * 4294967296) (s1 : 1 ≤ s) (s63 : s ≤ 63) (y0 : 9223372036854775808 ≤ d * 2 ^ s) (y1 : d * 2 ^ s < 18446744073709551616) : ∃ y b c h2 l2 n32 n10 n1 n0, Parts hi lo d s y b c h2 l2 n32 n10 n1 n0 := by
  have hp : 0 < 2 ^ s := Nat.pow_pos (by omega)
  have hp2 : 2 ^ (64 - s) * 2 ^ s = 18446744073709551616 := by rw [← Nat.pow_add, show 64 - s + s = 64 by omega]
  have hq : 0 < 2 ^ (64 - s) := Nat.pow_pos (by omega)
  have hcast : ∀ x : Nat, (x : Int) * 2 ^ s = ((x * 2 ^ s : Nat) : Int) := fun x => by rw [Int.natCast_mul, Int.natCast_pow]; rfl
  have hdiv : (lo : Int) / 2 ^ (64 - s) = ((lo / 2 ^ (64 - s) : Nat) : Int) := by rw [Int.natCast_ediv, Int.natCast_pow]; rfl
  have hN : (hi * 18446744073709551616 + lo) * 2 ^ s < d * 2 ^ s * 4294967296 := by
    rw [Nat.mul_right_comm]
    exact (Nat.mul_lt_mul_right hp).2 hU
  have hlo2 : lo * 2 ^ s = lo / 2 ^ (64 - s) * 18446744073709551616 + lo % 2 ^ (64 - s) * 2 ^ s := by
    rw [← hp2, ← Nat.mul_assoc, ← Nat.add_mul]
    congr 1
    rw [Nat.mul_comm]; exact (Nat.div_add_mod _ _).symm
  have hr : lo % 2 ^ (64 - s) * 2 ^ s < 18446744073709551616 := by
    rw [← hp2]
    exact (Nat.mul_lt_mul_right hp).2 (Nat.mod_lt _ hq)
  have hlp : lo / 2 ^ (64 - s) < 2 ^ s := by
    rw [Nat.div_lt_iff_lt_mul hq, Nat.mul_comm, hp2]
    exact hlo
  have hor : (hi * 2 ^ s) ||| (lo / 2 ^ (64 - s)) = hi * 2 ^ s + lo / 2 ^ (64 - s) := by
    rw [Nat.mul_comm, Nat.two_pow_add_eq_or_of_lt hlp]
  rw [Nat.add_mul, Nat.mul_right_comm, hlo2] at hN
  have hNN : (hi * 18446744073709551616 + lo) * 2 ^ s = (hi * 2 ^ s + lo / 2 ^ (64 - s)) * 18446744073709551616 + lo % 2 ^ (64 - s) * 2 ^ s := by
    rw [Nat.add_mul, Nat.mul_right_comm, hlo2, Nat.add_mul, Nat.add_assoc]
  have e10 : lo * 2 ^ s % 18446744073709551616 = lo % 2 ^ (64 - s) * 2 ^ s := by rw [hlo2, Nat.mul_comm, Nat.mul_add_mod, Nat.mod_eq_of_lt hr]
  generalize hY : d * 2 ^ s = Y at *
  generalize hH : hi * 2 ^ s = H at *
  generalize hL : lo * 2 ^ s = L at *
  generalize hD : lo / 2 ^ (64 - s) = D at *
  generalize hR : lo % 2 ^ (64 - s) * 2 ^ s = R at *
  have hb : H + D < 4294967296 := by omega
  refine ⟨Y, Y / 4294967296, Y % 4294967296, H, D, H + D, R, R / 4294967296, R % 4294967296, ?_, ?_, ?_, ?_, ?_, ?_, ?_, ?_, ?_, ?_, ?_, ?_, ?_, ?_, ?_, ?_, ?_⟩
  · rw [hcast, hY]; exact u64lo (by omega) (by omega)
  · omega
  · exact u64mask Y (by omega)
  · rw [hcast, hH]; exact u64lo (by omega) (by omega)
  · exact hdiv
  · rw [bits_or_u64_nat _ _ (by omega) (by omega), hor]
  · rw [hcast, hL, IntKind.wrap_u64, ← e10]; omega
  · omega
  · exact u64mask R (by omega)
  · omega
  · omega
  · rw [hNN]; omega
  · omega
  · omega
  · omega
  · omega
  · omega
theorem lead_c (d : Nat) (h : d < 18446744073709551616) (w : World) : Calls Tryz.prog 143 #[.int .u64 (d : Int)] w fun e w' => e = .returned (.int .i64 (64 - (Lib.bitLen d : Int))) ∧ w = w' := by
  have h1 := Any.bits_LeadingZeros64 lays134 (d : Int) w (by omega) (by omega)
  rw [Int.toNat_natCast] at h1
  exact h1.mono fun e w' h => ⟨h.1, h.2.symm⟩
theorem lead_bounds (d : Nat) (h1 : 1 ≤ d) (h2 : d < 9223372036854775808) : ∃ s : Nat, 1 ≤ s ∧ s ≤ 63 ∧ 64 - (Lib.bitLen d : Int) = (s : Int) ∧ 9223372036854775808 ≤ d * 2 ^ s ∧ d * 2 ^ s < 18446744073709551616 := by
  obtain ⟨a1, a2, a3⟩ := Lib.bitLenAux_bounds 64 d (by rw [show (2 : Nat) ^ 64 = 18446744073709551616 from rfl]; omega) (by omega)
  have a4 : Lib.bitLen d ≤ 63 := Lib.bitLen_le d 63 (by omega) (by rw [show (2 : Nat) ^ 63 = 9223372036854775808 from rfl]; omega)
  have e : Lib.bitLenAux 64 d = Lib.bitLen d := rfl
  rw [e] at a1 a2 a3
  generalize Lib.bitLen d = L at *
  refine ⟨64 - L, by omega, by omega, by omega, ?_, ?_⟩
  · have h3 : 2 ^ (L - 1) * 2 ^ (64 - L) ≤ d * 2 ^ (64 - L) := Nat.mul_le_mul_right _ a2
    rw [← Nat.pow_add, show L - 1 + (64 - L) = 63 by omega] at h3
    exact h3
  · have h3 : d * 2 ^ (64 - L) < 2 ^ L * 2 ^ (64 - L) := (Nat.mul_lt_mul_right (Nat.pow_pos (by omega))).2 a3
    rw [← Nat.pow_add, show L + (64 - L) = 64 by omega] at h3
    exact h3
set_option maxHeartbeats 4000000 in
theorem q10div64_c (hi lo d : Nat) (hlo : lo < 18446744073709551616) (hd : d < 9223372036854775808) (hU : hi * 18446744073709551616 + lo < d * 4294967296) (w : World) : Calls Tryz.prog 137 #[.int .u64 (hi : Int), .int .u64 (lo : Int), .int .u64 (d : Int)] w fun e w' => e = .returned (.tuple #[.int .u64 (((hi * 18446744073709551616 + lo) / d : Nat) : Int), .int .u64 (((hi * 18446744073709551616 + lo) % d : Nat) : Int)]) ∧ ∃ n, w' = w.drewN n := by
  have h1 : 1 ≤ d := by omega
  have hhi : hi < d := by omega
  have hl := fun W => lead_c d (by omega) W
  obtain ⟨s, s1, s63, hs, y0, y1⟩ := lead_bounds d h1 hd
  rw [hs] at hl
  have HL := Lib.hid hl
  have t1 : ((d : Int) == 0) = false := by rw [beq_eq_false_iff_ne]; omega
  have t2 : ¬ (d : Int) ≤ (hi : Int) := by omega
  clear hs hl
  by_cases hz : hi = 0
  · subst hz
    have t4 : ((d : Int) == 0) = false := t1
    have d0 : (d : Int) ≠ 0 := by omega
    have hq : (lo : Int) / (d : Int) = ((lo / d : Nat) : Int) := by rw [Int.natCast_ediv]
    have hm : (lo : Int) % (d : Int) = ((lo % d : Nat) : Int) := by rw [Int.natCast_emod]
    have hq1 : lo / d ≤ lo := Nat.div_le_self _ _
    have hm1 : lo % d ≤ lo := Nat.mod_le _ _
    rw [Nat.zero_mul, Nat.zero_add]
    obtain ⟨Q, hQ⟩ : ∃ Q, lo / d = Q := ⟨_, rfl⟩
    obtain ⟨R, hR⟩ : ∃ R, lo % d = R := ⟨_, rfl⟩
    rw [hQ] at hq hq1 ⊢
    rw [hR] at hm hm1 ⊢
    have f1 : IntKind.u64.wrap (Q : Int) = (Q : Int) := u64lo (by omega) (by omega)
    have f2 : IntKind.u64.wrap (R : Int) = (R : Int) := u64lo (by omega) (by omega)
    have f3 : (lo : Int).tdiv (d : Int) = (Q : Int) := by rw [Int.tdiv_eq_ediv_of_nonneg (by omega)]; exact hq
    have f4 : (lo : Int).tmod (d : Int) = (R : Int) := by rw [Int.tmod_eq_emod_of_nonneg (by omega)]; exact hm
    clear hQ hR hq1 hm1 y0 y1 s1 s63 h1 hU hlo hd HL
    go_enter Tryz.func137, Tryz.ntmps137
    go_wp2
    go_quiet (fail)
    go_wp2
    go_ret2
    exact ⟨rfl, _, rfl⟩
  · have t3 : ((hi : Int) == 0) = false := by rw [beq_eq_false_iff_ne]; omega
    obtain ⟨y, b, c, h2, l2, n32, n10, n1, n0, HP⟩ := parts hi lo d s hlo hU s1 s63 y0 y1
    have ey := HP.ey
    have eb := HP.eb
    have ec := HP.ec
    have eh := HP.eh
    have el := HP.el
    have eo := HP.eo
    have en := HP.en
    have e1 := HP.e1
    have e0 := HP.e0
    have b0 : ((b : Int) == 0) = false := by have := HP.b0; rw [beq_eq_false_iff_ne]; omega
    have b1 : (b : Int) ≠ 0 := by have := HP.b0; omega
    have hs64 : (s : Int) ≤ 63 := by omega
    have hb2 := HP.b0
    have HB := Lib.hid HP.b0
    have HB1 := Lib.hid HP.b1
    have HC1 := Lib.hid HP.c1
    have hb1' := HP.b1
    have hc1' := HP.c1
    obtain ⟨w1, w2, w3, w4⟩ := Div64.whole (by omega) HP.hy hU HP.hn HP.n11 HP.n01
    have hn1 := HP.n11
    have hn0 := HP.n01
    have hyy := HP.yy
    -- the first digit
    have k0 := Div64.KI.start HP.b0 HP.b1 HP.c1 HP.n11 (show n32 < b * 4294967296 + c by omega)
    have HV := Lib.hid HP.n11
    have HU : Hid (n32 < b * 4294967296 + c) := Lib.hid (by omega)
    obtain ⟨q, hq⟩ : ∃ q, n32 / b = q := ⟨_, rfl⟩
    obtain ⟨r, hr⟩ : ∃ r, n32 % b = r := ⟨_, rfl⟩
    rw [hq, hr] at k0
    have kk := k0.1
    have k3 := k0.2.2.1
    have f1 : (n32 : Int) / (b : Int) = (q : Int) := by rw [← hq, Int.natCast_ediv]
    have f2 : IntKind.u64.wrap (q : Int) = (q : Int) := u64lo (by omega) (by omega)
    obtain ⟨z, hz1⟩ : ∃ z, q * b = z := ⟨_, rfl⟩
    have f3 : (q : Int) * (b : Int) = (z : Int) := by rw [← hz1, Int.natCast_mul]
    rw [hz1] at kk
    have f4 : IntKind.u64.wrap (z : Int) = (z : Int) := u64lo (by omega) (by omega)
    have f5 : (n32 : Int) - (z : Int) = (r : Int) := by omega
    have f6 : IntKind.u64.wrap (r : Int) = (r : Int) := u64lo (by omega) (by omega)
    -- what the first digit leaves
    have HW2 := Lib.hid w2
    obtain ⟨u21, hu21⟩ : ∃ u, n32 * 4294967296 + n1 = u := ⟨_, rfl⟩
    have j1 : IntKind.u64.wrap ((n32 : Int) * 4294967296) = (n32 : Int) * 4294967296 := u64lo (by omega) (by omega)
    have j2 : (n32 : Int) * 4294967296 + (n1 : Int) = (u21 : Int) := by omega
    have j3 : IntKind.u64.wrap (u21 : Int) = (u21 : Int) := u64lo (by omega) (by omega)
    rw [hu21] at w1 w2 w3 w4
    have HU2 : Hid (u21 < b * 4294967296 + c) := Lib.hid w1
    have HV2 := Lib.hid HP.n01
    -- the second digit
    have m0 := Div64.KI.start HP.b0 HP.b1 HP.c1 HP.n01 w1
    obtain ⟨q2, hq2⟩ : ∃ q, u21 / b = q := ⟨_, rfl⟩
    obtain ⟨r2, hr2⟩ : ∃ r, u21 % b = r := ⟨_, rfl⟩
    rw [hq2, hr2] at m0
    have mm := m0.1
    have m3 := m0.2.2.1
    have i1 : (u21 : Int) / (b : Int) = (q2 : Int) := by rw [← hq2, Int.natCast_ediv]
    have i2 : IntKind.u64.wrap (q2 : Int) = (q2 : Int) := u64lo (by omega) (by omega)
    obtain ⟨z2, hz2⟩ : ∃ z, q2 * b = z := ⟨_, rfl⟩
    have i3 : (q2 : Int) * (b : Int) = (z2 : Int) := by rw [← hz2, Int.natCast_mul]
    rw [hz2] at mm
    have i4 : IntKind.u64.wrap (z2 : Int) = (z2 : Int) := u64lo (by omega) (by omega)
    have i5 : (u21 : Int) - (z2 : Int) = (r2 : Int) := by omega
    have i6 : IntKind.u64.wrap (r2 : Int) = (r2 : Int) := u64lo (by omega) (by omega)
    have K0 := Lib.hid k0
    have M0 := Lib.hid m0
    have HW3 := Lib.hid w3
    have HW4 := Lib.hid w4
    have HYY := Lib.hid hyy
    have HHY := Lib.hid HP.hy
    have n1u : n1 < 18446744073709551616 := by omega
    have n0u : n0 < 18446744073709551616 := by omega
    have HLOW : Hid (d < 9223372036854775808) := Lib.hid hd
    have HD1 : Hid (1 ≤ d) := Lib.hid (by omega)
    obtain ⟨U, hUU⟩ : ∃ U, hi * 18446744073709551616 + lo = U := ⟨_, rfl⟩
    rw [hUU] at HW3 HW4 w3 w4 ⊢
    obtain ⟨Q, hQ⟩ : ∃ Q, U / d = Q := ⟨_, rfl⟩
    obtain ⟨R, hR⟩ : ∃ R, U % d = R := ⟨_, rfl⟩
    rw [hQ] at HW3 w4 ⊢
    rw [hR] at w4 ⊢
    rw [← hyy] at w4
    have hQ32 : Q < 4294967296 := by rw [← hQ, Nat.div_lt_iff_lt_mul (by omega), Nat.mul_comm, ← hUU]; exact hU
    have hRd : R * 2 ^ s < y := by
      rw [hyy, ← HP.hy]
      exact (Nat.mul_lt_mul_right (Nat.pow_pos (by omega))).2 (by rw [← hR]; exact Nat.mod_lt _ (by omega))
    obtain ⟨V, hV⟩ : ∃ V, R * 2 ^ s = V := ⟨_, rfl⟩
    obtain ⟨Z, hZ⟩ : ∃ Z, Q * y = Z := ⟨_, rfl⟩
    rw [hV, hZ] at w4
    rw [hV] at hRd
    have x3 : (Q : Int) * (y : Int) = (Z : Int) := by rw [← hZ, Int.natCast_mul]
    obtain ⟨a1, ha1⟩ : ∃ z : Int, ((u21 : Int) * 4294967296) % 18446744073709551616 = z := ⟨_, rfl⟩
    obtain ⟨a2, ha2⟩ : ∃ z : Int, (a1 + (n0 : Int)) % 18446744073709551616 = z := ⟨_, rfl⟩
    obtain ⟨a3, ha3⟩ : ∃ z : Int, (Z : Int) % 18446744073709551616 = z := ⟨_, rfl⟩
    have x1 : IntKind.u64.wrap ((u21 : Int) * 4294967296) = a1 := by rw [IntKind.wrap_u64]; exact ha1
    have x2 : IntKind.u64.wrap (a1 + (n0 : Int)) = a2 := by rw [IntKind.wrap_u64]; exact ha2
    have x4 : IntKind.u64.wrap (Z : Int) = a3 := by rw [IntKind.wrap_u64]; exact ha3
    have x5 : IntKind.u64.wrap (a2 - a3) = (V : Int) := by rw [IntKind.wrap_u64]; omega
    have x6 : (V : Int) / 2 ^ s = (R : Int) := by
      have : (V : Int) = (R : Int) * 2 ^ s := by rw [← hV, Int.natCast_mul, Int.natCast_pow]; rfl
      rw [this, Int.mul_ediv_cancel]
      exact Int.ne_of_gt (Int.pow_pos (by omega))
    have x7 : IntKind.u64.wrap (Q : Int) = (Q : Int) := u64lo (by omega) (by omega)
    clear HP hlo hd hU h1 hhi s1 s63 y0 y1 hz k0 kk k3 hq hr hz1 w1 w2 w3 w4 hu21 m0 mm m3 hq2 hr2 hz2 hyy hUU hb2 hQ hR hQ32 hRd hV hZ ha1 ha2 ha3
    go_enter Tryz.func137, Tryz.ntmps137
    go_upto_block 0 with (first
      | (go_at_call 143; (with_reducible refine (HL.out _).mono ?_); rintro e _ ⟨rfl, rfl⟩))
    go_cut [15, 16] from 67 to 85 (fun vq vr wx => vq = .int .u64 0 ∧ w = wx)
    case first =>
      go_wp2_with fail
      go_loop [15, 16] (fun vq vr => ∃ q r : Nat, vq = .int .u64 (q : Int) ∧ vr = .int .u64 (r : Int) ∧ Hid (KI b c n32 n1 q r)) (fun vq _ => (intOf vq).toNat)
      case atStart => exact ⟨_, _, rfl, rfl, K0⟩
      case round =>
        obtain ⟨q, r, rfl, rfl, hk⟩ := hrel
        obtain ⟨k1, k2, k3, k4⟩ := hk.out
        have hqc : q * c ≤ 4294967297 * 4294967295 := Nat.mul_le_mul k3 (by omega)
        obtain ⟨P, hP⟩ : ∃ P, q * c = P := ⟨_, rfl⟩
        have ht := hk.out.test HB.out
        rw [hP] at hqc ht
        have f1 : (q : Int) * (c : Int) = (P : Int) := by rw [← hP, Int.natCast_mul]
        have f2 : IntKind.u64.wrap (P : Int) = (P : Int) := u64lo (by omega) (by omega)
        have f3 : IntKind.u64.wrap (4294967296 * (r : Int)) = 4294967296 * (r : Int) := u64lo (by omega) (by omega)
        have f4 : IntKind.u64.wrap (4294967296 * (r : Int) + (n1 : Int)) = 4294967296 * (r : Int) + (n1 : Int) := u64lo (by omega) (by omega)
        have hnx := fun h => KI.next HB.out HB1.out HC1.out HV.out HU.out hk.out h
        rw [hP] at hnx
        by_cases hc : 4294967296 ≤ q ∨ r * 4294967296 + n1 < P
        · obtain ⟨p, rfl, hn1, hn2⟩ := hnx hc
          have g1 : ((p + 1 : Nat) : Int) - 1 = (p : Int) := by omega
          have g2 : IntKind.u64.wrap (p : Int) = (p : Int) := u64lo (by omega) (by omega)
          have g3 : (r : Int) + (b : Int) = ((r + b : Nat) : Int) := by omega
          have g4 : IntKind.u64.wrap ((r + b : Nat) : Int) = ((r + b : Nat) : Int) := u64lo (by omega) (by have := HB1.out; omega)
          have hor : (4294967296 : Int) ≤ ((p + 1 : Nat) : Int) ∨ (¬ (4294967296 : Int) ≤ ((p + 1 : Nat) : Int) ∧ 4294967296 * (r : Int) + (n1 : Int) < (P : Int)) := by omega
          obtain ⟨rb, hrb⟩ : ∃ z, r + b = z := ⟨_, rfl⟩
          obtain ⟨pz, hpz⟩ : ∃ z : Int, ((p + 1 : Nat) : Int) = z := ⟨_, rfl⟩
          rw [hrb] at hn1 hn2 g3 g4
          have HM : Hid ((p : Int).toNat < pz.toNat) := Lib.hid (by omega)
          rw [hpz] at g1 f1 hor ⊢
          by_cases hr : rb < 4294967296
          · have HK := Lib.hid (hn1 hr)
            have hrr : ¬ (4294967296 : Int) ≤ (rb : Int) := by omega
            clear k1 k2 k3 k4 hqc ht hnx hn1 hn2 hc hP hk hr hrb hpz
            rcases hor with h | ⟨h, h'⟩
            all_goals
              go_wp2_with fail
              go_round
              case rel => exact ⟨p, rb, rfl, rfl, HK⟩
              case measure => exact HM.out
          · have HK := Lib.hid (hn2 (by omega))
            have hrr : (4294967296 : Int) ≤ (rb : Int) := by omega
            clear k1 k2 k3 k4 hqc ht hnx hn1 hn2 hc hP hk hr hrb hpz
            rcases hor with h | ⟨h, h'⟩
            all_goals
              go_wp2_with fail
              (go_meet; exact ⟨by rw [HK.out, HW2.out]; rfl, rfl⟩)
        · have HK : Hid (q = (n32 * 4294967296 + n1) / (b * 4294967296 + c)) := Lib.hid (hk.out.done HB.out (by rw [hP]; omega))
          have h1 : ¬ (4294967296 : Int) ≤ (q : Int) := by omega
          have h2 : ¬ 4294967296 * (r : Int) + (n1 : Int) < (P : Int) := by omega
          clear k1 k2 k3 k4 hqc ht hnx hc hP hk
          go_wp2_with fail
          (go_meet; exact ⟨by rw [HK.out, HW2.out]; rfl, rfl⟩)
    case rest =>
      obtain ⟨rfl, rfl⟩ := hcut
      clear HW2 HU HV K0
      go_upto_block 2 with fail
      go_cut [18, 16] from 102 to 120 (fun vq vr wx => vq = .int .u64 (Q : Int) ∧ w = wx)
      case first =>
        go_wp2_with fail
        go_loop [18, 16] (fun vq vr => ∃ q r : Nat, vq = .int .u64 (q : Int) ∧ vr = .int .u64 (r : Int) ∧ Hid (KI b c u21 n0 q r)) (fun vq _ => (intOf vq).toNat)
        case atStart => exact ⟨_, _, rfl, rfl, M0⟩
        case round =>
          obtain ⟨q, r, rfl, rfl, hk⟩ := hrel
          obtain ⟨k1, k2, k3, k4⟩ := hk.out
          have hqc : q * c ≤ 4294967297 * 4294967295 := Nat.mul_le_mul k3 (by omega)
          obtain ⟨P, hP⟩ : ∃ P, q * c = P := ⟨_, rfl⟩
          have ht := hk.out.test HB.out
          rw [hP] at hqc ht
          have f1 : (q : Int) * (c : Int) = (P : Int) := by rw [← hP, Int.natCast_mul]
          have f2 : IntKind.u64.wrap (P : Int) = (P : Int) := u64lo (by omega) (by omega)
          have f3 : IntKind.u64.wrap (4294967296 * (r : Int)) = 4294967296 * (r : Int) := u64lo (by omega) (by omega)
          have f4 : IntKind.u64.wrap (4294967296 * (r : Int) + (n0 : Int)) = 4294967296 * (r : Int) + (n0 : Int) := u64lo (by omega) (by omega)
          have hnx := fun h => KI.next HB.out HB1.out HC1.out HV2.out HU2.out hk.out h
          rw [hP] at hnx
          by_cases hc : 4294967296 ≤ q ∨ r * 4294967296 + n0 < P
          · obtain ⟨p, rfl, hn1, hn2⟩ := hnx hc
            have g1 : ((p + 1 : Nat) : Int) - 1 = (p : Int) := by omega
            have g2 : IntKind.u64.wrap (p : Int) = (p : Int) := u64lo (by omega) (by omega)
            have g3 : (r : Int) + (b : Int) = ((r + b : Nat) : Int) := by omega
            have g4 : IntKind.u64.wrap ((r + b : Nat) : Int) = ((r + b : Nat) : Int) := u64lo (by omega) (by have := HB1.out; omega)
            have hor : (4294967296 : Int) ≤ ((p + 1 : Nat) : Int) ∨ (¬ (4294967296 : Int) ≤ ((p + 1 : Nat) : Int) ∧ 4294967296 * (r : Int) + (n0 : Int) < (P : Int)) := by omega
            obtain ⟨rb, hrb⟩ : ∃ z, r + b = z := ⟨_, rfl⟩
            obtain ⟨pz, hpz⟩ : ∃ z : Int, ((p + 1 : Nat) : Int) = z := ⟨_, rfl⟩
            rw [hrb] at hn1 hn2 g3 g4
            have HM : Hid ((p : Int).toNat < pz.toNat) := Lib.hid (by omega)
            rw [hpz] at g1 f1 hor ⊢
            by_cases hr : rb < 4294967296
            · have HK := Lib.hid (hn1 hr)
              have hrr : ¬ (4294967296 : Int) ≤ (rb : Int) := by omega
              clear k1 k2 k3 k4 hqc ht hnx hn1 hn2 hc hP hk hr hrb hpz
              rcases hor with h | ⟨h, h'⟩
              all_goals
                go_wp2_with fail
                go_round
                case rel => exact ⟨p, rb, rfl, rfl, HK⟩
                case measure => exact HM.out
            · have HK := Lib.hid (hn2 (by omega))
              have hrr : (4294967296 : Int) ≤ (rb : Int) := by omega
              clear k1 k2 k3 k4 hqc ht hnx hn1 hn2 hc hP hk hr hrb hpz
              rcases hor with h | ⟨h, h'⟩
              all_goals
                go_wp2_with fail
                (go_meet; exact ⟨by rw [HK.out, HW3.out], rfl⟩)
          · have HK : Hid (q = (u21 * 4294967296 + n0) / (b * 4294967296 + c)) := Lib.hid (hk.out.done HB.out (by rw [hP]; omega))
            have h1 : ¬ (4294967296 : Int) ≤ (q : Int) := by omega
            have h2 : ¬ 4294967296 * (r : Int) + (n0 : Int) < (P : Int) := by omega
            clear k1 k2 k3 k4 hqc ht hnx hc hP hk
            go_wp2_with fail
            (go_meet; exact ⟨by rw [HK.out, HW3.out], rfl⟩)
      case rest =>
        obtain ⟨rfl, rfl⟩ := hcut
        go_wp2_with fail
        go_ret2
        exact ⟨rfl, 0, rfl⟩
end
section
open Go.ChangeShapes Go.WideShapes Go.ChangeAt Go.RowKit
set_option maxHeartbeats 4000000 in
theorem q10two_c (k : Int) (k0 : -9223372036854775808 ≤ k) (k1 : k < 9223372036854775808) (w : World) : Calls Tryz.prog 99 #[.int .i64 k] w (RetNE w (twoR k)) := by
  by_cases hok : 0 ≤ k ∧ k ≤ 8191
  · obtain ⟨h0, h1⟩ := hok
    obtain ⟨m, rfl⟩ := Int.eq_ofNat_of_zero_le h0
    have e1 : twoR (m : Int) = (0, natL (2 ^ m)) := by unfold twoR; rw [if_pos ⟨h0, h1⟩, Int.toNat_natCast]
    rw [e1, ← two_limbs]
    obtain ⟨i0, hi0, hz0, hz1, hzb⟩ := info_parts info_u32d
    obtain ⟨q, hq⟩ : ∃ q, m / 32 = q := ⟨_, rfl⟩
    obtain ⟨r, hr⟩ : ∃ q, m % 32 = q := ⟨_, rfl⟩
    have hdiv : (m : Int) / 32 = (q : Int) := by omega
    have hmod : (m : Int) % 32 = (r : Int) := by omega
    have hdt : (m : Int).tdiv 32 = (q : Int) := by rw [Int.tdiv_eq_ediv_of_nonneg (by omega)]; exact hdiv
    have hmt : (m : Int).tmod 32 = (r : Int) := by rw [Int.tmod_eq_emod_of_nonneg (by omega)]; exact hmod
    have hr32 : r ≤ 31 := by omega
    have hrs := rep_set q ((2 ^ r : Nat) : Int)
    rw [hq, hr]
    have hp := pow_two_le hr32
    have hpi : (2 : Int) ^ r = ((2 ^ r : Nat) : Int) := by rw [Int.natCast_pow]; rfl
    obtain ⟨P, hP⟩ : ∃ P, 2 ^ r = P := ⟨_, rfl⟩
    rw [hP] at hp hpi hrs ⊢
    have hw1 : IntKind.u32.wrap (P : Int) = (P : Int) := by rw [IntKind.wrap_u32]; omega
    have hmk : ∀ W, (Instr.makeSlice 45 (.int .i64 ((q : Int) + 1)) (.int .i64 ((q : Int) + 1))).run Tryz.prog W = .ok (.slice (some ⟨W.heap.size, 0, none⟩) (q + 1) (q + 1)) (W.alloc (.cells (intsA .u32 (List.replicate (q + 1) 0)) 89)) := fun W => run_make_ints (P := Tryz.prog) 45 89 i0 .u32 Tryz.underlying45 hi0 hz0 hz1 .i64 .i64 (q + 1) (by rw [hzb]; omega) (by omega) W
    have HS0 : Hid (NatS w w.heap.size (List.replicate (q + 1) 0) (w.alloc (.cells (intsA .u32 (List.replicate (q + 1) 0)) 89))) := Lib.hid ⟨Blk.new _ _ _, Nat.le_refl _, (Below.refl _ _).alloc (Nat.le_refl _) _⟩
    have HRS := Lib.hid hrs
    have hq2 : (q : Int) ≤ 255 := by omega
    have HQM : Hid (q + 1 ≤ maxLen) := Lib.hid (by unfold maxLen; omega)
    have HJS : Hid (q < (intsA .u32 (List.replicate (q + 1) 0)).size) := Lib.hid (by rw [intsA_size, List.length_replicate]; omega)
    obtain ⟨R, hR⟩ : ∃ R, List.replicate q 0 ++ [(P : Int)] = R := ⟨_, rfl⟩
    have hRl : R.length = q + 1 := by rw [← hR]; simp
    have HRL := Lib.hid hRl
    rw [hR] at HRS ⊢
    have hm8 : (m : Int) ≤ 8191 := h1
    have hm0 : ¬ (m : Int) < 0 := by omega
    have hqq : (q : Int) < (q : Int) + 1 := by omega
    clear hq hr hrs hi0 hz0 hz1 hzb e1 hR hRl k0 k1 h0 hP hp
    go_enter Tryz.func99, Tryz.ntmps99
    go_upto_region 4 with fail
    clear hmk
    obtain ⟨g, hg⟩ : ∃ g, w.heap.size = g := ⟨_, rfl⟩
    have HS1 : Hid (NatS w g (List.replicate (q + 1) 0) (w.alloc (.cells (intsA .u32 (List.replicate (q + 1) 0)) 89))) := by rw [← hg]; exact HS0
    rw [hg]
    clear hg HS0
    obtain ⟨w1, hw1⟩ : ∃ w1, w.alloc (.cells (intsA .u32 (List.replicate (q + 1) 0)) 89) = w1 := ⟨_, rfl⟩
    rw [hw1] at HS1
    rw [hw1]
    clear hw1
    go_wp2_with (first
      | (with_reducible refine at_any ?_; refine at_store 21 rfl ?_; refine wpList_store_cell rfl 89 (.tmp 21) (.tmp 20) rfl g q rfl 89 (intsA .u32 (List.replicate (q + 1) 0)) (NatS.blk HS1.out) (.int .u32 (P : Int)) rfl HJS.out size_u32s rfl rfl ?_; intro w90 hk90 ho90; have HF9 := Lib.hid (NatS.set HS1.out hk90.out ho90); clear hk90 ho90))
    go_ret2
    have hf := HF9.out
    rw [HRS.out] at hf
    have hrd := hf.rd
    rw [HRL.out] at hrd
    exact ⟨some ⟨g, 0, none⟩, q + 1, ret_sliceE HRL.out.symm, by rw [HRL.out]; exact Nat.le_refl _, HQM.out, by rw [HRL.out]; exact hrd, hf.bel⟩
  · have e1 : twoR k = (1, []) := if_neg hok
    rw [e1]
    have h2 : k < 0 ∨ (¬ k < 0 ∧ 8192 ≤ k) := by omega
    clear hok e1
    rcases h2 with h | ⟨h, h'⟩
    all_goals
      go_enter Tryz.func99, Tryz.ntmps99
      go_wp2
      go_ret2
      exact RetNE.nil 1 (Below.refl _ _)
theorem limb_split {left hi l2 xn : Nat} (h1 : left / 4294967296 = hi) (h2 : left % 4294967296 * 4294967296 = l2) : hi * 18446744073709551616 + (l2 + xn) = left * 4294967296 + xn := by
  subst h1 h2
  omega
theorem limb_lt {left dn xn : Nat} (h : left < dn) (hx : xn < 4294967296) : left * 4294967296 + xn < dn * 4294967296 := by omega
theorem limb_or {u xn lo : Nat} (hx : xn < 4294967296) (h : u * 4294967296 + xn = lo) : u * 4294967296 ||| xn = lo := by
  rw [← h, show 4294967296 = 2 ^ 32 from rfl, Nat.mul_comm, Nat.two_pow_add_eq_or_of_lt hx]
theorem div_limb {q r left x d Q0 X0 : Nat} (h : q * d + r = left * 4294967296 + x) (h0 : Q0 * d + left = X0) : (q + 4294967296 * Q0) * d + r = x + 4294967296 * X0 := by
  subst h0
  rw [Nat.add_mul, Nat.mul_assoc, Nat.mul_add]
  generalize Q0 * d = u at *
  generalize q * d = v at *
  omega
set_option maxHeartbeats 8000000 in
theorem q10div_c (xs : List Int) (hx : Lim xs) (A : Option Addr) (n c : Nat) (hn : n ≤ maxLen) (d : Int) (d0 : 0 ≤ d) (d1 : d < 18446744073709551616) (w : World) (hra : Rd .u32 w w.heap.size A n xs) : Calls Tryz.prog 126 #[.slice A n c, .int .u64 d] w (RetND w (natL (divV xs d)) (divL xs d) (divE xs d)) := by
  have hr1 := fun W h => q10right_c xs A n c hn W h
  have HRA := Lib.hid hra
  have hla := hra.len
  by_cases hok : rightN xs = true ∧ 1 ≤ d ∧ d < 9223372036854775808
  · have e1 : divV xs d = valL xs / d.toNat := if_pos hok
    have e2 : divL xs d = valL xs % d.toNat := if_pos hok
    have e3 : divE xs d = 0 := if_pos hok
    obtain ⟨h1, h2, h3⟩ := hok
    rw [e1, e2, e3]
    rw [h1] at hr1
    have HR1 := Lib.hid hr1
    have hn256 : n ≤ 256 := by rw [← hla]; exact rightN_len h1
    obtain ⟨dn, hdn⟩ : ∃ dn, d.toNat = dn := ⟨_, rfl⟩
    have hdI : (dn : Int) = d := by omega
    have HDI := Lib.hid hdI
    rw [hdn]
    obtain ⟨i0, hi0, hz0, hz1, hzb⟩ := info_parts info_u32d
    have hmk : ∀ W, (Instr.makeSlice 45 (.int .i64 (n : Int)) (.int .i64 (n : Int))).run Tryz.prog W = .ok (.slice (some ⟨W.heap.size, 0, none⟩) n n) (W.alloc (.cells (intsA .u32 (List.replicate n 0)) 89)) := fun W => run_make_ints (P := Tryz.prog) 45 89 i0 .u32 Tryz.underlying45 hi0 hz0 hz1 .i64 .i64 n (by rw [hzb]; omega) (by omega) W
    have HS0 : Hid (NatS w w.heap.size (List.replicate n 0) (w.alloc (.cells (intsA .u32 (List.replicate n 0)) 89))) := Lib.hid ⟨Blk.new _ _ _, Nat.le_refl _, (Below.refl _ _).alloc (Nat.le_refl _) _⟩
    have HXG := Lib.hid (fun i => hx.getD i)
    have HXD := Lib.hid (fun i => valL_drop_getD xs i)
    have hst : valL ((List.replicate n 0).drop n) * dn + 0 = valL (xs.drop n) := by
      rw [List.drop_eq_nil_of_le (by simp), List.drop_eq_nil_of_le (by omega)]
      show 0 * dn + 0 = 0
      omega
    have HST := Lib.hid hst
    have hnI : (n : Int) ≤ 256 := by omega
    have hd1 : 1 ≤ dn := by omega
    have hd63 : dn < 9223372036854775808 := by omega
    have HD1 := Lib.hid hd1
    have HD63 := Lib.hid hd63
    have td : (d == 0) = false := by rw [beq_eq_false_iff_ne]; omega
    clear hr1 hra hx e1 e2 e3 h1 hn hst hla d0 d1 hi0 hz0 hz1 hzb hd1 hd63 h2 hdn hdI
    go_enter Tryz.func126, Tryz.ntmps126
    go_wp2_with (first
      | (go_at_call 84; (with_reducible refine (HR1.out _ HRA.out).mono ?_); rintro e _ ⟨rfl, rfl⟩))
    clear hmk
    obtain ⟨g, hg⟩ : ∃ g, w.heap.size = g := ⟨_, rfl⟩
    have HS1 : Hid (NatS w g (List.replicate n 0) (w.alloc (.cells (intsA .u32 (List.replicate n 0)) 89))) := by rw [← hg]; exact HS0
    rw [hg]
    clear hg HS0
    obtain ⟨w1, hw1⟩ : ∃ w1, w.alloc (.cells (intsA .u32 (List.replicate n 0)) 89) = w1 := ⟨_, rfl⟩
    rw [hw1] at HS1
    rw [hw1]
    clear hw1
    go_loopw [8, 9] (fun lf ii wr => ∃ (j left : Nat) (out : List Int), j ≤ n ∧ lf = .int .u64 (left : Int) ∧ ii = .int .i64 ((j : Int) - 1) ∧ out.length = n ∧ Lim out ∧ left < dn ∧ valL (out.drop j) * dn + left = valL (xs.drop j) ∧ NatS w g out wr) (fun _ ii _ => (intOf ii + 1).toNat)
    case atStart => exact ⟨n, 0, _, Nat.le_refl _, rfl, by go_num, List.length_replicate, Lim.rep _, HD1.out, HST.out, HS1.out⟩
    case round =>
      clear HST HS1
      obtain ⟨j, left, out, hj, rfl, rfl, hol, hlo, hlt, hval, hns⟩ := hrel
      rcases j with _ | m
      · rw [List.drop_zero, List.drop_zero] at hval
        obtain ⟨hq, hl⟩ := div_end hval hlt
        have hrd7 := hns.rd
        have htr := q10trim_c out (some ⟨g, 0, none⟩) out.length n (by unfold maxLen; omega) (by omega) wr hrd7
        have hrt := rd_trim hrd7
        have htl := trimL_len out
        rw [trimL_eq hlo, hq] at htr hrt htl
        rw [hol] at htr htl
        have HTR := Lib.hid htr
        have HRT := Lib.hid hrt
        have HTL := Lib.hid htl
        have HBL := Lib.hid hns.bel
        have HML : Hid (n ≤ maxLen) := Lib.hid (by unfold maxLen; omega)
        have HLL := Lib.hid hl
        clear htr hrt htl hrd7 hval hlo hol hns hq hl hlt
        rw [show ((0 : Nat) : Int) - 1 = -1 from rfl]
        go_wp2_with (first
          | (go_at_call 87; (with_reducible refine HTR.out.mono ?_); rintro e _ ⟨rfl, rfl⟩))
        go_returns
        rw [← HLL.out]
        exact ⟨_, _, rfl, HTL.out, HML.out, HRT.out, HBL.out⟩
      · have hmn : m < n := by omega
        rw [show ((m + 1 : Nat) : Int) - 1 = (m : Int) by omega]
        obtain ⟨b, off, rfl, hblt, hxc⟩ := (HRA.out.below hns.bel).at_ (by omega)
        have hxci := hxc m hmn
        have hxi := HXG.out m
        have hxd := HXD.out m
        obtain ⟨x, hxx⟩ : ∃ x, xs.getD m 0 = x := ⟨_, rfl⟩
        rw [hxx] at hxi hxci hxd
        obtain ⟨xn, rfl⟩ := Int.eq_ofNat_of_zero_le hxi.1
        rw [Int.toNat_natCast] at hxd
        obtain ⟨hi, hhi⟩ : ∃ z, left / 4294967296 = z := ⟨_, rfl⟩
        obtain ⟨l2, hl2⟩ : ∃ z, left % 4294967296 * 4294967296 = z := ⟨_, rfl⟩
        have hU : hi * 18446744073709551616 + (l2 + xn) = left * 4294967296 + xn := limb_split hhi hl2
        have hxn : xn < 4294967296 := by omega
        have hlo64' : l2 + xn < 18446744073709551616 := by omega
        have hdv := fun W => q10div64_c hi (l2 + xn) dn hlo64' HD63.out (Nat.lt_of_le_of_lt (Nat.le_of_eq hU) (limb_lt hlt hxn)) W
        rw [hU] at hdv
        have hqb : (left * 4294967296 + xn) / dn < 4294967296 := by rw [Nat.div_lt_iff_lt_mul (by omega), Nat.mul_comm]; omega
        have hrb : (left * 4294967296 + xn) % dn < dn := Nat.mod_lt _ (by omega)
        have hqr : (left * 4294967296 + xn) / dn * dn + (left * 4294967296 + xn) % dn = left * 4294967296 + xn := by rw [Nat.mul_comm]; exact Nat.div_add_mod _ _
        obtain ⟨q, hq⟩ : ∃ z, (left * 4294967296 + xn) / dn = z := ⟨_, rfl⟩
        obtain ⟨r, hr⟩ : ∃ z, (left * 4294967296 + xn) % dn = z := ⟨_, rfl⟩
        rw [hq] at hdv hqb hqr
        rw [hr] at hdv hrb hqr
        obtain ⟨lo, hlw⟩ : ∃ z, l2 + xn = z := ⟨_, rfl⟩
        rw [hlw, HDI.out] at hdv
        have HDV := Lib.hid hdv
        have f1 : (left : Int) / 4294967296 = (hi : Int) := by omega
        have f2 : IntKind.u64.wrap ((left : Int) * 4294967296) = (l2 : Int) := by rw [IntKind.wrap_u64]; omega
        have f3 : IntKind.u64.wrap (xn : Int) = (xn : Int) := by rw [IntKind.wrap_u64]; omega
        have hor : l2 ||| xn = lo := by rw [← hl2]; exact limb_or (by omega) (by rw [hl2]; exact hlw)
        have f4 : bits .or .u64 (l2 : Int) (xn : Int) = (lo : Int) := by rw [bits_or_u64_nat _ _ (by omega) (by omega), hor]
        have f5 : IntKind.u32.wrap (q : Int) = (q : Int) := by rw [IntKind.wrap_u32]; omega
        have f6 : (q : Int) < 4294967296 := by omega
        have hset : valL ((out.set m (q : Int)).drop m) = q + 4294967296 * valL (out.drop (m + 1)) := by
          rw [valL_drop_getD, set_getD _ (by omega), set_drop, Int.toNat_natCast]
        have HV2 : Hid (valL ((out.set m (q : Int)).drop m) * dn + r = valL (xs.drop m)) := Lib.hid (by rw [hset, hxd]; exact div_limb hqr hval)
        have HLM := Lib.hid (hlo.set m (x := (q : Int)) ⟨by omega, f6⟩)
        have HLN : Hid ((out.set m (q : Int)).length = n) := Lib.hid (by rw [List.length_set]; exact hol)
        have HRB := Lib.hid hrb
        have HMN : Hid (m ≤ n) := Lib.hid (by omega)
        have hm0 : (m : Int) < (n : Int) := by omega
        have HJS := Lib.hid (nat_lt (out := out) (j := m) (by omega))
        have HNS := Lib.hid hns
        have hl63 : (left : Int) < 9223372036854775808 := by have := HD63.out; omega
        have hlo64 : (lo : Int) < 18446744073709551616 := by omega
        clear hol hlo hlt hval hns hxi hxd hxx hxc hj hhi hl2 hU hdv hqb hrb hqr hq hr hlw hor hset hblt hmn hxn hlo64'
        go_wp2_with (first
          | (go_at_call 137; (with_reducible refine (HDV.out _).mono ?_); rintro e w8 ⟨rfl, nq, rfl⟩; have HN8 := Lib.hid (NatS.drewN HNS.out nq))
          | (with_reducible refine at_any ?_; refine at_store 53 rfl ?_; refine wpList_store_cell rfl 89 (.tmp 53) (.tmp 51) rfl g m rfl 89 (intsA .u32 out) (NatS.blk HN8.out) (.int .u32 (q : Int)) rfl HJS.out size_u32s rfl rfl ?_; intro w90 hk90 ho90; have HF9 := Lib.hid (NatS.set HN8.out hk90.out ho90); clear hk90 ho90))
        go_roundw
        case rel => exact ⟨m, r, _, HMN.out, rfl, by go_num, HLN.out, HLM.out, HRB.out, HV2.out, HF9.out⟩
        case measure => simp [intOf]
  · have e1 : divV xs d = 0 := if_neg hok
    have e2 : divL xs d = 0 := if_neg hok
    have e3 : divE xs d = 1 := if_neg hok
    rw [e1, e2, e3, natL_zero]
    have h2 : rightN xs = false ∨ (rightN xs = true ∧ d = 0) ∨ (rightN xs = true ∧ d ≠ 0 ∧ 9223372036854775808 ≤ d) := by
      cases h : rightN xs
      · exact .inl rfl
      · rw [h] at hok
        by_cases h3 : d = 0
        · exact .inr (.inl ⟨rfl, h3⟩)
        · by_cases h4 : 9223372036854775808 ≤ d
          · exact .inr (.inr ⟨rfl, h3, h4⟩)
          · exact absurd ⟨rfl, by omega, by omega⟩ hok
    clear hok e1 e2 e3 hra hx hn
    rcases h2 with h | ⟨h, h'⟩ | ⟨h, h', h''⟩
    · rw [h] at hr1
      have HR1 := Lib.hid hr1
      clear hr1 h
      go_enter Tryz.func126, Tryz.ntmps126
      go_wp2_with (first
        | (go_at_call 84; (with_reducible refine (HR1.out _ HRA.out).mono ?_); rintro e _ ⟨rfl, rfl⟩))
      go_returns
      exact RetND.nil 1 (Below.refl _ _)
    · rw [h] at hr1
      have HR1 := Lib.hid hr1
      subst h'
      clear hr1 h
      go_enter Tryz.func126, Tryz.ntmps126
      go_wp2_with (first
        | (go_at_call 84; (with_reducible refine (HR1.out _ HRA.out).mono ?_); rintro e _ ⟨rfl, rfl⟩))
      go_returns
      exact RetND.nil 1 (Below.refl _ _)
    · rw [h] at hr1
      have HR1 := Lib.hid hr1
      have tz : (d == 0) = false := by rw [beq_eq_false_iff_ne]; exact h'
      clear hr1 h h'
      go_enter Tryz.func126, Tryz.ntmps126
      go_wp2_with (first
        | (go_at_call 84; (with_reducible refine (HR1.out _ HRA.out).mono ?_); rintro e _ ⟨rfl, rfl⟩))
      go_returns
      exact RetND.nil 1 (Below.refl _ _)
end
section
open Go.ChangeShapes Go.WideShapes Go.ChangeAt Go.RowKit
def q10AnyN (_ : World) : Prop := True
theorem mul1_c (k : Nat) (h : k ≤ 64) (w : World) : Calls Tryz.prog 108 #[.int .u64 1, .int .u64 (k : Int)] w fun e w' => e = .returned (.tuple #[.int .u64 0, .int .u64 (k : Int)]) ∧ w = w' := by
  have h1 := Any.bits_Mul lays212 1 k (by omega) (by omega) w
  rw [Nat.one_mul, Nat.div_eq_of_lt (by omega), Nat.mod_eq_of_lt (by omega)] at h1
  exact h1.mono fun e w' h => ⟨h.1, h.2.symm⟩
section
variable {P : Program} {ops : Array Oper} {Q : Exit → Act → World → Prop} {a : Act} {w : World} {o : Oper}
theorem step_copy {K : Act → World → Prop} {E : Prop} (d : Option Tmp) (hd : o.dst = d) (hw : Region.wanted o (yielded ops a.tmps) = true) (x y : Operand) (t t' : TypeId)
    (ho : o.op = .call { callee := .builtin .copy, args := #[x, y], argTypes := #[t, t'] }) (v u : Value) (hx : a.eval x = v) (hy : a.eval y = u) {v' : Value} {w' : World}
    (hr : (Builtin.copy_ #[t, t'] o.type #[v, u]).run P w = .ok v' w') (h : K (a.put d v') w') :
    if Region.wanted o (yielded ops a.tmps) = true then Oper.wp P o a w K Q else E := by
  subst hd
  rw [if_pos hw]
  exact Lib.wp_copy_run w x y t t' ho v u hx hy hr h
end
def rowK (v z : Value) (n k : Nat) : Array Value := (List.replicate n v ++ List.replicate (k - n) z).toArray
theorem rowK_at {v z : Value} {n k j : Nat} (h : j < n) : (rowK v z n k)[j]? = some v := by
  simp [rowK, List.getElem?_append, h]
theorem rowK_splice {v z : Value} {n m k : Nat} (h : n + m ≤ k) : (List.take n (rowK v z n k).toList ++ List.replicate m v ++ List.drop (n + m) (rowK v z n k).toList).toArray = rowK v z (n + m) k := by
  unfold rowK
  congr 1
  rw [List.take_append_of_le_length (by simp), List.take_of_length_le (by simp), List.drop_append, List.drop_of_length_le (by simp)]
  simp only [List.length_replicate, List.drop_replicate, List.nil_append]
  rw [List.replicate_append_replicate]
  congr 2
  omega
theorem rowK_full {v z : Value} {k : Nat} : rowK v z k k = (List.replicate k v).toArray := by simp [rowK]
theorem info_natS : (Tryz.prog.info? 45).map (·.size) = some 1 := by kernel_rfl
theorem run_rep {w : World} {g n m k : Nat} {v z : Value} (hv : v.oneCell' = true) (hb : Blk w g 45 (rowK v z n k)) (hk : n ≤ k) (dLen dCap : Nat) (a : Addr) (sLen sCap : Nat) (hm : m = min sLen dLen) (hd : n + m ≤ k) (hs : ∀ j, j < m → w.cell? (a.add j) = some v) (ty : TypeId) :
    ∃ w', (Builtin.copy_ #[132, 132] ty #[.slice (some ⟨g, n, none⟩) dLen dCap, .slice (some a) sLen sCap]).run Tryz.prog w = .ok (.int .i64 (m : Int)) w' ∧ Blk w' g 45 (rowK v z (n + m) k) ∧ (∀ B, B ≤ g → Below B w w') := by
  have hl : (rowK v z n k).size = k := by simp [rowK]; omega
  have h := Go.run_copy_row (P := Tryz.prog) w 132 132 ty 45 g n dLen dCap a sLen sCap (rowK v z n k) 45 (List.replicate m v) Tryz.underlying132 info_natS hb (by rw [List.length_replicate]; exact hm) (fun j u hj => by
    have hjl : j < m := by
      rcases Nat.lt_or_ge j m with h5 | h5
      · exact h5
      · rw [List.getElem?_eq_none (by simpa using h5)] at hj; cases hj
    rw [List.getElem?_replicate, if_pos hjl] at hj
    rw [← hj]
    exact hs j hjl) (by rw [List.length_replicate, hl]; exact hd) (fun u hu => by rw [List.eq_of_mem_replicate hu]; exact hv)
  rw [List.length_replicate, rowK_splice hd] at h
  exact ⟨_, h, setRow_heap w g _ _ _ _ hb, fun B hB => below_setRow (Below.refl _ _) hB _⟩
theorem run_make_nats (k : Nat) (hk : k ≤ 64) (W : World) : (Instr.makeSlice 132 (.int .i64 (k : Int)) (.int .i64 (k : Int))).run Tryz.prog W = .ok (.slice (some ⟨W.heap.size, 0, none⟩) k k) (W.alloc (.cells (rowK (.slice none 0 0) (.slice none 0 0) 0 k) 45)) := by
  obtain ⟨i, hi, hz, hs, hb⟩ := info_parts info_nat
  have hr := run_make (P := Tryz.prog) W 132 45 i _ Tryz.underlying132 hi hz .i64 .i64 k k (by omega) (by omega) (by rw [hb]; omega) (by omega)
  simp only [Int.toNat_natCast, hs, Nat.mul_one] at hr
  rw [hr, show madeCells (Value.slice none 0 0).cells k = rowK (.slice none 0 0) (.slice none 0 0) 0 k from ?_]
  have h1 := madeCells_same (.slice none 0 0) 1 k (by omega)
  simpa [rowK, Value.cells] using h1
theorem rowK_none {v z : Value} {k : Nat} : rowK v z 0 k = rowK z z 0 k := by simp [rowK]
set_option maxHeartbeats 4000000 in
theorem repeat_c (v : Value) (hv : v.oneCell' = true) (b0 o0 cx : Nat) (k : Nat) (hk : k ≤ 64) (w : World) (hlt : b0 < w.heap.size) (hx : w.cell? ⟨b0, o0, none⟩ = some v) : Calls Tryz.prog 86 #[.slice (some ⟨b0, o0, none⟩) 1 cx, .int .i64 (k : Int)] w fun e w' => ∃ g, e = .returned (.slice (some ⟨g, 0, none⟩) k k) ∧ Blk w' g 45 (List.replicate k v).toArray ∧ w.heap.size ≤ g ∧ Below w.heap.size w w' := by
  have HMUL := Lib.hid (fun W => mul1_c k hk W)
  have hmk := fun W => run_make_nats k hk W
  have f1 : IntKind.u64.wrap (k : Int) = (k : Int) := by rw [IntKind.wrap_u64]; omega
  have f2 : IntKind.i64.wrap (k : Int) = (k : Int) := by rw [IntKind.wrap_i64]; omega
  have hk64 : (k : Int) ≤ 64 := by omega
  have HK := Lib.hid hk
  obtain ⟨z, hz⟩ : ∃ z : Value, (Value.slice none 0 0) = z := ⟨_, rfl⟩
  have hcp0 : ∀ ty, ∃ w', (Builtin.copy_ #[132, 132] ty #[.slice (some ⟨w.heap.size, 0, none⟩) k k, .slice (some ⟨b0, o0, none⟩) 1 cx]).run Tryz.prog (w.alloc (.cells (rowK (.slice none 0 0) (.slice none 0 0) 0 k) 45)) = .ok (.int .i64 ((min 1 k : Nat) : Int)) w' ∧ Blk w' w.heap.size 45 (rowK v (.slice none 0 0) (min 1 k) k) ∧ Below w.heap.size w w' := fun ty => by
    obtain ⟨w', h1, h2, h3⟩ := run_rep (m := min 1 k) (v := v) (z := .slice none 0 0) (n := 0) (k := k) hv (by rw [rowK_none]; exact Blk.new w 45 _) (by omega) k k ⟨b0, o0, none⟩ 1 cx rfl (by omega) (fun j hj => by
      obtain rfl : j = 0 := by omega
      show (w.alloc _).cell? (Addr.add ⟨b0, o0, none⟩ 0) = some v
      rw [show Addr.add ⟨b0, o0, none⟩ 0 = ⟨b0, o0, none⟩ from rfl]
      exact (((Below.refl w.heap.size w).alloc (Nat.le_refl _) _).cell (p := ⟨b0, o0, none⟩) hlt).trans hx) ty
    rw [Nat.zero_add] at h2
    exact ⟨w', h1, h2, ((Below.refl _ _).alloc (Nat.le_refl _) _).trans (h3 _ (Nat.le_refl _))⟩
  have HCP0 := Lib.hid hcp0
  clear hcp0 hx hlt hz
  go_enter Tryz.func86, Tryz.ntmps86
  go_upto_region 7 with (first
    | (go_at_call 108; (with_reducible refine (HMUL.out _).mono ?_); rintro e _ ⟨rfl, rfl⟩))
  clear hmk
  obtain ⟨w1, hr1, hb1, hl1⟩ := HCP0.out 3
  obtain ⟨n0, hn0⟩ : ∃ n, min 1 k = n := ⟨_, rfl⟩
  rw [hn0] at hr1 hb1
  have HR1 := Lib.hid hr1
  clear hr1 HCP0
  obtain ⟨g, hg⟩ : ∃ g, w.heap.size = g := ⟨_, rfl⟩
  have HG : Hid (w.heap.size ≤ g) := Lib.hid (by omega)
  have HB1 : Hid (Blk w1 g 45 (rowK v (.slice none 0 0) n0 k)) := Lib.hid (by rw [← hg]; exact hb1)
  have HL1 := Lib.hid hl1
  rw [hg] at HR1 ⊢
  clear hb1 hl1 hg
  have HN0 : Hid (n0 = min 1 k) := Lib.hid hn0.symm
  clear hn0
  have hr1 := HR1.out
  go_wp2
  clear hr1
  go_loopw [8] (fun vn wr => ∃ n : Nat, n ≤ k ∧ (n = 0 → k = 0) ∧ vn = .int .i64 (n : Int) ∧ Blk wr g 45 (rowK v (.slice none 0 0) n k) ∧ Below w.heap.size w wr) (fun vn _ => k - (intOf vn).toNat)
  case atStart => exact ⟨n0, by have := HN0.out; omega, by have := HN0.out; omega, rfl, HB1.out, HL1.out⟩
  case round =>
    clear HB1 HL1 HN0 HR1
    obtain ⟨n, hn, hn0, rfl, hb, hbl⟩ := hrel
    by_cases hlt : n < k
    · obtain ⟨kn, hkn⟩ : ∃ kn, k - n = kn := ⟨_, rfl⟩
      obtain ⟨w2, hr2, hb2, hl2⟩ := run_rep (w := wr.drew) (m := min n kn) hv hb hn kn kn ⟨g, 0, none⟩ n k rfl (by omega) (fun j hj => by
        have e : Addr.add ⟨g, 0, none⟩ j = ⟨g, j, none⟩ := by
          unfold Addr.add
          split
          · rename_i h; subst h; rfl
          · simp
        rw [e, Blk.cell (h := hb.drew)]
        exact rowK_at (by omega)) 3
      obtain ⟨nm, hnm⟩ : ∃ nm, n + min n kn = nm := ⟨_, rfl⟩
      obtain ⟨m, hm⟩ : ∃ m, min n kn = m := ⟨_, rfl⟩
      rw [hm] at hr2 hnm
      rw [hm, hnm] at hb2
      have hnm1 : nm ≤ k := by omega
      have hnm2 : n < nm := by omega
      have HCP := Lib.hid hr2
      have HB2 := Lib.hid hb2
      have HL2 := Lib.hid ((hbl.trans (Below.refl _ _).drew).trans (hl2 _ HG.out))
      have HNK : Hid (n ≤ k ∧ ¬ k = n ∧ k - n = kn ∧ ¬ k < n) := Lib.hid ⟨by omega, by omega, hkn, by omega⟩
      have HNM : Hid ((n : Int) + (m : Int) = (nm : Int)) := Lib.hid (by omega)
      have HNW : Hid (IntKind.i64.wrap (nm : Int) = (nm : Int)) := Lib.hid (by rw [IntKind.wrap_i64]; omega)
      have HN1 : Hid (nm ≤ k ∧ n < nm ∧ (nm = 0 → k = 0)) := Lib.hid ⟨hnm1, hnm2, by omega⟩
      have i1 : (n : Int) < (k : Int) := by omega
      clear hb hbl hr2 hb2 hl2 hnm hm hnm1 hnm2 hkn hn hn0 hlt
      go_wp2
      refine wp_region_held_drew (S := q10AnyN) (by kernel_rfl) trivial (fun _ => ?_)
      refine wpAnyH_letter #[false, false, false, false, false, false, false, false, false, false] (by kernel_rfl) (fun _ _ d _ _ h => by cases d <;> exact h) (fun QL HQ1 HQ2 => ?_)
      refine held_v 0 (some 38) rfl (by kernel_rfl) (by kernel_rfl) (by kernel_rfl) (by kernel_rfl) (fun c a v w h => HQ2.out c a _ v w h) (by kernel_rfl) (.int .i64 (n : Int)) (fun W h => by kernel_rfl) trivial ?_
      try simp only [Act.put, List.setIfInBounds_toArray, List.set_cons_zero, List.set_cons_succ]
      refine held_v 1 (some 39) rfl (by kernel_rfl) (by kernel_rfl) (by kernel_rfl) (by kernel_rfl) (fun c a v w h => HQ2.out c a _ v w h) (by kernel_rfl) (.slice (some ⟨g, 0, none⟩) k k) (fun W h => by kernel_rfl) trivial ?_
      try simp only [Act.put, List.setIfInBounds_toArray, List.set_cons_zero, List.set_cons_succ]
      refine held_v 2 (some 40) rfl (by kernel_rfl) (by kernel_rfl) (by kernel_rfl) (by kernel_rfl) (fun c a v w h => HQ2.out c a _ v w h) (by kernel_rfl) (.int .i64 (n : Int)) (fun W h => by kernel_rfl) trivial ?_
      try simp only [Act.put, List.setIfInBounds_toArray, List.set_cons_zero, List.set_cons_succ]
      refine held_v 3 (some 41) rfl (by kernel_rfl) (by kernel_rfl) (by kernel_rfl) (by kernel_rfl) (fun c a v w h => HQ2.out c a _ v w h) (by kernel_rfl) (.slice (some ⟨g, n, none⟩) kn kn) (fun W h => by have p := HNK.out.1; have p2 := HNK.out.2.1; have p3 := HNK.out.2.2.1; go_simp) trivial ?_
      try simp only [Act.put, List.setIfInBounds_toArray, List.set_cons_zero, List.set_cons_succ]
      refine held_v 4 (some 42) rfl (by kernel_rfl) (by kernel_rfl) (by kernel_rfl) (by kernel_rfl) (fun c a v w h => HQ2.out c a _ v w h) (by kernel_rfl) (.slice (some ⟨g, 0, none⟩) k k) (fun W h => by kernel_rfl) trivial ?_
      try simp only [Act.put, List.setIfInBounds_toArray, List.set_cons_zero, List.set_cons_succ]
      refine held_v 5 (some 43) rfl (by kernel_rfl) (by kernel_rfl) (by kernel_rfl) (by kernel_rfl) (fun c a v w h => HQ2.out c a _ v w h) (by kernel_rfl) (.int .i64 (n : Int)) (fun W h => by kernel_rfl) trivial ?_
      try simp only [Act.put, List.setIfInBounds_toArray, List.set_cons_zero, List.set_cons_succ]
      refine held_v 6 (some 44) rfl (by kernel_rfl) (by kernel_rfl) (by kernel_rfl) (by kernel_rfl) (fun c a v w h => HQ2.out c a _ v w h) (by kernel_rfl) (.slice (some ⟨g, 0, none⟩) n k) (fun W h => by have p2 := HNK.out.2.2.2; have p := HNK.out.1; go_simp) trivial ?_
      try simp only [Act.put, List.setIfInBounds_toArray, List.set_cons_zero, List.set_cons_succ]
      refine wpAnyH_ready (rs := [7]) (by kernel_rfl) (by decide) ?_
      refine AllReadyH.cons rfl (fun K hK => ?_) AllReadyH.nil
      refine step_copy (some 45) (by kernel_rfl) (by kernel_rfl) (.tmp 41) (.tmp 44) 132 132 (by kernel_rfl) _ _ (by kernel_rfl) (by kernel_rfl) HCP.out ?_
      refine hK.out _ _ trivial (fun _ => ?_)
      clear hK K
      try simp only [Act.put, List.setIfInBounds_toArray, List.set_cons_zero, List.set_cons_succ]
      refine held_v 8 (some 46) rfl (by kernel_rfl) (by kernel_rfl) (by kernel_rfl) (by kernel_rfl) (fun c a v w h => HQ2.out c a _ v w h) (by kernel_rfl) (.int .i64 (nm : Int)) (fun W h => by have p := HNM.out; have p2 := HNW.out; go_simp) trivial ?_
      try simp only [Act.put, List.setIfInBounds_toArray, List.set_cons_zero, List.set_cons_succ]
      refine held_v 9 (some 8) rfl (by kernel_rfl) (by kernel_rfl) (by kernel_rfl) (by kernel_rfl) (fun c a v w h => HQ2.out c a _ v w h) (by kernel_rfl) (.int .i64 (nm : Int)) (fun W h => by kernel_rfl) trivial ?_
      try simp only [Act.put, List.setIfInBounds_toArray, List.set_cons_zero, List.set_cons_succ]
      refine wpAnyH_done (by kernel_rfl) ?_ _
      refine HQ1.out _ _ ?_
      clear HQ1 HQ2
      go_wp2
      go_roundw
      case rel => exact ⟨nm, HN1.out.1, HN1.out.2.2, rfl, HB2.out, HL2.out⟩
      case measure => have := HN1.out; simp [intOf]; omega
    · obtain rfl : n = k := by omega
      have HB2 : Hid (Blk wr g 45 (List.replicate n v).toArray) := Lib.hid (by rw [← rowK_full]; exact hb)
      have HL2 := Lib.hid hbl
      clear hb hbl hn0 hn
      go_wp2
      go_ret
      exact ⟨g, rfl, HB2.out, HG.out, HL2.out⟩
theorem rdNs_rep {w : World} {g k : Nat} {A : Option Addr} {n c : Nat} {zs : List Int} (h : Blk w g 45 (List.replicate k (Value.slice A n c)).toArray) (hr : Rd .u32 w w.heap.size A n zs) (hnc : n ≤ c) (hcm : c ≤ maxLen) (hz : Lim zs) : RdNs w w.heap.size (some ⟨g, 0, none⟩) k (List.replicate k ⟨A, n, c, zs⟩) :=
  ⟨List.length_replicate, fun _ => ⟨g, 0, rfl, h.lt, fun j r hj => by
    have hjl : j < k := by
      rcases Nat.lt_or_ge j k with h5 | h5
      · exact h5
      · rw [List.getElem?_eq_none (by simpa using h5)] at hj; cases hj
    rw [List.getElem?_replicate, if_pos hjl] at hj
    injection hj with hj
    subst hj
    rw [Nat.zero_add, h.cell]
    simp [hjl]
    rfl⟩, fun r hr' => by
    rw [List.eq_of_mem_replicate hr']
    exact ⟨hr, hnc, hcm, hz⟩⟩
set_option maxHeartbeats 4000000 in
theorem q10pow_c (zs : List Int) (hz : Lim zs) (A : Option Addr) (n c : Nat) (hnc : n ≤ c) (hcm : c ≤ maxLen) (k : Int) (k0 : -9223372036854775808 ≤ k) (k1 : k < 9223372036854775808) (w : World) (hrd : Rd .u32 w w.heap.size A n zs) : Calls Tryz.prog 54 #[.slice A n c, .int .i64 k] w (RetNE w (powR zs k)) := by
  have hrt := fun W h => q10right_c zs A n c (by omega) W h
  have HR := Lib.hid hrd
  by_cases hok : rightN zs = true ∧ 0 ≤ k ∧ k ≤ 64
  · obtain ⟨hr, h0, h1⟩ := hok
    obtain ⟨m, rfl⟩ := Int.eq_ofNat_of_zero_le h0
    rw [hr] at hrt
    have HRT := Lib.hid hrt
    have hm64 : m ≤ 64 := by omega
    have hrep := repeat_c (.slice A n c) rfl w.heap.size 0 1 m hm64 (w.alloc (.cells #[.slice A n c] 45)) (by simp) (by rw [(Blk.new w 45 #[Value.slice A n c]).cell]; rfl)
    have HREP := Lib.hid hrep
    have hmul := fun g W (h : RdNs W W.heap.size (some ⟨g, 0, none⟩) m (List.replicate m ⟨A, n, c, zs⟩)) => q10mul_c (List.replicate m ⟨A, n, c, zs⟩) (some ⟨g, 0, none⟩) m m (by omega) W h
    rw [powR_zs (zs := zs) (k := m) (rs := List.replicate m ⟨A, n, c, zs⟩) hr (by omega) (by rw [List.map_replicate])] at hmul
    have HMUL := Lib.hid hmul
    have HN := Lib.hid (fun (g : Nat) (W : World) (hb : Below w.heap.size w W) h => rdNs_rep (w := W) (g := g) (k := m) h ((HR.out.below hb).mono hb.size) hnc hcm hz)
    have HB0 := Lib.hid ((Below.refl w.heap.size w).alloc (Nat.le_refl _) (.cells #[.slice A n c] 45))
    have hmI : (m : Int) ≤ 64 := h1
    have hm0 : ¬ (m : Int) < 0 := by omega
    obtain ⟨⟨re, rz⟩, hR⟩ : ∃ R, powR zs (m : Int) = R := ⟨_, rfl⟩
    rw [hR] at HMUL ⊢
    clear hrd hrt hr hz hnc hcm h0 k0 k1 hrep hmul hR h1
    go_enter Tryz.func54, Tryz.ntmps54
    go_wp2_with (first
      | (go_at_call 84; (with_reducible refine (HRT.out _ HR.out).mono ?_); rintro e _ ⟨rfl, rfl⟩)
      | (go_at_call 86; (with_reducible refine HREP.out.mono ?_); rintro e w4 ⟨g4, rfl, hb4, _, hl4⟩; have HB4 := Lib.hid (HB0.out.trans (hl4.mono HB0.out.size)); have HN4 := Lib.hid (HN.out g4 w4 HB4.out hb4); clear hb4 hl4)
      | (go_at_call 85; (with_reducible refine (HMUL.out _ _ HN4.out).mono ?_); rintro e w5 ⟨A5, c5, rfl, hl5, hm5, hr5, hb5⟩; have HB5 := Lib.hid (HB4.out.trans (hb5.mono HB4.out.size)); have HL5 := Lib.hid hl5; have HM5 := Lib.hid hm5; have HR5 := Lib.hid hr5; clear hl5 hm5 hr5 hb5))
    go_ret2
    exact ⟨_, _, rfl, HL5.out, HM5.out, HR5.out, HB5.out⟩
  · have e1 : powR zs k = (1, []) := if_neg hok
    rw [e1]
    have h2 : rightN zs = false ∨ (rightN zs = true ∧ k < 0) ∨ (rightN zs = true ∧ ¬ k < 0 ∧ 64 < k) := by
      cases h : rightN zs
      · exact .inl rfl
      · rw [h] at hok
        by_cases h3 : k < 0
        · exact .inr (.inl ⟨rfl, h3⟩)
        · exact .inr (.inr ⟨rfl, h3, by
            by_cases h4 : 64 < k
            · exact h4
            · exact absurd ⟨rfl, by omega, by omega⟩ hok⟩)
    clear hok e1 hrd
    rcases h2 with h | ⟨h, h'⟩ | ⟨h, h', h''⟩
    all_goals
      rw [h] at hrt
      have HRT := Lib.hid hrt
      clear hrt h
      go_enter Tryz.func54, Tryz.ntmps54
      go_wp2_with (first
        | (go_at_call 84; (with_reducible refine (HRT.out _ HR.out).mono ?_); rintro e _ ⟨rfl, rfl⟩))
      go_ret2
      exact RetNE.nil 1 (Below.refl _ _)
end
section
open Go.ChangeShapes Go.WideShapes Go.ChangeAt Go.RowKit
theorem qsub_n {x y : Nat} (hx : (natL x).length ≤ 256) (hy : (natL y).length ≤ 256) (hxy : y ≤ x) (A B : Option Addr) (c d : Nat) (W : World) (h1 : Rd .u32 W W.heap.size A (natL x).length (natL x)) (h2 : Rd .u32 W W.heap.size B (natL y).length (natL y)) : Calls Tryz.prog 125 #[.slice A (natL x).length c, .slice B (natL y).length d] W (RetNE W (0, natL (x - y))) := by
  have h := q10sub_c (natL x) (natL y) (natL_lim x) (natL_lim y) A B (natL x).length (natL y).length c d (by unfold maxLen; omega) (by unfold maxLen; omega) W h1 h2
  rwa [sub_nat (rightN_natL hx) (rightN_natL hy), if_neg (by omega)] at h
theorem qpow_n {x k : Nat} (hx : (natL x).length ≤ 256) (hk : k ≤ 64) (k1 : 1 ≤ k) (h : (natL (x ^ k)).length ≤ 256) (A : Option Addr) (c : Nat) (hc : (natL x).length ≤ c) (hm : c ≤ maxLen) (W : World) (h1 : Rd .u32 W W.heap.size A (natL x).length (natL x)) : Calls Tryz.prog 54 #[.slice A (natL x).length c, .int .i64 (k : Int)] W (RetNE W (0, natL (x ^ k))) := by
  have h := q10pow_c (natL x) (natL_lim x) A (natL x).length c hc hm (k : Int) (by omega) (by omega) W h1
  rwa [powR_any hx hk k1 (by assumption)] at h
theorem qtwo_n {k : Nat} (hk : k ≤ 8191) (W : World) : Calls Tryz.prog 99 #[.int .i64 (k : Int)] W (RetNE W (0, natL (2 ^ k))) := by
  have h := q10two_c (k : Int) (by omega) (by omega) W
  unfold twoR at h
  rwa [if_pos ⟨by omega, by omega⟩, Int.toNat_natCast] at h
theorem qdiv_n {x : Nat} (hx : (natL x).length ≤ 256) {d : Int} (d1 : 1 ≤ d) (d2 : d < 9223372036854775808) {y : Nat} (hy : x = d.toNat * y) (A : Option Addr) (c : Nat) (W : World) (h1 : Rd .u32 W W.heap.size A (natL x).length (natL x)) : Calls Tryz.prog 126 #[.slice A (natL x).length c, .int .u64 d] W (RetND W (natL y) 0 0) := by
  have h := q10div_c (natL x) (natL_lim x) A (natL x).length c (by unfold maxLen; omega) d (by omega) (by omega) W h1
  obtain ⟨e1, e2, e3⟩ := div_nat (x := x) (d := d) (rightN_natL hx) d1 d2
  rw [e1, e2, e3, hy, Nat.mul_div_cancel_left _ (by omega), Nat.mul_mod_right] at h
  rw [hy]
  exact h
theorem qmul_n {x y : Nat} (hx : (natL x).length ≤ 256) (hy : (natL y).length ≤ 256) (hxy : (natL (x * y)).length ≤ 256) (A B : Option Addr) (c1 c2 : Nat) (Q : Option Addr) (c : Nat) (W : World) (h : RdNs W W.heap.size Q 2 [rowN A (natL x) c1, rowN B (natL y) c2]) : Calls Tryz.prog 85 #[.slice Q 2 c] W (RetNE W (0, natL (x * y))) := by
  have h2 := q10mul_c _ Q 2 c (by omega) W h
  rwa [mulR_two (rightN_natL hx) (rightN_natL hy) (by rw [natL_val]; exact hx) (by rw [natL_val, natL_val]; exact hxy), natL_val, natL_val] at h2
theorem q16bnd_c (n : Int) (n0 : 0 ≤ n) (n1 : n < 18446744073709551616) (w : World) : Calls Tryz.prog 45 #[.int .u64 n] w fun e w' => e = .returned (.bool (decide (1 ≤ n ∧ n < 9223372036854775808))) ∧ w = w' := by
  have hf := fun W => q9fits_c n n0 n1 W
  by_cases h1 : 1 ≤ n
  · by_cases h2 : n < 9223372036854775808
    · rw [decide_eq_true ⟨h1, h2⟩]
      rw [decide_eq_true h2] at hf
      have HF := Lib.hid hf
      clear hf
      go_enter Tryz.func45, Tryz.ntmps45
      go_wp2_with (first
        | (go_at_call 77; (with_reducible refine (HF.out _).mono ?_); rintro e _ ⟨rfl, rfl⟩))
      go_ret
      exact ⟨rfl, rfl⟩
    · rw [decide_eq_false (fun h => h2 h.2)]
      rw [decide_eq_false h2] at hf
      have HF := Lib.hid hf
      clear hf
      go_enter Tryz.func45, Tryz.ntmps45
      go_wp2_with (first
        | (go_at_call 77; (with_reducible refine (HF.out _).mono ?_); rintro e _ ⟨rfl, rfl⟩))
      go_ret
      exact ⟨rfl, rfl⟩
  · rw [decide_eq_false (fun h => h1 h.1)]
    clear hf
    go_enter Tryz.func45, Tryz.ntmps45
    go_wp2
    go_ret
    exact ⟨rfl, rfl⟩
theorem q16lst_c (m : Int) (m0 : -9223372036854775808 ≤ m) (m1 : m < 9223372036854775808) (w : World) : Calls Tryz.prog 46 #[.int .i64 m] w fun e w' => e = .returned (.bool (decide (1 ≤ m ∧ m ≤ 64))) ∧ w = w' := by
  by_cases h1 : 1 ≤ m
  · by_cases h2 : m ≤ 64
    · rw [decide_eq_true ⟨h1, h2⟩]
      go_enter Tryz.func46, Tryz.ntmps46
      go_wp2
      go_ret
      exact ⟨rfl, rfl⟩
    · rw [decide_eq_false (fun h => h2 h.2)]
      go_enter Tryz.func46, Tryz.ntmps46
      go_wp2
      go_ret
      exact ⟨rfl, rfl⟩
  · rw [decide_eq_false (fun h => h1 h.1)]
    go_enter Tryz.func46, Tryz.ntmps46
    go_wp2
    go_ret
    exact ⟨rfl, rfl⟩
theorem q16bits0_c (n m : Int) (n0 : 0 ≤ n) (n1 : n < 18446744073709551616) (m0 : -9223372036854775808 ≤ m) (m1 : m < 9223372036854775808) (w : World) : Calls Tryz.prog 12 #[.int .u64 n, .int .i64 m] w fun e w' => e = .returned (.tuple #[.int .i64 (bitR n m).1, .int .i64 (bitR n m).2]) ∧ w = w' := by
  have hb := fun W => q16bnd_c n n0 n1 W
  have hl := fun W => q16lst_c m m0 m1 W
  by_cases h1 : 1 ≤ n ∧ n < 9223372036854775808
  · rw [decide_eq_true h1] at hb
    have HB := Lib.hid hb
    by_cases h2 : 1 ≤ m ∧ m ≤ 64
    · rw [show bitR n m = ((needN n : Int) * m, 0) from if_pos (mayB_iff.2 ⟨h1.1, h1.2, h2.1, h2.2⟩)]
      rw [decide_eq_true h2] at hl
      have HL := Lib.hid hl
      have hk := (need_in h1.1 h1.2).1
      have hnd := fun W => q8need_c n n0 n1 W
      obtain ⟨M, rfl⟩ := Int.eq_ofNat_of_zero_le (show 0 ≤ m by omega)
      obtain ⟨k, hkk⟩ : ∃ k, needN n = k := ⟨_, rfl⟩
      rw [hkk] at hk hnd ⊢
      have HND := Lib.hid hnd
      have hx := exp_in hk (show M ≤ 64 by omega)
      obtain ⟨p, hp⟩ : ∃ p, k * M = p := ⟨_, rfl⟩
      have hkM : (k : Int) * (M : Int) = (p : Int) := by rw [← hp]; push_cast; rfl
      have e2 : wrap64 (p : Int) = (p : Int) := by simp only [wrap64]; omega
      have E2 := Lib.hid e2
      rw [hkM]
      clear hb hl hnd h1 h2 n0 n1 m0 m1 hkk hk hx hp e2
      go_enter Tryz.func12, Tryz.ntmps12
      go_wp2_with (first
        | (go_at_call 45; (with_reducible refine (HB.out _).mono ?_); rintro e _ ⟨rfl, rfl⟩)
        | (go_at_call 46; (with_reducible refine (HL.out _).mono ?_); rintro e _ ⟨rfl, rfl⟩)
        | (go_at_call 47; (with_reducible refine (HND.out _).mono ?_); rintro e _ ⟨rfl, rfl⟩))
      go_ret2
      exact ⟨by first | rfl | (show Ending.returned (.tuple #[.int .i64 (wrap64 (p : Int)), .int .i64 0]) = _; rw [E2.out]), rfl⟩
    · rw [show bitR n m = (0, 1) from if_neg (by rw [mayB_no (by omega)]; decide)]
      rw [decide_eq_false h2] at hl
      have HL := Lib.hid hl
      clear hb hl h1 h2 n0 n1 m0 m1
      go_enter Tryz.func12, Tryz.ntmps12
      go_wp2_with (first
        | (go_at_call 45; (with_reducible refine (HB.out _).mono ?_); rintro e _ ⟨rfl, rfl⟩)
        | (go_at_call 46; (with_reducible refine (HL.out _).mono ?_); rintro e _ ⟨rfl, rfl⟩))
      go_ret2
      exact ⟨rfl, rfl⟩
  · rw [show bitR n m = (0, 1) from if_neg (by rw [mayB_no (by omega)]; decide)]
    rw [decide_eq_false h1] at hb
    have HB := Lib.hid hb
    clear hb hl h1 n0 n1 m0 m1
    go_enter Tryz.func12, Tryz.ntmps12
    go_wp2_with (first
      | (go_at_call 45; (with_reducible refine (HB.out _).mono ?_); rintro e _ ⟨rfl, rfl⟩))
    go_ret2
    exact ⟨rfl, rfl⟩
theorem q16all_c (n m : Int) (n0 : 0 ≤ n) (n1 : n < 18446744073709551616) (m0 : -9223372036854775808 ≤ m) (m1 : m < 9223372036854775808) (w : World) : Calls Tryz.prog 124 #[.int .u64 n, .int .i64 m] w (RetNE w (allR n m)) := by
  have hb := fun W => q16bits0_c n m n0 n1 m0 m1 W
  cases h : mayB n m with
  | false =>
    rw [show allR n m = (1, []) from if_neg (by rw [h]; decide)]
    rw [show bitR n m = (0, 1) from if_neg (by rw [h]; decide)] at hb
    dsimp only at hb
    have HB := Lib.hid hb
    clear hb h
    go_enter Tryz.func124, Tryz.ntmps124
    go_wp2_with (first
      | (go_at_call 12; (with_reducible refine (HB.out _).mono ?_); rintro e _ ⟨rfl, rfl⟩))
    go_ret2
    exact RetNE.nil _ (Below.refl _ _)
  | true =>
    rw [show allR n m = (0, natL (allV n m)) from if_pos h]
    rw [show bitR n m = ((needN n : Int) * m, 0) from if_pos h] at hb
    obtain ⟨p1, p2, p3, p4⟩ := mayB_iff.1 h
    obtain ⟨M, rfl⟩ := Int.eq_ofNat_of_zero_le (show 0 ≤ m by omega)
    obtain ⟨hk, -⟩ := need_in p1 p2
    unfold allV
    obtain ⟨k, hkk⟩ : ∃ k, needN n = k := ⟨_, rfl⟩
    rw [hkk] at hb hk ⊢
    rw [Int.toNat_natCast]
    obtain ⟨p, hp⟩ : ∃ p, k * M = p := ⟨_, rfl⟩
    have hkM : (k : Int) * (M : Int) = (p : Int) := by rw [← hp]; push_cast; rfl
    have hp2 : p ≤ 4032 := by rw [← hp]; exact exp_in hk (by omega)
    rw [hkM] at hb
    rw [hp]
    have ht := fun W => qtwo_n (k := p) (by omega) W
    unfold RetNE at ht ⊢
    obtain ⟨Z, hZ⟩ : ∃ Z, natL (2 ^ p) = Z := ⟨_, rfl⟩
    rw [hZ] at ht ⊢
    dsimp only at ht hb ⊢
    have HB := Lib.hid hb
    have HTW := Lib.hid ht
    have G0 := Lib.hid (NFx.start w)
    clear hb ht h hkk hk hp hp2 p1 p2 p3 p4 m0 m1 hkM hZ
    go_enter Tryz.func124, Tryz.ntmps124
    go_wp2_with (first
      | (go_at_call 12; (with_reducible refine (HB.out _).mono ?_); rintro e _ ⟨rfl, rfl⟩)
      | (go_at_call 99; (with_reducible refine (HTW.out _).mono ?_); rintro e w1 ⟨Az, cz, rfl, hlw1, hmw1, hrw1, hbw1⟩; have Lz := Lib.hid hlw1; have Mz := Lib.hid hmw1; have G2 := Lib.hid (NFx.add G0.out hbw1 hrw1); clear G0; clear hrw1 hbw1 hlw1 hmw1))
    go_ret2
    exact ⟨Az, cz, rfl, Lz.out, Mz.out, (NFx.r0 G2.out), (NFx.bel G2.out)⟩
theorem q16lost_c (n m : Int) (n0 : 0 ≤ n) (n1 : n < 18446744073709551616) (m0 : -9223372036854775808 ≤ m) (m1 : m < 9223372036854775808) (w : World) : Calls Tryz.prog 17 #[.int .u64 n, .int .i64 m] w (RetNE w (lostR n m)) := by
  have hb := fun W => q16bnd_c n n0 n1 W
  have hl := fun W => q16lst_c m m0 m1 W
  by_cases h1 : 1 ≤ n ∧ n < 9223372036854775808
  · rw [decide_eq_true h1] at hb
    have HB := Lib.hid hb
    by_cases h2 : 1 ≤ m ∧ m ≤ 64
    · have h : mayB n m = true := mayB_iff.2 ⟨h1.1, h1.2, h2.1, h2.2⟩
      rw [show lostR n m = (0, natL (lostV n m)) from if_pos h]
      rw [decide_eq_true h2] at hl
      have HL := Lib.hid hl
      have hll := odd_len h (lostV_le h)
      obtain ⟨hk, hk2⟩ := need_in h1.1 h1.2
      obtain ⟨M, rfl⟩ := Int.eq_ofNat_of_zero_le (show 0 ≤ m by omega)
      unfold lostV at hll ⊢
      rw [Int.toNat_natCast] at hll ⊢
      have hp63 : 2 ^ needN n ≤ 2 ^ 63 := Nat.pow_le_pow_right (by omega) hk
      have hnd := fun W => q8need_c n n0 n1 W
      have hr : oddR n + n.toNat = 2 ^ needN n := by unfold oddR oddP; omega
      have h7 : (natL (oddR n)).length ≤ 256 := small_len (by omega)
      have hpw := fun A c W h1 h2 h3 => qpow_n (x := oddR n) (k := M) h7 (by omega) (by omega) (by omega) A c h1 h2 W h3
      have hof := fun W => q10of_c (oddR n : Int) (by omega) (by omega) W
      rw [Int.toNat_natCast] at hof
      have es : IntKind.u64.wrap ((2 : Int) ^ needN n) = ((2 ^ needN n : Nat) : Int) := by
        have e : ((2 : Int) ^ needN n) = ((2 ^ needN n : Nat) : Int) := by simp
        rw [e, IntKind.wrap_u64]
        omega
      have ed : IntKind.u64.wrap (((2 ^ needN n : Nat) : Int) - n) = (oddR n : Int) := by
        rw [IntKind.wrap_u64]
        omega
      rw [← es] at ed
      obtain ⟨k, hkk⟩ : ∃ k, needN n = k := ⟨_, rfl⟩
      rw [hkk] at hnd hk ed
      obtain ⟨R, hR⟩ : ∃ R : Int, ((oddR n : Nat) : Int) = R := ⟨_, rfl⟩
      rw [hR] at hof ed
      obtain ⟨Z, hZ⟩ : ∃ Z, natL (oddR n ^ M) = Z := ⟨_, rfl⟩
      obtain ⟨Y, hY⟩ : ∃ Z, natL (oddR n) = Z := ⟨_, rfl⟩
      unfold RetNE at hpw ⊢
      unfold RetN at hof
      rw [hZ] at hpw ⊢
      rw [hY] at hpw hof
      dsimp only at hpw ⊢
      have k0 : (0 : Int) ≤ (k : Int) := by omega
      have k1 : (k : Int) < 64 := by omega
      have HND := Lib.hid hnd
      have HOF := Lib.hid hof
      have HPW := Lib.hid hpw
      have G0 := Lib.hid (NFx.start w)
      clear hb hl hnd hof hpw h h1 h2 h7 hkk hk hk2 m0 m1 hZ hY hll hr hp63 es hR n0 n1
      go_enter Tryz.func17, Tryz.ntmps17
      go_wp2_with (first
        | (go_at_call 45; (with_reducible refine (HB.out _).mono ?_); rintro e _ ⟨rfl, rfl⟩)
        | (go_at_call 46; (with_reducible refine (HL.out _).mono ?_); rintro e _ ⟨rfl, rfl⟩)
        | (go_at_call 47; (with_reducible refine (HND.out _).mono ?_); rintro e _ ⟨rfl, rfl⟩)
        | (go_at_call 55; (with_reducible refine (HOF.out _).mono ?_); rintro e w1 ⟨Ay, cy, rfl, hlw1, hmw1, hrw1, hbw1⟩; have Ly := Lib.hid hlw1; have My := Lib.hid hmw1; have G2 := Lib.hid (NFx.add G0.out hbw1 hrw1); clear G0; clear hrw1 hbw1 hlw1 hmw1)
        | (go_at_call 54; (with_reducible refine (HPW.out _ _ _ Ly.out My.out (NFx.r0 G2.out)).mono ?_); rintro e w3 ⟨Az, cz, rfl, hlw3, hmw3, hrw3, hbw3⟩; have Lz := Lib.hid hlw3; have Mz := Lib.hid hmw3; have G4 := Lib.hid (NFx.add G2.out hbw3 hrw3); clear G2; clear hrw3 hbw3 hlw3 hmw3))
      go_ret2
      exact ⟨Az, cz, rfl, Lz.out, Mz.out, (NFx.r0 G4.out), (NFx.bel G4.out)⟩
    · rw [show lostR n m = (1, []) from if_neg (by rw [mayB_no (by omega)]; decide)]
      rw [decide_eq_false h2] at hl
      have HL := Lib.hid hl
      clear hb hl h1 h2 n0 n1 m0 m1
      go_enter Tryz.func17, Tryz.ntmps17
      go_wp2_with (first
        | (go_at_call 45; (with_reducible refine (HB.out _).mono ?_); rintro e _ ⟨rfl, rfl⟩)
        | (go_at_call 46; (with_reducible refine (HL.out _).mono ?_); rintro e _ ⟨rfl, rfl⟩))
      go_ret2
      exact RetNE.nil _ (Below.refl _ _)
  · rw [show lostR n m = (1, []) from if_neg (by rw [mayB_no (by omega)]; decide)]
    rw [decide_eq_false h1] at hb
    have HB := Lib.hid hb
    clear hb hl h1 n0 n1 m0 m1
    go_enter Tryz.func17, Tryz.ntmps17
    go_wp2_with (first
      | (go_at_call 45; (with_reducible refine (HB.out _).mono ?_); rintro e _ ⟨rfl, rfl⟩))
    go_ret2
    exact RetNE.nil _ (Below.refl _ _)
theorem q16each_c (n m : Int) (n0 : 0 ≤ n) (n1 : n < 18446744073709551616) (m0 : -9223372036854775808 ≤ m) (m1 : m < 9223372036854775808) (w : World) : Calls Tryz.prog 109 #[.int .u64 n, .int .i64 m] w (RetNE w (eachR n m)) := by
  have ha := fun W => q16all_c n m n0 n1 m0 m1 W
  have hl := fun W => q16lost_c n m n0 n1 m0 m1 W
  have G0 := Lib.hid (NFx.start w)
  cases h : mayB n m with
  | false =>
    rw [show eachR n m = (1, []) from if_neg (by rw [h]; decide)]
    rw [show allR n m = (1, []) from if_neg (by rw [h]; decide)] at ha
    unfold RetNE at ha
    obtain ⟨Z, hZ⟩ : ∃ Z : List Int, [] = Z := ⟨_, rfl⟩
    rw [hZ] at ha
    dsimp only at ha
    have HA := Lib.hid ha
    clear ha hl h hZ
    go_enter Tryz.func109, Tryz.ntmps109
    go_wp2_with (first
      | (go_at_call 124; (with_reducible refine (HA.out _).mono ?_); rintro e w1 ⟨Ax, cx, rfl, hlw1, hmw1, hrw1, hbw1⟩; have Lx := Lib.hid hlw1; have Mx := Lib.hid hmw1; have G2 := Lib.hid (NFx.add G0.out hbw1 hrw1); clear G0; clear hrw1 hbw1 hlw1 hmw1))
    go_ret2
    exact RetNE.nil _ (NFx.bel G2.out)
  | true =>
    rw [show eachR n m = (0, natL (eachV n m)) from if_pos h]
    rw [show allR n m = (0, natL (allV n m)) from if_pos h] at ha
    rw [show lostR n m = (0, natL (lostV n m)) from if_pos h] at hl
    obtain ⟨p1, p2, p3, p4⟩ := mayB_iff.1 h
    have hsum := odd_sum h
    have hle := lostV_le h
    have l1 := odd_len h (Nat.le_refl _)
    have l2 := odd_len h hle
    have l3 := odd_len h (Nat.sub_le (allV n m) (lostV n m))
    have hsb := fun A B c d W h1 h2 => qsub_n (x := allV n m) (y := lostV n m) (by omega) (by omega) hle A B c d W h1 h2
    have hdv := fun A c W h1 => qdiv_n (x := allV n m - lostV n m) (by omega) p1 p2 (y := eachV n m) (by omega) A c W h1
    obtain ⟨X, hX⟩ : ∃ Z, natL (allV n m) = Z := ⟨_, rfl⟩
    obtain ⟨Y, hY⟩ : ∃ Z, natL (lostV n m) = Z := ⟨_, rfl⟩
    obtain ⟨V, hV⟩ : ∃ Z, natL (allV n m - lostV n m) = Z := ⟨_, rfl⟩
    obtain ⟨Z, hZ⟩ : ∃ Z, natL (eachV n m) = Z := ⟨_, rfl⟩
    rw [hX] at ha hsb
    rw [hY] at hl hsb
    rw [hV] at hsb hdv
    rw [hZ] at hdv ⊢
    unfold RetNE at ha hl hsb ⊢
    unfold RetND at hdv
    dsimp only at ha hl hsb ⊢
    have HA := Lib.hid ha
    have HL := Lib.hid hl
    have HSB := Lib.hid hsb
    have HDV := Lib.hid hdv
    clear ha hl hsb hdv hX hY hV hZ l1 l2 l3 hsum hle h p1 p2 p3 p4 n0 n1 m0 m1
    go_enter Tryz.func109, Tryz.ntmps109
    go_wp2_with (first
      | (go_at_call 124; (with_reducible refine (HA.out _).mono ?_); rintro e w1 ⟨Ax, cx, rfl, hlw1, hmw1, hrw1, hbw1⟩; have Lx := Lib.hid hlw1; have Mx := Lib.hid hmw1; have G2 := Lib.hid (NFx.add G0.out hbw1 hrw1); clear G0; clear hrw1 hbw1 hlw1 hmw1)
      | (go_at_call 17; (with_reducible refine (HL.out _).mono ?_); rintro e w3 ⟨Ay, cy, rfl, hlw3, hmw3, hrw3, hbw3⟩; have Ly := Lib.hid hlw3; have My := Lib.hid hmw3; have G4 := Lib.hid (NFx.add G2.out hbw3 hrw3); clear G2; clear hrw3 hbw3 hlw3 hmw3)
      | (go_at_call 125; (with_reducible refine (HSB.out _ _ _ _ _ (NFx.r1 G4.out) (NFx.r0 G4.out)).mono ?_); rintro e w5 ⟨Av, cv, rfl, hlw5, hmw5, hrw5, hbw5⟩; have Lv := Lib.hid hlw5; have Mv := Lib.hid hmw5; have G6 := Lib.hid (NFx.add G4.out hbw5 hrw5); clear G4; clear hrw5 hbw5 hlw5 hmw5)
      | (go_at_call 126; (with_reducible refine (HDV.out _ _ _ (NFx.r0 G6.out)).mono ?_); rintro e w7 ⟨Az, cz, rfl, hlw7, hmw7, hrw7, hbw7⟩; have Lz := Lib.hid hlw7; have Mz := Lib.hid hmw7; have G8 := Lib.hid (NFx.add G6.out hbw7 hrw7); clear G6; clear hrw7 hbw7 hlw7 hmw7))
    go_ret2
    exact ⟨Az, cz, rfl, Lz.out, Mz.out, (NFx.r0 G8.out), (NFx.bel G8.out)⟩
theorem q16share_c (p : Int) (q0 : 0 ≤ p) (q1 : p < 18446744073709551616) (n m : Int) (n0 : 0 ≤ n) (n1 : n < 18446744073709551616) (m0 : -9223372036854775808 ≤ m) (m1 : m < 9223372036854775808) (w : World) : Calls Tryz.prog 88 #[.int .u64 p, .int .u64 n, .int .i64 m] w (RetNE w (shareR p n m)) := by
  have he := fun W => q16each_c n m n0 n1 m0 m1 W
  have G0 := Lib.hid (NFx.start w)
  by_cases hp : p ≤ n
  · cases h : mayB n m with
    | false =>
      rw [show shareR p n m = (1, []) from if_neg (by rw [h]; exact fun h => absurd h.1 (by decide))]
      rw [show eachR n m = (1, []) from if_neg (by rw [h]; decide)] at he
      unfold RetNE at he
      obtain ⟨Z, hZ⟩ : ∃ Z : List Int, [] = Z := ⟨_, rfl⟩
      rw [hZ] at he
      dsimp only at he
      have HE := Lib.hid he
      clear he h hZ
      go_enter Tryz.func88, Tryz.ntmps88
      go_wp2_with (first
        | (go_at_call 109; (with_reducible refine (HE.out _).mono ?_); rintro e w1 ⟨Az, cz, rfl, hlw1, hmw1, hrw1, hbw1⟩; have Lz := Lib.hid hlw1; have Mz := Lib.hid hmw1; have G2 := Lib.hid (NFx.add G0.out hbw1 hrw1); clear G0; clear hrw1 hbw1 hlw1 hmw1))
      go_ret2
      exact RetNE.nil _ (NFx.bel G2.out)
    | true =>
      rw [show eachR n m = (0, natL (eachV n m)) from if_pos h] at he
      rw [shareR_ok h hp]
      obtain ⟨p1, -⟩ := mayB_iff.1 h
      have hof := fun W => q10of_c p q0 q1 W
      have l1 := odd_len h (eachV_le h)
      have l2 := odd_len h (part_le h (p := p.toNat) (by omega))
      have hml := fun A B c1 c2 Q c W h => qmul_n (x := p.toNat) (y := eachV n m) (small_len (by omega)) (by omega) (by omega) A B c1 c2 Q c W h
      have LIv : Hid (Lim (natL p.toNat)) := Lib.hid (natL_lim _)
      have LIz : Hid (Lim (natL (eachV n m))) := Lib.hid (natL_lim _)
      obtain ⟨Z, hZ⟩ : ∃ Z, natL (eachV n m) = Z := ⟨_, rfl⟩
      obtain ⟨V, hV⟩ : ∃ Z, natL p.toNat = Z := ⟨_, rfl⟩
      obtain ⟨X, hX⟩ : ∃ Z, natL (p.toNat * eachV n m) = Z := ⟨_, rfl⟩
      rw [hZ] at he hml LIz
      rw [hV] at hof hml LIv
      rw [hX] at hml ⊢
      unfold RetNE at he hml ⊢
      unfold RetN at hof
      dsimp only at he hml ⊢
      have HE := Lib.hid he
      have HOF := Lib.hid hof
      have HML := Lib.hid hml
      clear he hof hml hZ hV hX h l1 l2 p1
      go_enter Tryz.func88, Tryz.ntmps88
      go_wp2_with (first
        | (go_at_call 109; (with_reducible refine (HE.out _).mono ?_); rintro e w1 ⟨Az, cz, rfl, hlw1, hmw1, hrw1, hbw1⟩; have Lz := Lib.hid hlw1; have Mz := Lib.hid hmw1; have G2 := Lib.hid (NFx.add G0.out hbw1 hrw1); clear G0; clear hrw1 hbw1 hlw1 hmw1)
        | (go_at_call 55; (with_reducible refine (HOF.out _).mono ?_); rintro e w3 ⟨Av, cv, rfl, hlw3, hmw3, hrw3, hbw3⟩; have Lv := Lib.hid hlw3; have Mv := Lib.hid hmw3; have G4 := Lib.hid (NFx.add G2.out hbw3 hrw3); clear G2; clear hrw3 hbw3 hlw3 hmw3)
        | (go_at_call 85; (with_reducible refine (HML.out _ _ _ _ _ _ _ (rdNs_two (NFx.r0 G4.out) (NFx.r1 G4.out) Lv.out Lz.out Mv.out Mz.out LIv.out LIz.out)).mono ?_); rintro e w5 ⟨Ax, cx, rfl, hlw5, hmw5, hrw5, hbw5⟩; have Lx := Lib.hid hlw5; have Mx := Lib.hid hmw5; have G6 := Lib.hid (NFx.add (NFx.alloc G4.out (.cells #[.slice Av V.length cv, .slice Az Z.length cz] 45)) hbw5 hrw5); clear G4; clear hrw5 hbw5 hlw5 hmw5))
      go_ret2
      exact ⟨Ax, cx, rfl, Lx.out, Mx.out, (NFx.r0 G6.out), (NFx.bel G6.out)⟩
  · rw [show shareR p n m = (1, []) from if_neg (fun h => hp h.2)]
    have hp2 : n < p := by omega
    clear he
    go_enter Tryz.func88, Tryz.ntmps88
    go_wp2
    go_ret2
    exact RetNE.nil _ (Below.refl _ _)
def placeR (i m k : Int) (l : List Int) : Int × List Int :=
  if 1 ≤ m ∧ m ≤ 64 then (if sumL l < 9223372036854775808 then (if sumL l = 0 then (10, []) else if k * sumL l < 9223372036854775808 then (if 0 ≤ i ∧ i < l.length then shareR (k * l.getD i.toNat 0) (k * sumL l) m else (3, [])) else (11, [])) else (11, [])) else (1, [])
theorem placeR_one (i m : Int) (l : List Int) : placeR i m 1 l = leadR' i m l := by
  unfold placeR leadR'
  simp only [Int.one_mul]
  by_cases hs : sumL l < 9223372036854775808
  · simp only [if_pos hs]
  · simp only [if_neg hs]
theorem placeR_len (i m : Int) (l : List Int) : placeR i m (l.length : Int) l = pickR' i m l := rfl
theorem q16place_c (i : Int) (i0 : -9223372036854775808 ≤ i) (i1 : i < 9223372036854775808) (m : Int) (m0 : -9223372036854775808 ≤ m) (m1 : m < 9223372036854775808) (x : Int) (x0 : 0 ≤ x) (x1 : x < 9223372036854775808) (l : List Int) (hz : ∀ z ∈ l, 0 ≤ z ∧ z < 18446744073709551616) (A : Option Addr) (n c : Nat) (hn : n ≤ maxLen) (w : World) (hrd : Rd .u64 w w.heap.size A n l) : Calls Tryz.prog 56 #[.int .i64 i, .int .i64 m, .int .u64 x, .slice A n c] w (RetNE w (placeR i m x l)) := by
  have hto := fun W h => q9total_c l hz A n c hn W h
  have hls := fun W => q16lst_c m m0 m1 W
  have HR := Lib.hid hrd
  have hlen := hrd.len
  have hnI : (n : Int) ≤ 9223372036854775807 := by unfold maxLen at hn; omega
  have hs0 := sumL_nn (fun z h => (hz z h).1)
  by_cases hm : 1 ≤ m ∧ m ≤ 64
  · rw [decide_eq_true hm] at hls
    have HL := Lib.hid hls
    clear hls
    by_cases hs : sumL l < 9223372036854775808
    · rw [(sumV_ok hs).1, (sumV_ok hs).2] at hto
      have hle := fun k => sumL_at (fun z h => (hz z h).1) (k := k)
      obtain ⟨t, ht⟩ : ∃ t, sumL l = t := ⟨_, rfl⟩
      rw [ht] at hto hs0 hle
      have hmu := fun W => q9mul_c x t x0 (by omega) hs0 (by rw [← ht]; omega) W
      by_cases ht0 : t = 0
      · rw [show placeR i m x l = (10, []) by unfold placeR; rw [if_pos hm, if_pos hs, if_pos (ht.trans ht0)]]
        rw [ht0] at hto
        have HTO := Lib.hid hto
        clear hto hmu hs ht ht0 hs0 hrd hlen hz hle hm
        go_enter Tryz.func56, Tryz.ntmps56
        go_wp2_with (first
          | (go_at_call 46; (with_reducible refine (HL.out _).mono ?_); rintro e _ ⟨rfl, rfl⟩)
          | (go_at_call 48; (with_reducible refine (HTO.out _ HR.out).mono ?_); rintro e _ ⟨rfl, rfl⟩))
        go_ret2
        exact RetNE.nil _ (Below.refl _ _)
      · have t1 : (t == 0) = false := by rw [beq_eq_false_iff_ne]; exact ht0
        by_cases hb : x * t < 9223372036854775808
        · rw [(mulV_ok hb).1, (mulV_ok hb).2] at hmu
          obtain ⟨a, ha⟩ : ∃ a, x * t = a := ⟨_, rfl⟩
          by_cases hi : 0 ≤ i ∧ i < l.length
          · rw [show placeR i m x l = shareR (x * l.getD i.toNat 0) a m by unfold placeR; rw [if_pos hm, if_pos hs, if_neg (by rw [ht]; exact ht0), ht, if_pos hb, if_pos hi, ha]]
            obtain ⟨j, rfl⟩ := Int.eq_ofNat_of_zero_le hi.1
            rw [Int.toNat_natCast]
            have hj : j < n := by omega
            obtain ⟨g, off, hA, -, hcl⟩ := hrd.at_ (by omega)
            have hck := hcl j hj
            subst hA
            have hzj := hz _ (getD_in (l := l) (k := j) (by omega))
            have hlj := hle j (by omega)
            obtain ⟨z, hzz⟩ : ∃ z, l.getD j 0 = z := ⟨_, rfl⟩
            rw [hzz] at hck hzj hlj ⊢
            have hy0 : 0 ≤ x * z := Int.mul_nonneg x0 hzj.1
            have hy1 : x * z ≤ x * t := Int.mul_le_mul_of_nonneg_left hlj x0
            rw [ha] at hb hmu hy1
            obtain ⟨y, hy⟩ : ∃ y, x * z = y := ⟨_, rfl⟩
            rw [hy] at hy0 hy1 ⊢
            have e1 : IntKind.u64.wrap (x * z) = y := by rw [hy, IntKind.wrap_u64]; omega
            have hsh := fun W => q16share_c y hy0 (by omega) a m (by omega) (by omega) m0 m1 W
            obtain ⟨R, hR⟩ : ∃ R, shareR y a m = R := ⟨_, rfl⟩
            rw [hR] at hsh ⊢
            have HTO := Lib.hid hto
            have HMU := Lib.hid hmu
            have HSH := Lib.hid hsh
            have j1 : (j : Int) < (n : Int) := by omega
            have j0 : (0 : Int) ≤ (j : Int) := by omega
            obtain ⟨re, rz⟩ := R
            unfold RetNE at hsh ⊢
            clear hto hsh hs ht ht0 hs0 hrd hlen hz hcl hzz hR hi hj hzj hlj hle hmu hb ha hy1 i0 i1 m0 m1 hn hm hy0 hy
            go_enter Tryz.func56, Tryz.ntmps56
            go_wp2_with (first
              | (go_at_call 46; (with_reducible refine (HL.out _).mono ?_); rintro e _ ⟨rfl, rfl⟩)
              | (go_at_call 48; (with_reducible refine (HTO.out _ HR.out).mono ?_); rintro e _ ⟨rfl, rfl⟩)
              | (go_at_call 58; (with_reducible refine (HMU.out _).mono ?_); rintro e _ ⟨rfl, rfl⟩)
              | (go_at_call 88; (with_reducible refine (HSH.out _).mono ?_); rintro e w9 ⟨A9, c9, rfl, hl9, hm9, hr9, hb9⟩; have H9 := Lib.hid (And.intro hl9 (And.intro hm9 (And.intro hr9 hb9))); clear hl9 hm9 hr9 hb9))
            go_ret2
            exact ⟨A9, c9, rfl, H9.out.1, H9.out.2.1, H9.out.2.2.1, H9.out.2.2.2⟩
          · rw [show placeR i m x l = (3, []) by unfold placeR; rw [if_pos hm, if_pos hs, if_neg (by rw [ht]; exact ht0), ht, if_pos hb, if_neg hi]]
            rw [ha] at hmu
            have HTO := Lib.hid hto
            have HMU := Lib.hid hmu
            by_cases h0 : i < 0
            · clear hto hmu hs ht ht0 hs0 hrd hz hi hb ha hle hm
              go_enter Tryz.func56, Tryz.ntmps56
              go_wp2_with (first
                | (go_at_call 46; (with_reducible refine (HL.out _).mono ?_); rintro e _ ⟨rfl, rfl⟩)
                | (go_at_call 48; (with_reducible refine (HTO.out _ HR.out).mono ?_); rintro e _ ⟨rfl, rfl⟩)
                | (go_at_call 58; (with_reducible refine (HMU.out _).mono ?_); rintro e _ ⟨rfl, rfl⟩))
              go_ret2
              exact RetNE.nil _ (Below.refl _ _)
            · have h2 : (n : Int) ≤ i := by omega
              have h3 : 0 ≤ i := by omega
              clear hto hmu hs ht ht0 hs0 hrd hz hi h0 hlen hb ha hle hm
              go_enter Tryz.func56, Tryz.ntmps56
              go_wp2_with (first
                | (go_at_call 46; (with_reducible refine (HL.out _).mono ?_); rintro e _ ⟨rfl, rfl⟩)
                | (go_at_call 48; (with_reducible refine (HTO.out _ HR.out).mono ?_); rintro e _ ⟨rfl, rfl⟩)
                | (go_at_call 58; (with_reducible refine (HMU.out _).mono ?_); rintro e _ ⟨rfl, rfl⟩))
              go_ret2
              exact RetNE.nil _ (Below.refl _ _)
        · rw [show placeR i m x l = (11, []) by unfold placeR; rw [if_pos hm, if_pos hs, if_neg (by rw [ht]; exact ht0), ht, if_neg hb]]
          rw [(mulV_no hb).1, (mulV_no hb).2] at hmu
          have HTO := Lib.hid hto
          have HMU := Lib.hid hmu
          clear hto hmu hs ht ht0 hs0 hrd hlen hz hb hle hm
          go_enter Tryz.func56, Tryz.ntmps56
          go_wp2_with (first
            | (go_at_call 46; (with_reducible refine (HL.out _).mono ?_); rintro e _ ⟨rfl, rfl⟩)
            | (go_at_call 48; (with_reducible refine (HTO.out _ HR.out).mono ?_); rintro e _ ⟨rfl, rfl⟩)
            | (go_at_call 58; (with_reducible refine (HMU.out _).mono ?_); rintro e _ ⟨rfl, rfl⟩))
          go_ret2
          exact RetNE.nil _ (Below.refl _ _)
    · rw [show placeR i m x l = (11, []) by unfold placeR; rw [if_pos hm, if_neg hs]]
      rw [(sumV_no hs).1, (sumV_no hs).2] at hto
      have HTO := Lib.hid hto
      clear hto hs hs0 hrd hlen hz hm
      go_enter Tryz.func56, Tryz.ntmps56
      go_wp2_with (first
        | (go_at_call 46; (with_reducible refine (HL.out _).mono ?_); rintro e _ ⟨rfl, rfl⟩)
        | (go_at_call 48; (with_reducible refine (HTO.out _ HR.out).mono ?_); rintro e _ ⟨rfl, rfl⟩))
      go_ret2
      exact RetNE.nil _ (Below.refl _ _)
  · rw [show placeR i m x l = (1, []) from if_neg hm]
    rw [decide_eq_false hm] at hls
    have HL := Lib.hid hls
    clear hm hto hs0 hrd hlen hz hls
    go_enter Tryz.func56, Tryz.ntmps56
    go_wp2_with (first
      | (go_at_call 46; (with_reducible refine (HL.out _).mono ?_); rintro e _ ⟨rfl, rfl⟩))
    go_ret2
    exact RetNE.nil _ (Below.refl _ _)
theorem q16lead_c (i : Int) (i0 : -9223372036854775808 ≤ i) (i1 : i < 9223372036854775808) (m : Int) (m0 : -9223372036854775808 ≤ m) (m1 : m < 9223372036854775808) (l : List Int) (hz : ∀ z ∈ l, 0 ≤ z ∧ z < 18446744073709551616) (A : Option Addr) (n c : Nat) (hn : n ≤ 1000) (w : World) (hrd : Rd .u64 w w.heap.size A n l) : Calls Tryz.prog 18 #[.int .i64 i, .int .i64 m, .slice A n c] w (RetNE w (leadR' i m l)) := by
  have hp := q16place_c i i0 i1 m m0 m1 1 (by omega) (by omega) l hz A n c (by unfold maxLen; omega) w hrd
  rw [placeR_one] at hp
  obtain ⟨⟨re, rz⟩, hR⟩ : ∃ R, leadR' i m l = R := ⟨_, rfl⟩
  rw [hR] at hp ⊢
  unfold RetNE at hp ⊢
  have HP := Lib.hid hp
  clear hp hR hz hrd
  go_enter Tryz.func18, Tryz.ntmps18
  go_wp2_with (first
    | (go_at_call 56; (with_reducible refine HP.out.mono ?_); rintro e w9 ⟨A9, c9, rfl, hl9, hm9, hr9, hb9⟩; have H9 := Lib.hid (And.intro hl9 (And.intro hm9 (And.intro hr9 hb9))); clear hl9 hm9 hr9 hb9))
  go_ret2
  exact ⟨A9, c9, rfl, H9.out.1, H9.out.2.1, H9.out.2.2.1, H9.out.2.2.2⟩
theorem q16pick_c (i : Int) (i0 : -9223372036854775808 ≤ i) (i1 : i < 9223372036854775808) (m : Int) (m0 : -9223372036854775808 ≤ m) (m1 : m < 9223372036854775808) (l : List Int) (hz : ∀ z ∈ l, 0 ≤ z ∧ z < 18446744073709551616) (A : Option Addr) (n c : Nat) (hn : n ≤ 1000) (w : World) (hrd : Rd .u64 w w.heap.size A n l) : Calls Tryz.prog 23 #[.int .i64 i, .int .i64 m, .slice A n c] w (RetNE w (pickR' i m l)) := by
  have hlen := hrd.len
  have hp := q16place_c i i0 i1 m m0 m1 (n : Int) (by omega) (by omega) l hz A n c (by unfold maxLen; omega) w hrd
  rw [show (n : Int) = (l.length : Int) by rw [hlen], placeR_len, hlen] at hp
  obtain ⟨⟨re, rz⟩, hR⟩ : ∃ R, pickR' i m l = R := ⟨_, rfl⟩
  rw [hR] at hp ⊢
  unfold RetNE at hp ⊢
  have hn2 : (n : Int) ≤ 1000 := by omega
  have hn3 : (0 : Int) ≤ (n : Int) := by omega
  have e1 : IntKind.u64.wrap (n : Int) = (n : Int) := by rw [IntKind.wrap_u64]; omega
  have HP := Lib.hid hp
  clear hp hR hz hrd hlen hn
  go_enter Tryz.func23, Tryz.ntmps23
  go_wp2_with (first
    | (go_at_call 56; (with_reducible refine HP.out.mono ?_); rintro e w9 ⟨A9, c9, rfl, hl9, hm9, hr9, hb9⟩; have H9 := Lib.hid (And.intro hl9 (And.intro hm9 (And.intro hr9 hb9))); clear hl9 hm9 hr9 hb9))
  go_ret2
  exact ⟨A9, c9, rfl, H9.out.1, H9.out.2.1, H9.out.2.2.1, H9.out.2.2.2⟩
end
section
open Go.ChangeShapes Go.WideShapes Go.ChangeAt Go.RowKit
theorem NumV.toR {w : World} {x m c : Nat} {A : Option Addr} (h : NumV w x (.slice A m c)) : NumR w x A m c := by
  obtain ⟨A', m', c', e, h1⟩ := h
  injection e with e1 e2 e3
  subst e1 e2 e3
  exact h1
structure TapX (T : List Turn) (m n cT b gc gs i j r : Nat) (A : Option Addr) (w0 w : World) : Prop where
  bc : Blk w gc 120 #[.slice A n cT, .int .i64 (m : Int), .map (some b)]
  bs : Blk w gs 123 #[.int .i64 (i : Int), .int .i64 (j : Int), .int .i64 (r : Int)]
  tap : TapS T m A b w
  onl : Only b w0 w
  lt : b < w0.heap.size
  gc0 : w0.heap.size ≤ gc
  gs0 : w0.heap.size ≤ gs
section
variable {T : List Turn} {m n cT b gc gs gt i j r k st lost : Nat} {A : Option Addr} {vS vL : Value} {cs0 : Array Value} {w0 w w' w1 w2 : World}
theorem TapX.start (h : TapS T m A b w0) (h1 : Blk w1 w0.heap.size 120 #[.slice A n cT, .int .i64 (m : Int), .map (some b)]) (b1 : Below w0.heap.size w0 w1)
    (h2 : Blk w2 w1.heap.size 123 #[.int .i64 (i : Int), .int .i64 (j : Int), .int .i64 (r : Int)]) (b2 : Below w1.heap.size w1 w2) : TapX T m n cT b w0.heap.size w1.heap.size i j r A w0 w2 :=
  ⟨h1.below b2 h1.lt, h2, (h.below b1).below b2, (Only.of_below b1).trans (.of_below b2), h.map.lt, Nat.le_refl _, b1.size⟩
theorem TapX.below (h : TapX T m n cT b gc gs i j r A w0 w) (hb : Below w.heap.size w w') : TapX T m n cT b gc gs i j r A w0 w' :=
  ⟨h.bc.below hb h.bc.lt, h.bs.below hb h.bs.lt, h.tap.below hb, h.onl.trans (.of_below hb), h.lt, h.gc0, h.gs0⟩
theorem TapX.c0 (h : TapX T m n cT b gc gs i j r A w0 w) : w.cell? ⟨gc, 0, none⟩ = some (.slice A n cT) := by rw [h.bc.cell]; rfl
theorem TapX.c1 (h : TapX T m n cT b gc gs i j r A w0 w) : w.cell? ⟨gc, 1, none⟩ = some (.int .i64 (m : Int)) := by rw [h.bc.cell]; rfl
theorem TapX.c2 (h : TapX T m n cT b gc gs i j r A w0 w) : w.cell? ⟨gc, 2, none⟩ = some (.map (some b)) := by rw [h.bc.cell]; rfl
theorem TapX.s0 (h : TapX T m n cT b gc gs i j r A w0 w) : w.cell? ⟨gs, 0, none⟩ = some (.int .i64 (i : Int)) := by rw [h.bs.cell]; rfl
theorem TapX.s1 (h : TapX T m n cT b gc gs i j r A w0 w) : w.cell? ⟨gs, 1, none⟩ = some (.int .i64 (j : Int)) := by rw [h.bs.cell]; rfl
theorem TapX.s2 (h : TapX T m n cT b gc gs i j r A w0 w) : w.cell? ⟨gs, 2, none⟩ = some (.int .i64 (r : Int)) := by rw [h.bs.cell]; rfl
end
end
section
open Go.ChangeShapes Go.WideShapes Go.ChangeAt Go.RowKit
def flatT : List (Turn × Value × Value) → List Value
  | [] => []
  | p :: ps => .int .i64 (p.1.k : Int) :: p.2.1 :: p.2.2 :: flatT ps
theorem flatT_at : ∀ (ps : List (Turn × Value × Value)) (i : Nat) (p : Turn × Value × Value), ps[i]? = some p → (flatT ps)[i * 3]? = some (.int .i64 (p.1.k : Int)) ∧ (flatT ps)[i * 3 + 1]? = some p.2.1 ∧ (flatT ps)[i * 3 + 2]? = some p.2.2
  | [], i, p, h => by simp at h
  | q :: ps, 0, p, h => by
    injection h with h
    subst h
    exact ⟨rfl, rfl, rfl⟩
  | q :: ps, i + 1, p, h => by
    have h1 := flatT_at ps i p (by simpa using h)
    rw [show (i + 1) * 3 = i * 3 + 3 by omega]
    exact h1
structure TurB (w0 : World) (gO k : Nat) (ps : List (Turn × Value × Value)) (w : World) : Prop where
  blk : ∃ cs, Blk w gO 150 cs ∧ cs.size = k * 3 ∧ cs.toList.take (ps.length * 3) = flatT ps ∧ NoInt .u32 cs
  le : w0.heap.size ≤ gO
  bel : Below w0.heap.size w0 w
  num : ∀ p ∈ ps, NumV w p.1.st p.2.1 ∧ NumV w p.1.lost p.2.2
section
variable {w0 w w' : World} {gO k j : Nat} {ps : List (Turn × Value × Value)}
theorem TurB.below (h : TurB w0 gO k ps w) (hb : Below w.heap.size w w') : TurB w0 gO k ps w' := by
  obtain ⟨cs, h1, h2, h3, h4⟩ := h.blk
  exact ⟨⟨cs, h1.below hb h1.lt, h2, h3, h4⟩, h.le, h.bel.trans (hb.mono h.bel.size), fun p hp => ⟨(h.num p hp).1.below hb, (h.num p hp).2.below hb⟩⟩
theorem noInt_made (k : Nat) : NoInt .u32 (madeCells #[.int .i64 0, .slice none 0 0, .slice none 0 0] k) := by
  intro j z hz
  unfold madeCells at hz
  rw [Array.getElem?_map] at hz
  have h3 : ∀ q : Nat, q < 3 → (#[Value.int .i64 0, .slice none 0 0, .slice none 0 0][q]! : Value) ≠ .int .u32 z := fun q hq => by
    rcases q with _ | _ | _ | q
    · intro h; cases h
    · intro h; cases h
    · intro h; cases h
    · omega
  cases hr : (Array.range k)[j]? with
  | none => rw [hr] at hz; cases hz
  | some v =>
    rw [hr] at hz
    injection hz with hz
    exact h3 _ (Nat.mod_lt _ (by decide)) hz
theorem TurB.start (w : World) (k : Nat) : TurB w w.heap.size k [] (w.alloc (.cells (madeCells #[.int .i64 0, .slice none 0 0, .slice none 0 0] (k * 3)) 150)) :=
  ⟨⟨_, Blk.new w _ _, size_madeCells _ _, by simp [flatT], noInt_made _⟩, Nat.le_refl _, (Below.refl _ _).alloc (Nat.le_refl _) _, fun p hp => by cases hp⟩
theorem TurB.tur (h : TurB w0 gO k ps w) : TurM w (some ⟨gO, 0, none⟩) (ps.map (·.1)) := fun i t ht => by
  obtain ⟨cs, h1, h2, h3, h4⟩ := h.blk
  rw [List.getElem?_map] at ht
  cases hp : ps[i]? with
  | none => rw [hp] at ht; cases ht
  | some p =>
    rw [hp] at ht
    injection ht with ht
    subst ht
    have hi : i < ps.length := (List.getElem?_eq_some_iff.1 hp).1
    obtain ⟨f1, f2, f3⟩ := flatT_at ps i p hp
    have hcell : ∀ q v, q < ps.length * 3 → (flatT ps)[q]? = some v → w.cell? ⟨gO, 0 + q, none⟩ = some v := fun q v hq hv => by
      rw [Nat.zero_add, h1.cell, ← Array.getElem?_toList, ← hv, ← h3, List.getElem?_take, if_pos hq]
    have hn := h.num p (List.mem_of_getElem? hp)
    exact ⟨gO, 0, p.2.1, p.2.2, rfl, hcell _ _ (by omega) f1, hcell _ _ (by omega) f2, hcell _ _ (by omega) f3, hn.1, hn.2⟩
end
end
section
open Go.ChangeShapes Go.WideShapes Go.ChangeAt Go.RowKit

end
end Go.Proofs.YtkhlkggdibaefaaGreatDoor

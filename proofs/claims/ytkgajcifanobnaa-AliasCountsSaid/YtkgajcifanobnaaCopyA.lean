/-
  make and copy, for slices of integers: a block that the call itself made, known whole as a list of numbers.
  Conditions: those that each theorem names.
-/
import Derived.Test.YtkgajcifanobnaaMemA
import Derived.Laws.CopyOwn
import Derived.Laws.MakeOwn
set_option maxRecDepth 100000
namespace Go.Proofs.Ytkgajcifanobnaa
open Go.ChangeShapes Go.WideShapes Go.ChangeAt Go.RowKit

def intsA (k : IntKind) (zs : List Int) : Array Value := (zs.map (Value.int k)).toArray
theorem intsA_size (k : IntKind) (zs : List Int) : (intsA k zs).size = zs.length := by simp [intsA]
theorem intsA_at (k : IntKind) (zs : List Int) (j : Nat) (hj : j < zs.length) : (intsA k zs)[j]? = some (.int k (zs.getD j 0)) := by simp [intsA, hj]
/-- The block g holds the numbers zs, and nothing else. -/
def BlkI (w : World) (g : Nat) (t : TypeId) (k : IntKind) (zs : List Int) : Prop := Blk w g t (intsA k zs)

theorem splice_map {α β : Type} (f : α → β) (L : List α) (off : Nat) (cs : List α) : splice (L.map f) off (cs.map f) = (splice L off cs).map f := by simp [splice]
theorem madeCells_same (v : Value) (m n : Nat) (hm : 0 < m) : madeCells (List.replicate m v).toArray n = (List.replicate n v).toArray := by
  unfold madeCells
  apply Array.ext
  · simp
  · intro i h1 h2
    have h3 : i % m < m := Nat.mod_lt _ hm
    simp [h3]

section
variable {w w' : World} {g B : Nat} {t : TypeId} {k : IntKind} {zs : List Int}
theorem BlkI.lt (h : BlkI w g t k zs) : g < w.heap.size := Blk.lt h
theorem BlkI.cell (h : BlkI w g t k zs) {j : Nat} (hj : j < zs.length) : w.cell? ⟨g, j, none⟩ = some (.int k (zs.getD j 0)) := by rw [Blk.cell h, intsA_at k zs j hj]
theorem BlkI.new (w : World) (t : TypeId) (k : IntKind) (zs : List Int) : BlkI (w.alloc (.cells (intsA k zs) t)) w.heap.size t k zs := Blk.new _ _ _
theorem BlkI.frozen (h : BlkI w g t k zs) (j : Nat) : w.frozen? ⟨g, j, none⟩ = false := Blk.frozen h j
theorem BlkI.set_ (h : BlkI w g t k zs) (j : Nat) (z : Int) : BlkI (w.setCell ⟨g, j, none⟩ (.int k z)) g t k (zs.set j z) := by
  have h1 := Blk.set_ h j (.int k z)
  unfold BlkI
  rw [show intsA k (zs.set j z) = (intsA k zs).setIfInBounds j (.int k z) by simp [intsA, List.map_set]]
  exact h1
theorem BlkI.drew (h : BlkI w g t k zs) : BlkI w.drew g t k zs := h
theorem BlkI.alloc (h : BlkI w g t k zs) (o : Obj) : BlkI (w.alloc o) g t k zs := Blk.alloc h o
theorem BlkI.below (h : BlkI w g t k zs) (hb : Below B w w') (hg : g < B) : BlkI w' g t k zs := Blk.below h hb hg
theorem BlkI.far (h : BlkI w g t k zs) {p : Addr} (hp : g ≠ p.block) (u : Value) : BlkI (w.setCell p u) g t k zs := Blk.far h hp u
theorem BlkI.other (h : BlkI w g t k zs) {r : Nat} (ho : ∀ j, j ≠ r → w'.heap[j]? = w.heap[j]?) (hg : g ≠ r) : BlkI w' g t k zs := (ho g hg).trans h
theorem BlkI.rdAt (h : BlkI w g t k zs) {off n : Nat} (hn : off + n ≤ zs.length) : Rd k w w.heap.size (some ⟨g, off, none⟩) n ((zs.drop off).take n) := by
  refine ⟨by rw [List.length_take, List.length_drop]; omega, fun _ => ⟨g, off, rfl, h.lt, fun j hj => ?_⟩⟩
  rw [h.cell (by omega)]
  congr 2
  simp only [List.getD_eq_getElem?_getD, List.getElem?_take, List.getElem?_drop]
  rw [if_pos hj]
theorem BlkI.rd (h : BlkI w g t k zs) : Rd k w w.heap.size (some ⟨g, 0, none⟩) zs.length zs := by
  have := h.rdAt (off := 0) (n := zs.length) (by omega)
  rwa [List.drop_zero, List.take_of_length_le (Nat.le_refl _)] at this
theorem BlkI.rdA (h : BlkI w g t k zs) {s : Nat} {bs : List (List Int)} (hz : zs = bs.flatten) (hs : ∀ x ∈ bs, x.length = s) : RdA k s w w.heap.size (some ⟨g, 0, none⟩) bs.length bs := by
  refine ⟨rfl, hs, fun _ => ⟨g, 0, rfl, h.lt, fun j u hu => ?_⟩⟩
  rw [Nat.zero_add, Blk.cell h, hz]
  simpa [intsA] using hu
end

section
variable {P : Program}
theorem run_make_ints (t e : TypeId) (i : TypeInfo) (k : IntKind) (ht : P.underlying t = some (.slice e)) (hi : P.info? e = some i) (hz : i.zero = some (.int k 0)) (hs : i.size = 1)
    (kl kc : IntKind) (n : Nat) (hb : i.bytes * n ≤ 281474976710656) (h63 : n ≤ 9223372036854775807) (w : World) :
    (Instr.makeSlice t (.int kl (n : Int)) (.int kc (n : Int))).run P w = .ok (.slice (some ⟨w.heap.size, 0, none⟩) n n) (w.alloc (.cells (intsA k (List.replicate n 0)) e)) := by
  have hb' : (i.bytes : Int) * (n : Int) ≤ 281474976710656 := by
    have h : ((i.bytes * n : Nat) : Int) ≤ 281474976710656 := by omega
    rwa [Int.natCast_mul] at h
  have hr := run_make (P := P) w t e i _ ht hi hz kl kc n n (by omega) (by omega) hb' (by omega)
  simp only [Int.toNat_natCast, hs, Nat.mul_one] at hr
  rw [hr, show madeCells (Value.int k 0).cells n = intsA k (List.replicate n 0) from ?_]
  have h1 := madeCells_same (.int k 0) 1 n (by omega)
  simpa [intsA, Value.cells] using h1
theorem run_make_arrs (t e : TypeId) (i : TypeInfo) (k : IntKind) (s : Nat) (hs0 : 0 < s) (ht : P.underlying t = some (.slice e)) (hi : P.info? e = some i) (hz : i.zero = some (.agg (List.replicate s (Value.int k 0)).toArray)) (hs : i.size = s)
    (kl kc : IntKind) (n : Nat) (hb : i.bytes * n ≤ 281474976710656) (h63 : n ≤ 9223372036854775807) (w : World) :
    (Instr.makeSlice t (.int kl (n : Int)) (.int kc (n : Int))).run P w = .ok (.slice (some ⟨w.heap.size, 0, none⟩) n n) (w.alloc (.cells (intsA k (List.replicate (n * s) 0)) e)) := by
  have hb' : (i.bytes : Int) * (n : Int) ≤ 281474976710656 := by
    have h : ((i.bytes * n : Nat) : Int) ≤ 281474976710656 := by omega
    rwa [Int.natCast_mul] at h
  have hr := run_make (P := P) w t e i _ ht hi hz kl kc n n (by omega) (by omega) hb' (by omega)
  simp only [Int.toNat_natCast, hs] at hr
  rw [hr, show madeCells (Value.agg (List.replicate s (Value.int k 0)).toArray).cells (n * s) = intsA k (List.replicate (n * s) 0) from ?_]
  have h1 := madeCells_same (.int k 0) s (n * s) hs0
  simpa [intsA, Value.cells] using h1

/-- Guards for an arm of a walk: only at an operation; only at the one that writes slot d. -/
theorem at_any {w : World} {ops : Array Oper} {rest : List Oper} {a : Act} {Q : Exit → Act → World → Prop} {o : Oper} (h : wpList P ops Q (o :: rest) a w) : wpList P ops Q (o :: rest) a w := h
theorem at_dst {w : World} {ops : Array Oper} {rest : List Oper} {a : Act} {Q : Exit → Act → World → Prop} {o : Oper} (d : Tmp) (_ : o.dst = some d) (h : wpList P ops Q (o :: rest) a w) : wpList P ops Q (o :: rest) a w := h
/-- Only at a store through slot d. -/
theorem at_store {w : World} {ops : Array Oper} {rest : List Oper} {a : Act} {Q : Exit → Act → World → Prop} {o : Oper} (d : Tmp) {t : TypeId} {x : Operand} (_ : o.op = .store t (.tmp d) x) (h : wpList P ops Q (o :: rest) a w) : wpList P ops Q (o :: rest) a w := h
/-- An operation whose value is known. -/
theorem wpList_val {w : World} {ops : Array Oper} {rest : List Oper} {o : Oper} {a : Act} {Q : Exit → Act → World → Prop} (hgd : o.guard = none) (v : Value) (hv : (execOp a.eval o).run P w = .ok (.value v) w)
    (h : wpList P ops Q rest (a.put o.dst v) w) : wpList P ops Q (o :: rest) a w := by
  refine wpList_plain hgd fun K hK => ?_
  unfold Oper.wp
  simp only [hv]
  exact hK _ _ h
theorem step_dst {w : World} {ops : Array Oper} {a : Act} {o : Oper} {K : Act → World → Prop} {Q : Exit → Act → World → Prop} {E : Prop} (d : Tmp) (_ : o.dst = some d)
    (h : if Region.wanted o (yielded ops a.tmps) = true then Oper.wp P o a w K Q else E) : if Region.wanted o (yielded ops a.tmps) = true then Oper.wp P o a w K Q else E := h
/-- copy onto a block that is known whole: n numbers go over. -/
theorem wpList_copy_ints {w : World} {ops : Array Oper} {rest : List Oper} {o : Oper} {a : Act} {Q : Exit → Act → World → Prop} (hgd : o.guard = none) (d s : Operand) (dT sT : TypeId)
    (ho : o.op = .call { callee := .builtin .copy, args := #[d, s], argTypes := #[dT, sT] }) (elem : TypeId) (hu : P.underlying dT = some (.slice elem)) (hsz : (P.info? elem).map (·.size) = some 1)
    (dp sp : Option Addr) (dLen dCap sLen sCap : Nat) (hd : a.eval d = .slice dp dLen dCap) (hs : a.eval s = .slice sp sLen sCap)
    (g off : Nat) (k : IntKind) (zs : List Int) (t : TypeId) (hg : BlkI w g t k zs) (n : Nat) (hn : n ≤ sLen ∧ n ≤ dLen ∧ (n = sLen ∨ n = dLen)) (B' : Nat) (ys : List Int) (hr : Rd k w B' sp n ys)
    (hdp : 0 < n → dp = some ⟨g, off, none⟩) (hfit : off + n ≤ zs.length) (B : Nat) (w0 : World) (hb : Below B w0 w) (hBg : B ≤ g)
    (h : ∀ w', Hid (BlkI w' g t k (splice zs off ys)) → Below B w0 w' → wpList P ops Q rest (a.put o.dst (.int .i64 (n : Int))) w') :
    wpList P ops Q (o :: rest) a w := by
  have hl := hr.len
  refine wpList_copy_splice hgd d s dT sT ho elem hu hsz dp sp dLen dCap sLen sCap hd hs g off (zs.map (Value.int k)) t hg (ys.map (Value.int k)) (show (ys.map (Value.int k)).length = min sLen dLen by rw [List.length_map, hl]; omega) ?_ (by simp [hl]; exact hfit) (ints_one k ys) B w0 hb hBg ?_
  · intro h0
    have h1 : 0 < n := by simpa [hl] using h0
    obtain ⟨b, o', e, _, _⟩ := hr.at_ h1
    subst e
    exact ⟨hdp h1, _, rfl, hr.news⟩
  · intro w' h1 h2
    have h3 := h w' (show _ from by rw [splice_map] at h1; exact h1) h2
    rwa [show goInt (ys.map (Value.int k)).length = Value.int .i64 (n : Int) by simp [goInt, hl]]
theorem step_copy_ints {ops : Array Oper} {o : Oper} {a : Act} {w : World} {K : Act → World → Prop} {Q : Exit → Act → World → Prop} {E : Prop} (hgd : o.guard = none) (d s : Operand) (dT sT : TypeId)
    (ho : o.op = .call { callee := .builtin .copy, args := #[d, s], argTypes := #[dT, sT] }) (elem : TypeId) (hu : P.underlying dT = some (.slice elem)) (hsz : (P.info? elem).map (·.size) = some 1)
    (dp sp : Option Addr) (dLen dCap sLen sCap : Nat) (hd : a.eval d = .slice dp dLen dCap) (hs : a.eval s = .slice sp sLen sCap)
    (g off : Nat) (k : IntKind) (zs : List Int) (t : TypeId) (hg : BlkI w g t k zs) (n : Nat) (hn : n ≤ sLen ∧ n ≤ dLen ∧ (n = sLen ∨ n = dLen)) (B' : Nat) (ys : List Int) (hr : Rd k w B' sp n ys)
    (hdp : 0 < n → dp = some ⟨g, off, none⟩) (hfit : off + n ≤ zs.length) (B : Nat) (w0 : World) (hb : Below B w0 w) (hBg : B ≤ g)
    (h : ∀ w', Hid (BlkI w' g t k (splice zs off ys)) → Below B w0 w' → K (a.put o.dst (.int .i64 (n : Int))) w') :
    if Region.wanted o (yielded ops a.tmps) = true then Oper.wp P o a w K Q else E := by
  have hl := hr.len
  refine step_copy_splice hgd d s dT sT ho elem hu hsz dp sp dLen dCap sLen sCap hd hs g off (zs.map (Value.int k)) t hg (ys.map (Value.int k)) (show (ys.map (Value.int k)).length = min sLen dLen by rw [List.length_map, hl]; omega) ?_ (by simp [hl]; exact hfit) (ints_one k ys) B w0 hb hBg ?_
  · intro h0
    have h1 : 0 < n := by simpa [hl] using h0
    obtain ⟨b, o', e, _, _⟩ := hr.at_ h1
    subst e
    exact ⟨hdp h1, _, rfl, hr.news⟩
  · intro w' h1 h2
    have h3 := h w' (show _ from by rw [splice_map] at h1; exact h1) h2
    rwa [show goInt (ys.map (Value.int k)).length = Value.int .i64 (n : Int) by simp [goInt, hl]]
end
end Go.Proofs.Ytkgajcifanobnaa

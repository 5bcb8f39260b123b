/-
  Texts of this claim, joined: MemA, NatP, CopyA, ArrM, HeldA, HeldB, RegA, NatM, NatR, NatD, NatL, PlainA, NedP, SafP, OddP, OddM, ArrA, WordA, NedA, SafA, NatA, NatB, NatC. What each shows, and its conditions, stand at its own head.
-/
import Derived.Handy
import Derived.Lib.Hide
import Derived.Below
import Derived.Deep.Draws
import Derived.Maps.AppendAt
import Derived.Deep.AppendLies
import Derived.OwnWalk
import Derived.Laws.BytesString
import Derived.Deep.MidRow
import Derived.Great.BuildSlice
import Derived.Deep.QuietTactic
import Derived.BigQuiet
import Derived.Laws.CopyOwn
import Derived.Laws.MakeOwn
import Derived.Deep.WholeRow
import Derived.Deep.RegionHeld3
import Derived.Test.YtaaahgkpicjnoaaRows
import Derived.Laws.BitsAllLaws
import Derived.ChangeSame
import Derived.Laws.Externs
import Derived.Lib.Mul64
import Derived.Deep.CutRange
import Derived.Deep.CutBlock
/-
  Slices of integers in memory: what one reads as, that reading kept, cut, made a string, and appended to a row of the call's own.
  Conditions: those that each theorem names.
-/
set_option maxRecDepth 100000
namespace Go.Proofs.Ytaaahgkpicjnoaa
open Go.ChangeShapes Go.WideShapes Go.ChangeAt Go.RowKit

/-- The slice (A, n, ..) reads as the numbers zs, and lies below block B; nil and empty ones let in. -/
def Rd (k : IntKind) (w : World) (B : Nat) (A : Option Addr) (n : Nat) (zs : List Int) : Prop :=
  zs.length = n ∧ (0 < n → ∃ b off, A = some ⟨b, off, none⟩ ∧ b < B ∧ ∀ j, j < n → w.cell? ⟨b, off + j, none⟩ = some (.int k (zs.getD j 0)))

theorem add_flat (b off j : Nat) : (⟨b, off, none⟩ : Addr).add j = ⟨b, off + j, none⟩ := by
  unfold Addr.add
  split
  · rename_i h; rw [h]; rfl
  · rfl

section
variable {k : IntKind} {w w' : World} {B B' n : Nat} {A : Option Addr} {zs ys : List Int}
theorem Rd.len (h : Rd k w B A n zs) : zs.length = n := h.1
theorem Rd.none_ : Rd k w B A 0 [] := ⟨rfl, fun h => absurd h (by omega)⟩
theorem Rd.at_ (h : Rd k w B A n zs) (hn : 0 < n) : ∃ b off, A = some ⟨b, off, none⟩ ∧ b < B ∧ ∀ j, j < n → w.cell? ⟨b, off + j, none⟩ = some (.int k (zs.getD j 0)) := h.2 hn
theorem Rd.keep (h : Rd k w B A n zs) (hk : ∀ p : Addr, p.block < B → w'.cell? p = w.cell? p) : Rd k w' B A n zs :=
  ⟨h.1, fun hn => by
    obtain ⟨b, off, e, hb, hc⟩ := h.2 hn
    exact ⟨b, off, e, hb, fun j hj => (hk ⟨b, off + j, none⟩ hb).trans (hc j hj)⟩⟩
theorem Rd.mono (h : Rd k w B A n zs) (hB : B ≤ B') : Rd k w B' A n zs :=
  ⟨h.1, fun hn => by
    obtain ⟨b, off, e, hb, hc⟩ := h.2 hn
    exact ⟨b, off, e, by omega, hc⟩⟩
theorem Rd.below (h : Rd k w B A n zs) (hb : Below B w w') : Rd k w' B A n zs := h.keep fun _ hp => hb.cell hp
theorem Rd.drew (h : Rd k w B A n zs) : Rd k w.drew B A n zs := h
theorem Rd.drewN (h : Rd k w B A n zs) (m : Nat) : Rd k (w.drewN m) B A n zs := h
theorem Rd.alloc (h : Rd k w B A n zs) (hB : B ≤ w.heap.size) (o : Obj) : Rd k (w.alloc o) B A n zs := h.keep fun p hp => World.cell?_alloc_lt w o p (by omega)
/-- Within the world's own size. -/
theorem Rd.fit (h : Rd k w B A n zs) : Rd k w w.heap.size A n zs :=
  ⟨h.1, fun hn => by
    obtain ⟨b, off, e, hb, hc⟩ := h.2 hn
    exact ⟨b, off, e, World.block_lt_of_cell? w _ (hc 0 hn), hc⟩⟩
/-- What a row of the call's own reads as. -/
theorem Rd.of_own {base c : Nat} {e : TypeId} (h : w.ownsRow base e 1 (.slice A n c) n (zs.map (Value.int k))) : Rd k w w.heap.size A n zs := by
  refine ⟨by have := h.1; simpa using this, fun hn => ?_⟩
  obtain ⟨g, cap, hv, _, hlt⟩ := h.form hn
  have hA : A = some ⟨g, 0, none⟩ := by injection hv
  subst hA
  refine ⟨g, 0, rfl, hlt, fun j hj => ?_⟩
  have hl : j < zs.length := by have := h.1; simp at this; omega
  have hc := h.cells (g := g) rfl j (.int k (zs.getD j 0)) (by simp [hl])
  rw [add_flat] at hc
  exact hc
/-- Cut: from i on, up to j. -/
theorem Rd.cut (h : Rd k w B A n zs) {i j cap : Nat} (hi : i ≤ j) (hj : j ≤ n) (hc : n ≤ cap) :
    Rd k w B (if cap = i then A else A.map (·.add (i * 1))) (j - i) ((zs.take j).drop i) := by
  refine ⟨by rw [List.length_drop, List.length_take, h.1]; omega, fun hn => ?_⟩
  obtain ⟨b, off, rfl, hb, hcell⟩ := h.2 (by omega)
  rw [if_neg (by omega)]
  refine ⟨b, off + i, by rw [Option.map_some, Nat.mul_one, add_flat], hb, fun m hm => ?_⟩
  rw [Nat.add_assoc, hcell (i + m) (by omega)]
  congr 2
  simp only [List.getD_eq_getElem?_getD, List.getElem?_drop, List.getElem?_take]
  rw [if_pos (by omega)]
theorem Rd.from_ (h : Rd k w B A n zs) {i cap : Nat} (hi : i ≤ n) (hc : n ≤ cap) :
    Rd k w B (if cap = i then A else A.map (·.add (i * 1))) (n - i) (zs.drop i) := by
  have := h.cut hi (Nat.le_refl n) hc
  rwa [List.take_of_length_le (by rw [h.1]; exact Nat.le_refl _)] at this
theorem Rd.upto (h : Rd k w B A n zs) {j : Nat} (hj : j ≤ n) : Rd k w B A j (zs.take j) := by
  refine ⟨by rw [List.length_take, h.1]; omega, fun hn => ?_⟩
  obtain ⟨b, off, rfl, hb, hcell⟩ := h.2 (by omega)
  refine ⟨b, off, rfl, hb, fun m hm => ?_⟩
  rw [hcell m (by omega)]
  congr 2
  simp only [List.getD_eq_getElem?_getD, List.getElem?_take]
  rw [if_pos (by omega)]
/-- As the cells that an append takes. -/
theorem Rd.news {ad : Addr} (h : Rd k w B (some ad) n zs) : ∀ j u, (zs.map (Value.int k))[j]? = some u → w.cell? (ad.add j) = some u := by
  intro j u hu
  have hj : j < zs.length := by
    rcases Nat.lt_or_ge j zs.length with h1 | h1
    · exact h1
    · rw [List.getElem?_eq_none (by simpa using h1)] at hu; cases hu
  obtain ⟨b, off, e, _, hc⟩ := h.2 (by rw [← h.1]; omega)
  injection e with e
  subst e
  rw [add_flat, hc j (by rw [← h.1]; exact hj)]
  rw [← hu]
  simp [hj]
end

theorem ints_one (k : IntKind) (zs : List Int) : ∀ u ∈ zs.map (Value.int k), u.oneCell' = true := by
  intro u hu
  obtain ⟨z, _, rfl⟩ := List.mem_map.1 hu
  rfl

/-! ### append onto a row of the call's own -/
section
variable {P : Program} (w : World)
/-- A row of the call's own that holds the numbers zs. -/
def OwnI (w : World) (base : Nat) (e : TypeId) (k : IntKind) (v : Value) (zs : List Int) : Prop := w.ownsRow base e 1 v zs.length (zs.map (Value.int k))
theorem OwnI.form {w : World} {base : Nat} {e : TypeId} {k : IntKind} {v : Value} {zs : List Int} (h : OwnI w base e k v zs) : ∃ A c, v = .slice A zs.length c ∧ zs.length ≤ c ∧ c ≤ maxLen := by
  rcases h.2 with ⟨rfl, hn⟩ | ⟨g, cap, cur, rfl, _, _, h1, h2, _⟩
  · exact ⟨none, 0, by rw [hn], by omega, by simp [maxLen]⟩
  · exact ⟨_, _, rfl, h1, h2⟩
theorem OwnI.rd {w : World} {base : Nat} {e : TypeId} {k : IntKind} {A : Option Addr} {n c : Nat} {zs : List Int} (h : OwnI w base e k (.slice A n c) zs) (hn : zs.length = n) : Rd k w w.heap.size A n zs := by
  subst hn
  exact Rd.of_own h
theorem OwnI.block_ge {w : World} {base : Nat} {e : TypeId} {k : IntKind} {v : Value} {zs : List Int} (h : OwnI w base e k v zs) : ∀ g, v.ownBlock = some g → base ≤ g := by
  intro g hg
  rcases h.2 with ⟨rfl, _⟩ | ⟨g', cap, cur, rfl, hb, _⟩
  · simp [Value.ownBlock] at hg
  · simp [Value.ownBlock] at hg
    omega
theorem OwnI.drew {w : World} {base : Nat} {e : TypeId} {k : IntKind} {v : Value} {zs : List Int} (h : OwnI w base e k v zs) : OwnI w.drew base e k v zs := h

theorem run_append_nothing (base : Nat) (t ty e : TypeId) (i : TypeInfo) (ht : P.underlying t = some (.slice e)) (hi : P.info? e = some i)
    (v : Value) (n : Nat) (xs : List Value) (hown : w.ownsRow base e 1 v n xs) (c : Nat) : (Builtin.append_ #[t, t] ty #[v, .slice none 0 c]).run P w = .ok v w := by
  rcases hown.2 with ⟨rfl, rfl⟩ | ⟨g, cap, cur, rfl, _, _, hnc, _⟩
  · simp [Builtin.append_, run_underlying ht, sizeOf, typeInfo, hi, Builtin.lenOf, Builtin.firstCells]
  · simp [Builtin.append_, run_underlying ht, sizeOf, typeInfo, hi, Builtin.lenOf, Builtin.firstCells, hnc, storeCells]

theorem run_append_ints (base : Nat) (t ty e : TypeId) (i : TypeInfo) (z : Value) (bytes : Nat) (k : IntKind) (ht : P.underlying t = some (.slice e)) (hi : P.info? e = some i) (hz : i.zero = some z)
    (hsize : i.size = 1) (hby : i.bytes = bytes) (hzs : z.cells.size = 1) (v : Value) (zs : List Int) (hown : OwnI w base e k v zs)
    (B : Nat) (A : Option Addr) (m c : Nat) (ys : List Int) (hr : Rd k w B A m ys)
    (h63 : zs.length + m ≤ maxLen) (hbytes : (zs.length + m) * bytes ≤ 140737488355328) (hbase : base ≤ w.heap.size) :
    ∃ v' w', (Builtin.append_ #[t, t] ty #[v, .slice A m c]).run P w = .ok v' w' ∧ OwnI w' base e k v' (zs ++ ys) ∧ w.grownBy w' v.ownBlock ∧
      (v'.ownBlock = v.ownBlock ∨ v'.ownBlock = some w.heap.size) := by
  rcases A with _ | ad
  · have hm : m = 0 := by
      rcases Nat.eq_zero_or_pos m with h0 | h0
      · exact h0
      · obtain ⟨b, off, e, _⟩ := hr.2 h0
        cases e
    subst hm
    have hn : ys = [] := List.eq_nil_of_length_eq_zero hr.1
    subst hn
    exact ⟨v, w, run_append_nothing w base t ty e i ht hi v _ _ hown c, by simpa using hown, World.grownBy.refl w _, .inl rfl⟩
  · obtain ⟨v', w', hrun, h2, h3, _, h5⟩ := run_append_own_at (P := P) w base t ty e i z 1 bytes ht hi hz hsize hby hzs (by omega) v zs.length _ hown ad m c (ys.map (Value.int k)) (by simpa using hr.1) hr.news (ints_one k ys) h63 hbytes hbase
    refine ⟨v', w', hrun, ?_, h3, h5⟩
    unfold OwnI
    rw [List.length_append, hr.1, List.map_append]
    exact h2

theorem wp_append_ints {o : Oper} {a : Act} {K : Act → World → Prop} {Q : Exit → Act → World → Prop} (s x : Operand) (t : TypeId)
    (ho : o.op = .call { callee := .builtin .append, args := #[s, x], argTypes := #[t, t] })
    (base : Nat) (e : TypeId) (i : TypeInfo) (z : Value) (bytes : Nat) (k : IntKind) (ht : P.underlying t = some (.slice e)) (hi : P.info? e = some i) (hz : i.zero = some z)
    (hsize : i.size = 1) (hby : i.bytes = bytes) (hzs : z.cells.size = 1) (v : Value) (zs : List Int) (hs : a.eval s = v) (hown : OwnI w base e k v zs)
    (B : Nat) (A : Option Addr) (m c : Nat) (ys : List Int) (hx : a.eval x = .slice A m c) (hr : Rd k w B A m ys)
    (h63 : zs.length + m ≤ maxLen) (hbytes : (zs.length + m) * bytes ≤ 140737488355328) (hbase : base ≤ w.heap.size)
    (h : ∀ v' w', OwnI w' base e k v' (zs ++ ys) → w.grownBy w' v.ownBlock → (v'.ownBlock = v.ownBlock ∨ v'.ownBlock = some w.heap.size) → K (a.put o.dst v') w') : o.wp P a w K Q := by
  obtain ⟨v', w', hrun, h2, h3, h4⟩ := run_append_ints (P := P) w base t o.type e i z bytes k ht hi hz hsize hby hzs v zs hown B A m c ys hr h63 hbytes hbase
  unfold Oper.wp execOp
  simp only [ho, resolve, invoke, builtin, Sem.run_bind, Sem.run_pure, Result.andThen_ok, List.map_toArray, List.map_cons, List.map_nil, hs, hx, hrun]
  exact h v' w' h2 h3 h4

theorem wpList_append_ints {ops : Array Oper} {rest : List Oper} {o : Oper} {a : Act} {Q : Exit → Act → World → Prop} (hgd : o.guard = none) (s x : Operand) (t : TypeId)
    (ho : o.op = .call { callee := .builtin .append, args := #[s, x], argTypes := #[t, t] })
    (base : Nat) (e : TypeId) (i : TypeInfo) (z : Value) (bytes : Nat) (k : IntKind) (ht : P.underlying t = some (.slice e)) (hi : P.info? e = some i) (hz : i.zero = some z)
    (hsize : i.size = 1) (hby : i.bytes = bytes) (hzs : z.cells.size = 1) (v : Value) (zs : List Int) (hs : a.eval s = v) (hown : OwnI w base e k v zs)
    (B : Nat) (A : Option Addr) (m c : Nat) (ys : List Int) (hx : a.eval x = .slice A m c) (hr : Rd k w B A m ys)
    (h63 : zs.length + m ≤ maxLen) (hbytes : (zs.length + m) * bytes ≤ 140737488355328) (hbase : base ≤ w.heap.size)
    (h : ∀ v' w', OwnI w' base e k v' (zs ++ ys) → w.grownBy w' v.ownBlock → (v'.ownBlock = v.ownBlock ∨ v'.ownBlock = some w.heap.size) → wpList P ops Q rest (a.put o.dst v') w') : wpList P ops Q (o :: rest) a w :=
  wpList_plain hgd fun _ hK => wp_append_ints w s x t ho base e i z bytes k ht hi hz hsize hby hzs v zs hs hown B A m c ys hx hr h63 hbytes hbase fun v' w' h2 h3 h4 => hK _ _ (h v' w' h2 h3 h4)
end

theorem step_append_ints {P : Program} (w : World) {ops : Array Oper} {o : Oper} {a : Act} {K : Act → World → Prop} {Q : Exit → Act → World → Prop} {E : Prop} (hgd : o.guard = none) (s x : Operand) (t : TypeId)
    (ho : o.op = .call { callee := .builtin .append, args := #[s, x], argTypes := #[t, t] })
    (base : Nat) (e : TypeId) (i : TypeInfo) (z : Value) (bytes : Nat) (k : IntKind) (ht : P.underlying t = some (.slice e)) (hi : P.info? e = some i) (hz : i.zero = some z)
    (hsize : i.size = 1) (hby : i.bytes = bytes) (hzs : z.cells.size = 1) (v : Value) (zs : List Int) (hs : a.eval s = v) (hown : OwnI w base e k v zs)
    (B : Nat) (A : Option Addr) (m c : Nat) (ys : List Int) (hx : a.eval x = .slice A m c) (hr : Rd k w B A m ys)
    (h63 : zs.length + m ≤ maxLen) (hbytes : (zs.length + m) * bytes ≤ 140737488355328) (hbase : base ≤ w.heap.size)
    (h : ∀ v' w', OwnI w' base e k v' (zs ++ ys) → w.grownBy w' v.ownBlock → (v'.ownBlock = v.ownBlock ∨ v'.ownBlock = some w.heap.size) → K (a.put o.dst v') w') :
    if Region.wanted o (yielded ops a.tmps) = true then Oper.wp P o a w K Q else E := by
  rw [if_pos (by simp [Region.wanted, hgd])]
  exact wp_append_ints w s x t ho base e i z bytes k ht hi hz hsize hby hzs v zs hs hown B A m c ys hx hr h63 hbytes hbase h

/-! ### bytes as a string -/
def strB (zs : List Int) : ByteArray := zs.foldl (fun r n => r.push (UInt8.ofNat n.toNat)) ByteArray.empty
theorem run_str {P : Program} {w : World} {src dst e : TypeId} {B : Nat} {A : Option Addr} {n c : Nat} {zs : List Int}
    (hs : P.underlying src = some (.slice e)) (he : P.underlying e = some (.int .u8)) (hd : P.underlying dst = some .string) (h : Rd .u8 w B A n zs) (hA : A = none → n = 0) :
    (convert src dst (.slice A n c)).run P w = .ok (.string (strB zs)) w := by
  rw [run_convert_bytes_string w src dst e A n c hs he hd]
  rcases A with _ | ad
  · have hn := hA rfl
    subst hn
    have : zs = [] := List.eq_nil_of_length_eq_zero h.1
    subst this
    simp [Conv.bytesToString, strB, go_sem]
  · have hl := run_loadCells_list (P := P) (w := w) ad (zs.map (Value.int .u8)) h.news
    rw [List.length_map, h.1] at hl
    exact run_bytesToString w ad n c zs hl
theorem strB_foldl (zs : List Int) : ∀ r : ByteArray, (zs.foldl (fun r n => r.push (UInt8.ofNat n.toNat)) r).data.toList = r.data.toList ++ zs.map fun n => UInt8.ofNat n.toNat := by
  induction zs with
  | nil => intro r; simp
  | cons z zs ih =>
    intro r
    rw [List.foldl_cons, ih]
    simp
theorem strB_list (zs : List Int) : (strB zs).data.toList = zs.map fun n => UInt8.ofNat n.toNat := by
  unfold strB
  rw [strB_foldl]
  simp
theorem strB_inj {zs ys : List Int} (hz : ∀ z ∈ zs, 0 ≤ z ∧ z < 256) (hy : ∀ z ∈ ys, 0 ≤ z ∧ z < 256) (h : strB zs = strB ys) : zs = ys := by
  have h1 : zs.map (fun n => UInt8.ofNat n.toNat) = ys.map fun n => UInt8.ofNat n.toNat := by rw [← strB_list, ← strB_list, h]
  have back : ∀ l : List Int, (∀ z ∈ l, 0 ≤ z ∧ z < 256) → (l.map fun n => UInt8.ofNat n.toNat).map (fun u => (u.toNat : Int)) = l := by
    intro l hl
    rw [List.map_map]
    conv => rhs; rw [← List.map_id l]
    apply List.map_congr_left
    intro z hz
    have := hl z hz
    simp only [Function.comp_def, UInt8.toNat_ofNat', id]
    omega
  rw [← back zs hz, ← back ys hy, h1]
theorem strB_eq {zs ys : List Int} (hz : ∀ z ∈ zs, 0 ≤ z ∧ z < 256) (hy : ∀ z ∈ ys, 0 ≤ z ∧ z < 256) : (strB zs = strB ys) ↔ zs = ys := ⟨strB_inj hz hy, fun h => by rw [h]⟩

theorem below_of_drew {B : Nat} {w w' : World} (h : Below B w.drew w') : Below B w w' := ⟨h.os, h.tape, h.output, h.size, h.block⟩
theorem belNext {W w1 w2 : World} (hb : Below w1.heap.size w1 w2) (h : Below W.heap.size W w1) : Below W.heap.size W w2 := h.trans (hb.mono h.size)
theorem below_drewN {B : Nat} {a w : World} (h : Below B a w) (n : Nat) : Below B a (w.drewN n) := ⟨h.os, h.tape, h.output, h.size, h.block⟩

/-! ### blocks that are known whole; what an append leaves -/
def Blk (w : World) (g : Nat) (t : TypeId) (cs : Array Value) : Prop := w.heap[g]? = some (.cells cs t (0, 0))
section
variable {w w' : World} {g base : Nat} {t e : TypeId} {cs : Array Value} {k : IntKind} {v : Value} {zs : List Int}
theorem Blk.lt (h : Blk w g t cs) : g < w.heap.size := by
  rcases Nat.lt_or_ge g w.heap.size with hlt | hge
  · exact hlt
  · unfold Blk at h; rw [Array.getElem?_eq_none hge] at h; cases h
theorem Blk.cell (h : Blk w g t cs) (i : Nat) : w.cell? ⟨g, i, none⟩ = cs[i]? := cell_of_row w g i cs t (0, 0) h
theorem Blk.new (w : World) (t : TypeId) (cs : Array Value) : Blk (w.alloc (.cells cs t)) w.heap.size t cs := heap_alloc_new w _
theorem Blk.frozen (h : Blk w g t cs) (i : Nat) : w.frozen? ⟨g, i, none⟩ = false := by
  unfold Blk at h
  simp [World.frozen?, h]
theorem Blk.set_ (h : Blk w g t cs) (i : Nat) (u : Value) : Blk (w.setCell ⟨g, i, none⟩ u) g t (cs.setIfInBounds i u) := by
  unfold Blk at h ⊢
  simp [World.setCell, Array.getElem?_modify, h]
theorem Blk.far (h : Blk w g t cs) {p : Addr} (hp : g ≠ p.block) (u : Value) : Blk (w.setCell p u) g t cs := (Below.heap_setCell w p u g hp).trans h
theorem Blk.range (h : Blk w g t cs) : w.rangeAt g 0 cs.toList := by
  intro j v hv
  rw [Nat.zero_add, h.cell j]
  simpa using hv
theorem Blk.drew (h : Blk w g t cs) : Blk w.drew g t cs := h
theorem Blk.alloc (h : Blk w g t cs) (o : Obj) : Blk (w.alloc o) g t cs := (Below.heap_alloc w o g h.lt).trans h
theorem Blk.below {B : Nat} (h : Blk w g t cs) (hb : Below B w w') (hg : g < B) : Blk w' g t cs := (hb.block g hg).trans h
/-- An append onto a row of another element type leaves it. -/
theorem Blk.grown (h : Blk w g t cs) (ho : OwnI w base e k v zs) (hne : e ≠ t) (hb : w.grownBy w' v.ownBlock) : Blk w' g t cs := by
  refine (hb.block g h.lt ?_).trans h
  rcases ho.2 with ⟨rfl, _⟩ | ⟨g', cap, cur, rfl, _, hh, _⟩
  · simp [Value.ownBlock]
  · intro he
    have hgg : g = g' := by simpa [Value.ownBlock] using he
    subst hgg
    unfold Blk at h
    rw [hh] at h
    injection h with h
    injection h with _ ht
    exact hne ht
theorem OwnI.alloc (h : OwnI w base e k v zs) (o : Obj) : OwnI (w.alloc o) base e k v zs := World.ownsRow.alloc h o
theorem OwnI.below_ (h : OwnI w base e k v zs) {w0 : World} (hb : Below base w0 w) (hbase : base ≤ w.heap.size) (hg : w.grownBy w' v.ownBlock) : Below base w0 w' :=
  hb.grown hg hbase (fun _ hk => h.block_ge _ hk)
/-- What a callee leaves of it. -/
theorem OwnI.below (h : OwnI w base e k v zs) (hb : Below w.heap.size w w') : OwnI w' base e k v zs := by
  refine ⟨h.1, ?_⟩
  rcases h.2 with h1 | ⟨g, cap, cur, h1, h2, h3, h4⟩
  · exact .inl h1
  · have hlt : g < w.heap.size := by
      rcases Nat.lt_or_ge g w.heap.size with h5 | h5
      · exact h5
      · rw [Array.getElem?_eq_none h5] at h3; cases h3
    exact .inr ⟨g, cap, cur, h1, h2, (hb.block g hlt).trans h3, h4⟩
/-- An empty slice of the call's own. -/
theorem own_empty (w : World) (e : TypeId) (k : IntKind) (hB : base ≤ w.heap.size) : OwnI (w.alloc (.cells #[] e)) base e k (.slice (some ⟨w.heap.size, 0, none⟩) 0 0) [] :=
  ⟨rfl, .inr ⟨w.heap.size, 0, #[], rfl, hB, heap_alloc_new w _, Nat.le_refl _, by simp [maxLen], rfl, rfl⟩⟩
theorem own_nil (w : World) (e : TypeId) (k : IntKind) : OwnI w base e k (.slice none 0 0) [] := ⟨rfl, .inl ⟨rfl, rfl⟩⟩
/-- The one element that is about to be appended. -/
theorem rd_one (w : World) (e : TypeId) (k : IntKind) (z : Int) : Rd k (w.alloc (.cells #[.int k z] e)) (w.heap.size + 1) (some ⟨w.heap.size, 0, none⟩) 1 [z] := by
  refine ⟨rfl, fun _ => ⟨w.heap.size, 0, rfl, by omega, fun j hj => ?_⟩⟩
  obtain rfl : j = 0 := by omega
  rw [(Blk.new w e #[.int k z]).cell]
  rfl
end
/-- The slice's cells lie apart from the row. -/
def Apart (n : Nat) (A : Option Addr) (v : Value) : Prop := ∀ b off, 0 < n → A = some ⟨b, off, none⟩ → v.ownBlock ≠ some b
theorem Rd.grownA {k : IntKind} {w w' : World} {B n : Nat} {A : Option Addr} {zs : List Int} {v : Value} (h : Rd k w B A n zs) (ha : Apart n A v) (hB : B ≤ w.heap.size) (hg : w.grownBy w' v.ownBlock) : Rd k w' B A n zs :=
  ⟨h.1, fun hn => by
    obtain ⟨b, off, e, hb, hc⟩ := h.2 hn
    refine ⟨b, off, e, hb, fun j hj => ?_⟩
    rw [← hc j hj]
    exact World.cell?_of_block (hg.block b (by omega) (fun h1 => ha b off hn e h1.symm))⟩
/-- A row without room lies apart from whatever has cells; so does what an append makes of it. -/
theorem keep_empty {k k' : IntKind} {w w' : World} {B n base g : Nat} {e : TypeId} {A : Option Addr} {zs : List Int} {v' : Value} (h : Rd k w B A n zs) (hB : B ≤ w.heap.size) (ho : OwnI w base e k' (.slice (some ⟨g, 0, none⟩) 0 0) [])
    (hg : w.grownBy w' (some g)) (hat : v'.ownBlock = some g ∨ v'.ownBlock = some w.heap.size) : Rd k w' B A n zs ∧ Apart n A v' := by
  have hne : ∀ b off, 0 < n → A = some ⟨b, off, none⟩ → b ≠ g ∧ b < w.heap.size := by
    intro b off hn eA
    obtain ⟨b1, off1, e1, hb1, hc1⟩ := h.2 hn
    rw [eA] at e1
    injection e1 with e1
    injection e1 with e2 e3
    subst e2
    subst e3
    refine ⟨?_, by omega⟩
    intro hbg
    subst hbg
    rcases ho.2 with ⟨h1, _⟩ | ⟨g', cap, cur, h1, _, h3, _, _, h6, _⟩
    · cases h1
    · injection h1 with h1 _ h2
      injection h1 with h1
      injection h1 with h1
      subst h1
      subst h2
      have h0 := hc1 0 hn
      rw [Nat.add_zero, cell_of_row w b off cur e (0, 0) h3, Array.getElem?_eq_none (by omega)] at h0
      cases h0
  refine ⟨h.grownA (v := .slice (some ⟨g, 0, none⟩) 0 0) (fun b off hn e h1 => ?_) hB hg, fun b off hn e h1 => ?_⟩
  · have := (hne b off hn e).1
    simp [Value.ownBlock] at h1
    exact this h1.symm
  · obtain ⟨h2, h3⟩ := hne b off hn e
    rcases hat with h4 | h4 <;> rw [h1] at h4 <;> injection h4 <;> omega
def lenV : Value → Nat
  | .slice _ n _ => n
  | _ => 0


/-! ### slices of arrays of integers -/
/-- A row of the call's own that holds arrays of s numbers each. -/
def OwnA (w : World) (base : Nat) (e : TypeId) (s : Nat) (k : IntKind) (v : Value) (bs : List (List Int)) : Prop :=
  w.ownsRow base e s v bs.length (bs.flatten.map (Value.int k)) ∧ ∀ x ∈ bs, x.length = s
/-- The slice reads as the arrays bs. -/
def RdA (k : IntKind) (s : Nat) (w : World) (B : Nat) (A : Option Addr) (n : Nat) (bs : List (List Int)) : Prop :=
  bs.length = n ∧ (∀ x ∈ bs, x.length = s) ∧ (0 < n → ∃ b off, A = some ⟨b, off, none⟩ ∧ b < B ∧ w.rangeAt b off (bs.flatten.map (Value.int k)))
theorem flatten_len {s : Nat} : ∀ {bs : List (List Int)}, (∀ x ∈ bs, x.length = s) → bs.flatten.length = bs.length * s
  | [], _ => by simp
  | x :: bs, h => by
    rw [List.flatten_cons, List.length_append, h x (by simp), flatten_len (bs := bs) fun y hy => h y (by simp [hy]), List.length_cons, Nat.add_mul]
    omega
theorem flatten_at {s : Nat} : ∀ {bs : List (List Int)}, (∀ x ∈ bs, x.length = s) → ∀ {i j : Nat}, i < bs.length → j < s → bs.flatten[i * s + j]? = (bs.getD i [])[j]?
  | [], _, i, j, hi, _ => by simp at hi
  | x :: bs, h, i, j, hi, hj => by
    have hx := h x (by simp)
    rw [List.flatten_cons]
    rcases i with _ | i
    · rw [Nat.zero_mul, Nat.zero_add, List.getElem?_append_left (by omega)]
      rfl
    · rw [List.getElem?_append_right (by rw [hx, Nat.add_mul]; omega), hx, show (i + 1) * s + j - s = i * s + j by rw [Nat.add_mul]; omega,
        flatten_at (bs := bs) (fun y hy => h y (by simp [hy])) (by simpa using hi) hj]
      rfl
section
variable {k : IntKind} {s : Nat} {w w' : World} {B B' n base : Nat} {A : Option Addr} {bs : List (List Int)} {e : TypeId} {v : Value}
theorem RdA.below (h : RdA k s w B A n bs) (hb : Below B w w') : RdA k s w' B A n bs :=
  ⟨h.1, h.2.1, fun hn => by
    obtain ⟨b, off, e, hlt, hc⟩ := h.2.2 hn
    exact ⟨b, off, e, hlt, fun j u hu => (hb.cell (p := ⟨b, off + j, none⟩) hlt).trans (hc j u hu)⟩⟩
theorem RdA.mono (h : RdA k s w B A n bs) (hB : B ≤ B') : RdA k s w B' A n bs :=
  ⟨h.1, h.2.1, fun hn => by
    obtain ⟨b, off, e, hlt, hc⟩ := h.2.2 hn
    exact ⟨b, off, e, by omega, hc⟩⟩
/-- One of its arrays. -/
theorem RdA.at_ (h : RdA k s w B A n bs) {i : Nat} (hi : i < n) : ∃ b off, A = some ⟨b, off, none⟩ ∧ b < B ∧ w.rangeAt b (off + i * s) ((bs.getD i []).map (Value.int k)) := by
  obtain ⟨b, off, e, hlt, hc⟩ := h.2.2 (by omega)
  refine ⟨b, off, e, hlt, fun j u hu => ?_⟩
  have hi' : i < bs.length := by rw [h.1]; exact hi
  have hl : (bs.getD i []).length = s := h.2.1 _ (by simp [List.getD, List.getElem?_eq_getElem hi'])
  have hj : j < s := by
    rcases Nat.lt_or_ge j s with h1 | h1
    · exact h1
    · rw [List.getElem?_eq_none (by rw [List.length_map, hl]; exact h1)] at hu; cases hu
  rw [Nat.add_assoc]
  apply hc
  rw [List.getElem?_map] at hu ⊢
  rw [flatten_at h.2.1 hi' hj]
  exact hu
theorem OwnA.below (h : OwnA w base e s k v bs) (hb : Below w.heap.size w w') : OwnA w' base e s k v bs := by
  refine ⟨⟨h.1.1, ?_⟩, h.2⟩
  rcases h.1.2 with h1 | ⟨g, cap, cur, h1, h2, h3, h4⟩
  · exact .inl h1
  · have hlt : g < w.heap.size := by
      rcases Nat.lt_or_ge g w.heap.size with h5 | h5
      · exact h5
      · rw [Array.getElem?_eq_none h5] at h3; cases h3
    exact .inr ⟨g, cap, cur, h1, h2, (hb.block g hlt).trans h3, h4⟩
theorem OwnA.alloc (h : OwnA w base e s k v bs) (o : Obj) : OwnA (w.alloc o) base e s k v bs := ⟨World.ownsRow.alloc h.1 o, h.2⟩
theorem OwnA.form (h : OwnA w base e s k v bs) : ∃ A c, v = .slice A bs.length c ∧ bs.length ≤ c ∧ c ≤ maxLen := by
  rcases h.1.2 with ⟨rfl, hn⟩ | ⟨g, cap, cur, rfl, _, _, h1, h2, _⟩
  · exact ⟨none, 0, by rw [hn], by omega, by simp [maxLen]⟩
  · exact ⟨_, _, rfl, h1, h2⟩
theorem OwnA.block_ge (h : OwnA w base e s k v bs) : ∀ g, v.ownBlock = some g → base ≤ g := by
  intro g hg
  rcases h.1.2 with ⟨rfl, _⟩ | ⟨g', cap, cur, rfl, hb, _⟩
  · simp [Value.ownBlock] at hg
  · simp [Value.ownBlock] at hg
    omega
theorem OwnA.below_ (h : OwnA w base e s k v bs) {w0 : World} (hb : Below base w0 w) (hbase : base ≤ w.heap.size) (hg : w.grownBy w' v.ownBlock) : Below base w0 w' :=
  hb.grown hg hbase (fun _ hk => h.block_ge _ hk)
theorem OwnA.rd {c : Nat} (h : OwnA w base e s k (.slice A n c) bs) (hn : bs.length = n) : RdA k s w w.heap.size A n bs := by
  subst hn
  refine ⟨rfl, h.2, fun hn => ?_⟩
  obtain ⟨g, cap, hv, _, hlt⟩ := h.1.form hn
  have hA : A = some ⟨g, 0, none⟩ := by injection hv
  subst hA
  refine ⟨g, 0, rfl, hlt, fun j u hu => ?_⟩
  have hc := h.1.cells (g := g) rfl j u hu
  rw [add_flat] at hc
  exact hc
theorem ownA_nil (w : World) (e : TypeId) (k : IntKind) (base s : Nat) : OwnA w base e s k (.slice none 0 0) [] := ⟨⟨by simp, .inl ⟨rfl, rfl⟩⟩, fun _ h => by cases h⟩
theorem OwnA.more {v' : Value} {x : List Int} (h : OwnA w base e s k v bs) (hx : x.length = s) (h2 : w'.ownsRow base e s v' (bs.length + 1) (bs.flatten.map (Value.int k) ++ x.map (Value.int k))) : OwnA w' base e s k v' (bs ++ [x]) := by
  refine ⟨?_, fun y hy => ?_⟩
  · rw [List.length_append, List.flatten_append, List.map_append]
    simpa using h2
  · rcases List.mem_append.1 hy with h3 | h3
    · exact h.2 y h3
    · rw [List.mem_singleton.1 h3]; exact hx
end

/-! ### the one array that is about to be appended -/
theorem fill_one (s : Nat) (hs : 0 < s) (xs cells : Array Value) (hx : xs.size = s) (hc : cells.size = s) : Instr.fill (fun i => some (i * s, s)) cells [(0, .agg xs)] = some xs := by
  obtain ⟨r, hr, hsz, hk⟩ := Great.fill_dense hs [.agg xs] 0 cells (fun v hv => by rw [List.mem_singleton.1 hv]; exact hx) (by simp [hc])
  rw [show ([Value.agg xs].zipIdx 0).map (fun x => (x.2, x.1)) = [(0, .agg xs)] from rfl] at hr
  rw [hr]
  congr 1
  apply Array.ext_getElem?
  intro k
  rw [hk k]
  by_cases h : k < s
  · rw [if_pos (by simp; exact h), Nat.div_eq_of_lt h, Nat.mod_eq_of_lt h]
    rfl
  · rw [if_neg (by simp; omega), Array.getElem?_eq_none (by omega), Array.getElem?_eq_none (by omega)]
theorem wpList_build_one {P : Program} {ops : Array Oper} {rest : List Oper} {o : Oper} {a : Act} {w : World} {Q : Exit → Act → World → Prop} (hg : o.guard = none) (t e : TypeId) (x : Operand) (ho : o.op = .buildSlice t 1 #[(0, x)])
    (ie : TypeInfo) (z : Value) (hu : P.underlying t = some (.slice e)) (hie : P.info? e = some ie) (hz : ie.zero = some z) (s : Nat) (hs : ie.size = s) (h0 : 0 < s) (h1 : s ≤ 65536)
    (xs : Array Value) (hx : a.eval x = .agg xs) (hxs : xs.size = s)
    (h : wpList P ops Q rest (a.put o.dst (.slice (some ⟨w.heap.size, 0, none⟩) 1 1)) (w.alloc (.cells xs e))) : wpList P ops Q (o :: rest) a w := by
  refine wpList_buildSlice hg t e 1 #[(0, x)] ho xs ie z hu hie hz (by rw [hs]; omega) (by rw [hs]; omega) ?_ h
  rw [hs]
  simp only [List.map_toArray, List.map_cons, List.map_nil, hx]
  exact fill_one s h0 xs _ hxs (by simp)

/-- A long array, loaded in a region that only reads. -/
theorem wpQuiet_load_mid {P : Program} {ops : Array Oper} {Q : Act → Prop} {a : Act} {o : Oper} {rest : List Oper} {w : World} (hgd : o.guard = none) (ty : TypeId) (x : Operand) (ho : o.op = .load ty x)
    (b off : Nat) (hx : a.eval x = .pointer (some ⟨b, off, none⟩)) (cs : List Value) (d : TypeDesc) (hc : w.rangeAt b off cs)
    (hu : P.underlying ty = some d) (hd : d.isRow = true) (hi : (P.info? ty).map (·.size) = some cs.length)
    (h : wpQuiet P ops (fun w' => ∃ n, w' = w.drewN n) Q rest (a.put o.dst (.agg cs.toArray))) : wpQuiet P ops (fun w' => ∃ n, w' = w.drewN n) Q (o :: rest) a := by
  refine wpQuiet_step fun K hK => ?_
  rw [if_pos (by simp [Region.wanted, hgd])]
  refine ⟨.agg cs.toArray, ?_, hK _ h⟩
  rintro w' ⟨n, rfl⟩
  unfold Oper.quietAt execOp
  simp only [ho, hx, Instr.loadAt, Instr.sureAddr, Sem.run_bind, Sem.run_pure, Result.andThen_ok, run_loadVar_mid (w.drewN n) b off ty cs d hc hu hd hi]
  exact ⟨rfl, rfl⟩

end Go.Proofs.Ytaaahgkpicjnoaa
/-
  Natural numbers as limbs of 32 bits, the lowest one first, in plain Lean.
  Conditions: those that each theorem names.
-/
set_option maxRecDepth 100000
set_option linter.unusedVariables false
set_option linter.unusedSimpArgs false
namespace Go.Proofs.Ytaaahgkpicjnoaa
/-- Limbs lie in their type's range. -/
def Lim (l : List Int) : Prop := ∀ z ∈ l, 0 ≤ z ∧ z < 4294967296
/-- The number that limbs say. -/
def valL : List Int → Nat
  | [] => 0
  | x :: l => x.toNat + 4294967296 * valL l
/-- Without noughts at the end. -/
def trimL : List Int → List Int
  | [] => []
  | x :: l => if trimL l = [] ∧ x = 0 then [] else x :: trimL l
/-- A number's limbs. -/
def natL (n : Nat) : List Int := if h : n = 0 then [] else ((n % 4294967296 : Nat) : Int) :: natL (n / 4294967296)
  termination_by n
  decreasing_by exact Nat.div_lt_self (by omega) (by omega)
theorem natL_zero : natL 0 = [] := by rw [natL]; rfl
theorem natL_pos {n : Nat} (h : n ≠ 0) : natL n = ((n % 4294967296 : Nat) : Int) :: natL (n / 4294967296) := by rw [natL, dif_neg h]
theorem Lim.nil : Lim [] := fun z h => by cases h
theorem Lim.cons {x : Int} {l : List Int} (h : 0 ≤ x ∧ x < 4294967296) (hl : Lim l) : Lim (x :: l) := fun z hz => by
  rcases List.mem_cons.1 hz with rfl | hz
  · exact h
  · exact hl z hz
theorem Lim.hd {x : Int} {l : List Int} (h : Lim (x :: l)) : 0 ≤ x ∧ x < 4294967296 := h x (by simp)
theorem Lim.tl {x : Int} {l : List Int} (h : Lim (x :: l)) : Lim l := fun z hz => h z (by simp [hz])
theorem Lim.app {l m : List Int} (hl : Lim l) (hm : Lim m) : Lim (l ++ m) := fun z hz => by
  rcases List.mem_append.1 hz with h | h
  · exact hl z h
  · exact hm z h
theorem Lim.take {l : List Int} (h : Lim l) (k : Nat) : Lim (l.take k) := fun z hz => h z (List.mem_of_mem_take hz)
theorem Lim.drop {l : List Int} (h : Lim l) (k : Nat) : Lim (l.drop k) := fun z hz => h z (List.mem_of_mem_drop hz)
theorem Lim.getD {l : List Int} (h : Lim l) (k : Nat) : 0 ≤ l.getD k 0 ∧ l.getD k 0 < 4294967296 := by
  rw [List.getD_eq_getElem?_getD]
  by_cases hk : k < l.length
  · rw [List.getElem?_eq_getElem hk]; exact h _ (List.getElem_mem hk)
  · rw [List.getElem?_eq_none (by omega)]; exact ⟨Int.le_refl _, by show (0 : Int) < 4294967296; omega⟩
theorem Lim.set {l : List Int} (h : Lim l) (k : Nat) {x : Int} (hx : 0 ≤ x ∧ x < 4294967296) : Lim (l.set k x) := fun z hz => by
  rcases List.mem_or_eq_of_mem_set hz with h1 | rfl
  · exact h z h1
  · exact hx
theorem Lim.rep (n : Nat) : Lim (List.replicate n 0) := fun z hz => by rw [List.eq_of_mem_replicate hz]; omega
theorem natL_lim (n : Nat) : Lim (natL n) := by
  induction n using Nat.strongRecOn with
  | ind n ih =>
    by_cases h : n = 0
    · subst h; rw [natL_zero]; exact Lim.nil
    · rw [natL_pos h]
      exact Lim.cons (by omega) (ih _ (Nat.div_lt_self (by omega) (by omega)))
theorem natL_val (n : Nat) : valL (natL n) = n := by
  induction n using Nat.strongRecOn with
  | ind n ih =>
    by_cases h : n = 0
    · subst h; rw [natL_zero]; rfl
    · rw [natL_pos h, valL, ih _ (Nat.div_lt_self (by omega) (by omega)), Int.toNat_natCast]
      omega
theorem natL_ne {n : Nat} (h : n ≠ 0) : natL n ≠ [] := by rw [natL_pos h]; simp
theorem natL_nil {n : Nat} (h : natL n = []) : n = 0 := Decidable.byContradiction fun hn => natL_ne hn h
theorem trimL_natL (n : Nat) : trimL (natL n) = natL n := by
  induction n using Nat.strongRecOn with
  | ind n ih =>
    by_cases h : n = 0
    · subst h; rw [natL_zero]; rfl
    · rw [natL_pos h, trimL, ih _ (Nat.div_lt_self (by omega) (by omega)), if_neg]
      rintro ⟨h1, h2⟩
      have := natL_nil h1
      omega
/-- Trimmed limbs are the number's limbs. -/
theorem trimL_eq {l : List Int} (h : Lim l) : trimL l = natL (valL l) := by
  induction l with
  | nil => rw [valL, natL_zero]; rfl
  | cons x l ih =>
    have hx := h.hd
    rw [trimL, ih h.tl]
    by_cases hz : valL (x :: l) = 0
    · have h1 : valL l = 0 := by rw [valL] at hz; omega
      have h2 : x = 0 := by rw [valL] at hz; omega
      rw [hz, h1, natL_zero, if_pos ⟨rfl, h2⟩]
    · rw [natL_pos hz]
      have e1 : valL (x :: l) % 4294967296 = x.toNat := by rw [valL]; omega
      have e2 : valL (x :: l) / 4294967296 = valL l := by rw [valL]; omega
      rw [e1, e2, Int.toNat_of_nonneg hx.1, if_neg]
      rintro ⟨h1, h2⟩
      have h3 := natL_nil h1
      apply hz
      rw [valL, h3, h2]
      rfl
theorem valL_app (l m : List Int) : valL (l ++ m) = valL l + 4294967296 ^ l.length * valL m := by
  induction l with
  | nil => simp [valL]
  | cons x l ih =>
    rw [List.cons_append, valL, valL, ih, List.length_cons, Nat.pow_succ, Nat.mul_add, Nat.mul_comm (4294967296 ^ l.length) 4294967296, Nat.mul_assoc]
    omega
theorem valL_lt {l : List Int} (h : Lim l) : valL l < 4294967296 ^ l.length := by
  induction l with
  | nil => exact Nat.one_pos
  | cons x l ih =>
    have h1 := ih h.tl
    have h2 := h.hd
    rw [valL, List.length_cons, Nat.pow_succ, Nat.mul_comm]
    generalize 4294967296 ^ l.length = p at *
    omega
theorem valL_inj {l m : List Int} (hl : Lim l) (hm : Lim m) (hlen : l.length = m.length) (h : valL l = valL m) : l = m := by
  induction l generalizing m with
  | nil => cases m with
    | nil => rfl
    | cons y m => cases hlen
  | cons x l ih => cases m with
    | nil => cases hlen
    | cons y m =>
      have hx := hl.hd
      have hy := hm.hd
      rw [valL, valL] at h
      have e1 : valL l = valL m := by omega
      have e2 : x = y := by omega
      rw [e2, ih hl.tl hm.tl (by simpa using hlen) e1]
theorem valL_rep (n : Nat) : valL (List.replicate n 0) = 0 := by
  induction n with
  | zero => rfl
  | succ n ih => rw [List.replicate_succ, valL, ih]; rfl
theorem valL_take_drop (l : List Int) (k : Nat) (hk : k ≤ l.length) : valL l = valL (l.take k) + 4294967296 ^ k * valL (l.drop k) := by
  conv => lhs; rw [← List.take_append_drop k l, valL_app]
  rw [List.length_take, Nat.min_eq_left hk]
theorem valL_drop_getD (l : List Int) (k : Nat) : valL (l.drop k) = (l.getD k 0).toNat + 4294967296 * valL (l.drop (k + 1)) := by
  by_cases hk : k < l.length
  · rw [List.drop_eq_getElem_cons hk, valL, List.getD_eq_getElem?_getD, List.getElem?_eq_getElem hk]
    rfl
  · rw [List.drop_eq_nil_of_le (by omega), List.drop_eq_nil_of_le (by omega), List.getD_eq_getElem?_getD, List.getElem?_eq_none (by omega)]
    rfl
theorem valL_take_succ (l : List Int) (k : Nat) (hk : k < l.length) : valL (l.take (k + 1)) = valL (l.take k) + 4294967296 ^ k * (l.getD k 0).toNat := by
  rw [List.take_add_one, valL_app, List.getElem?_eq_getElem hk, List.length_take, Nat.min_eq_left (by omega), List.getD_eq_getElem?_getD, List.getElem?_eq_getElem hk]
  show _ + _ * ((l[k]).toNat + 4294967296 * 0) = _ + _ * (l[k]).toNat
  rw [Nat.mul_zero, Nat.add_zero]
/-- A limb set changes the number by what the limb differs. -/
theorem valL_set (l : List Int) (k : Nat) (x : Int) (hk : k < l.length) : valL (l.set k x) + 4294967296 ^ k * (l.getD k 0).toNat = valL l + 4294967296 ^ k * x.toNat := by
  induction l generalizing k with
  | nil => cases hk
  | cons y l ih =>
    cases k with
    | zero =>
      show x.toNat + 4294967296 * valL l + 1 * y.toNat = y.toNat + 4294967296 * valL l + 1 * x.toNat
      omega
    | succ k =>
      have h := ih k (by simpa using hk)
      show y.toNat + 4294967296 * valL (l.set k x) + 4294967296 ^ (k + 1) * (l.getD k 0).toNat = y.toNat + 4294967296 * valL l + 4294967296 ^ (k + 1) * x.toNat
      rw [Nat.pow_succ, Nat.mul_comm (4294967296 ^ k) 4294967296, Nat.mul_assoc, Nat.mul_assoc]
      generalize 4294967296 ^ k * (l.getD k 0).toNat = p at *
      generalize 4294967296 ^ k * x.toNat = q at *
      omega
/-! ### which limbs may be -/
def lastOk (l : List Int) : Bool := match l.getLast? with
  | none => true
  | some x => x != 0
def rightN (l : List Int) : Bool := decide (l.length ≤ 256) && lastOk l
theorem lastOk_can {l : List Int} : lastOk l = true ↔ trimL l = l := by
  induction l with
  | nil => exact ⟨fun _ => rfl, fun _ => rfl⟩
  | cons x l ih =>
    cases l with
    | nil =>
      show (x != 0) = true ↔ (if ([] : List Int) = [] ∧ x = 0 then [] else [x]) = [x]
      by_cases hx : x = 0
      · simp [hx]
      · simp [hx]
    | cons y l =>
      have e : lastOk (x :: y :: l) = lastOk (y :: l) := by simp [lastOk, List.getLast?_cons_cons]
      rw [e, ih, show trimL (x :: y :: l) = (if trimL (y :: l) = [] ∧ x = 0 then [] else x :: trimL (y :: l)) from rfl]
      constructor
      · intro h; rw [h, if_neg (by rintro ⟨h1, _⟩; cases h1)]
      · intro h
        split at h
        · cases h
        · injection h
theorem can_eq {l : List Int} (h : Lim l) (hc : lastOk l = true) : l = natL (valL l) := by rw [← trimL_eq h, lastOk_can.1 hc]
theorem natL_ok (n : Nat) : lastOk (natL n) = true := lastOk_can.2 (trimL_natL n)
/-- As many limbs as the number needs. -/
theorem natL_len (n k : Nat) : (natL n).length ≤ k ↔ n < 4294967296 ^ k := by
  induction k generalizing n with
  | zero =>
    rw [Nat.pow_zero]
    by_cases h : n = 0
    · subst h; rw [natL_zero]; simp
    · have := natL_ne h
      have h2 : (natL n).length ≠ 0 := fun h3 => this (List.eq_nil_of_length_eq_zero h3)
      constructor
      · omega
      · omega
  | succ k ih =>
    by_cases h : n = 0
    · subst h
      rw [natL_zero]
      exact ⟨fun _ => Nat.pow_pos (by omega), fun _ => by simp⟩
    · rw [natL_pos h, List.length_cons, Nat.pow_succ, Nat.succ_le_succ_iff, ih, Nat.div_lt_iff_lt_mul (by omega)]
theorem trimL_len (l : List Int) : (trimL l).length ≤ l.length := by
  induction l with
  | nil => exact Nat.le_refl _
  | cons x l ih =>
    rw [trimL]
    split
    · simp
    · simp [ih]
/-- Trimmed limbs are the first ones. -/
theorem trimL_take (l : List Int) : trimL l = l.take (trimL l).length := by
  induction l with
  | nil => rfl
  | cons x l ih =>
    rw [trimL]
    split
    · rfl
    · rw [List.length_cons, List.take_succ_cons, ← ih]
/-- One nought less at the end. -/
theorem trimL_snoc_zero (l : List Int) : trimL (l ++ [0]) = trimL l := by
  induction l with
  | nil => rfl
  | cons x l ih => rw [List.cons_append, trimL, ih, trimL]
end Go.Proofs.Ytaaahgkpicjnoaa
/-
  make and copy, for slices of integers: a block that the call itself made, known whole as a list of numbers.
  Conditions: those that each theorem names.
-/
set_option maxRecDepth 100000
namespace Go.Proofs.Ytaaahgkpicjnoaa
open Go.ChangeShapes Go.WideShapes Go.ChangeAt Go.RowKit

def intsA (k : IntKind) (zs : List Int) : Array Value := (zs.map (Value.int k)).toArray
theorem intsA_size (k : IntKind) (zs : List Int) : (intsA k zs).size = zs.length := by simp [intsA]
theorem intsA_at (k : IntKind) (zs : List Int) (j : Nat) (hj : j < zs.length) : (intsA k zs)[j]? = some (.int k (zs.getD j 0)) := by simp [intsA, hj]
/-- The block g holds the numbers zs, and nothing else. -/
def BlkI (w : World) (g : Nat) (t : TypeId) (k : IntKind) (zs : List Int) : Prop := Blk w g t (intsA k zs)

theorem splice_map {α β : Type} (f : α → β) (L : List α) (off : Nat) (cs : List α) : splice (L.map f) off (cs.map f) = (splice L off cs).map f := by simp [splice]
theorem madeCells_same (v : Value) (m n : Nat) (hm : 0 < m) : madeCells (List.replicate m v).toArray n = (List.replicate n v).toArray := by
  unfold madeCells
  apply Array.ext
  · simp
  · intro i h1 h2
    have h3 : i % m < m := Nat.mod_lt _ hm
    simp [h3]

section
variable {w w' : World} {g B : Nat} {t : TypeId} {k : IntKind} {zs : List Int}
theorem BlkI.lt (h : BlkI w g t k zs) : g < w.heap.size := Blk.lt h
theorem BlkI.cell (h : BlkI w g t k zs) {j : Nat} (hj : j < zs.length) : w.cell? ⟨g, j, none⟩ = some (.int k (zs.getD j 0)) := by rw [Blk.cell h, intsA_at k zs j hj]
theorem BlkI.new (w : World) (t : TypeId) (k : IntKind) (zs : List Int) : BlkI (w.alloc (.cells (intsA k zs) t)) w.heap.size t k zs := Blk.new _ _ _
theorem BlkI.frozen (h : BlkI w g t k zs) (j : Nat) : w.frozen? ⟨g, j, none⟩ = false := Blk.frozen h j
theorem BlkI.set_ (h : BlkI w g t k zs) (j : Nat) (z : Int) : BlkI (w.setCell ⟨g, j, none⟩ (.int k z)) g t k (zs.set j z) := by
  have h1 := Blk.set_ h j (.int k z)
  unfold BlkI
  rw [show intsA k (zs.set j z) = (intsA k zs).setIfInBounds j (.int k z) by simp [intsA, List.map_set]]
  exact h1
theorem BlkI.drew (h : BlkI w g t k zs) : BlkI w.drew g t k zs := h
theorem BlkI.alloc (h : BlkI w g t k zs) (o : Obj) : BlkI (w.alloc o) g t k zs := Blk.alloc h o
theorem BlkI.below (h : BlkI w g t k zs) (hb : Below B w w') (hg : g < B) : BlkI w' g t k zs := Blk.below h hb hg
theorem BlkI.far (h : BlkI w g t k zs) {p : Addr} (hp : g ≠ p.block) (u : Value) : BlkI (w.setCell p u) g t k zs := Blk.far h hp u
theorem BlkI.other (h : BlkI w g t k zs) {r : Nat} (ho : ∀ j, j ≠ r → w'.heap[j]? = w.heap[j]?) (hg : g ≠ r) : BlkI w' g t k zs := (ho g hg).trans h
theorem BlkI.rdAt (h : BlkI w g t k zs) {off n : Nat} (hn : off + n ≤ zs.length) : Rd k w w.heap.size (some ⟨g, off, none⟩) n ((zs.drop off).take n) := by
  refine ⟨by rw [List.length_take, List.length_drop]; omega, fun _ => ⟨g, off, rfl, h.lt, fun j hj => ?_⟩⟩
  rw [h.cell (by omega)]
  congr 2
  simp only [List.getD_eq_getElem?_getD, List.getElem?_take, List.getElem?_drop]
  rw [if_pos hj]
theorem BlkI.rd (h : BlkI w g t k zs) : Rd k w w.heap.size (some ⟨g, 0, none⟩) zs.length zs := by
  have := h.rdAt (off := 0) (n := zs.length) (by omega)
  rwa [List.drop_zero, List.take_of_length_le (Nat.le_refl _)] at this
theorem BlkI.rdA (h : BlkI w g t k zs) {s : Nat} {bs : List (List Int)} (hz : zs = bs.flatten) (hs : ∀ x ∈ bs, x.length = s) : RdA k s w w.heap.size (some ⟨g, 0, none⟩) bs.length bs := by
  refine ⟨rfl, hs, fun _ => ⟨g, 0, rfl, h.lt, fun j u hu => ?_⟩⟩
  rw [Nat.zero_add, Blk.cell h, hz]
  simpa [intsA] using hu
end

section
variable {P : Program}
theorem run_make_ints (t e : TypeId) (i : TypeInfo) (k : IntKind) (ht : P.underlying t = some (.slice e)) (hi : P.info? e = some i) (hz : i.zero = some (.int k 0)) (hs : i.size = 1)
    (kl kc : IntKind) (n : Nat) (hb : i.bytes * n ≤ 281474976710656) (h63 : n ≤ 9223372036854775807) (w : World) :
    (Instr.makeSlice t (.int kl (n : Int)) (.int kc (n : Int))).run P w = .ok (.slice (some ⟨w.heap.size, 0, none⟩) n n) (w.alloc (.cells (intsA k (List.replicate n 0)) e)) := by
  have hb' : (i.bytes : Int) * (n : Int) ≤ 281474976710656 := by
    have h : ((i.bytes * n : Nat) : Int) ≤ 281474976710656 := by omega
    rwa [Int.natCast_mul] at h
  have hr := run_make (P := P) w t e i _ ht hi hz kl kc n n (by omega) (by omega) hb' (by omega)
  simp only [Int.toNat_natCast, hs, Nat.mul_one] at hr
  rw [hr, show madeCells (Value.int k 0).cells n = intsA k (List.replicate n 0) from ?_]
  have h1 := madeCells_same (.int k 0) 1 n (by omega)
  simpa [intsA, Value.cells] using h1
theorem run_make_arrs (t e : TypeId) (i : TypeInfo) (k : IntKind) (s : Nat) (hs0 : 0 < s) (ht : P.underlying t = some (.slice e)) (hi : P.info? e = some i) (hz : i.zero = some (.agg (List.replicate s (Value.int k 0)).toArray)) (hs : i.size = s)
    (kl kc : IntKind) (n : Nat) (hb : i.bytes * n ≤ 281474976710656) (h63 : n ≤ 9223372036854775807) (w : World) :
    (Instr.makeSlice t (.int kl (n : Int)) (.int kc (n : Int))).run P w = .ok (.slice (some ⟨w.heap.size, 0, none⟩) n n) (w.alloc (.cells (intsA k (List.replicate (n * s) 0)) e)) := by
  have hb' : (i.bytes : Int) * (n : Int) ≤ 281474976710656 := by
    have h : ((i.bytes * n : Nat) : Int) ≤ 281474976710656 := by omega
    rwa [Int.natCast_mul] at h
  have hr := run_make (P := P) w t e i _ ht hi hz kl kc n n (by omega) (by omega) hb' (by omega)
  simp only [Int.toNat_natCast, hs] at hr
  rw [hr, show madeCells (Value.agg (List.replicate s (Value.int k 0)).toArray).cells (n * s) = intsA k (List.replicate (n * s) 0) from ?_]
  have h1 := madeCells_same (.int k 0) s (n * s) hs0
  simpa [intsA, Value.cells] using h1

/-- Guards for an arm of a walk: only at an operation; only at the one that writes slot d. -/
theorem at_any {w : World} {ops : Array Oper} {rest : List Oper} {a : Act} {Q : Exit → Act → World → Prop} {o : Oper} (h : wpList P ops Q (o :: rest) a w) : wpList P ops Q (o :: rest) a w := h
theorem at_dst {w : World} {ops : Array Oper} {rest : List Oper} {a : Act} {Q : Exit → Act → World → Prop} {o : Oper} (d : Tmp) (_ : o.dst = some d) (h : wpList P ops Q (o :: rest) a w) : wpList P ops Q (o :: rest) a w := h
/-- Only at a store through slot d. -/
theorem at_store {w : World} {ops : Array Oper} {rest : List Oper} {a : Act} {Q : Exit → Act → World → Prop} {o : Oper} (d : Tmp) {t : TypeId} {x : Operand} (_ : o.op = .store t (.tmp d) x) (h : wpList P ops Q (o :: rest) a w) : wpList P ops Q (o :: rest) a w := h
/-- An operation whose value is known. -/
theorem wpList_val {w : World} {ops : Array Oper} {rest : List Oper} {o : Oper} {a : Act} {Q : Exit → Act → World → Prop} (hgd : o.guard = none) (v : Value) (hv : (execOp a.eval o).run P w = .ok (.value v) w)
    (h : wpList P ops Q rest (a.put o.dst v) w) : wpList P ops Q (o :: rest) a w := by
  refine wpList_plain hgd fun K hK => ?_
  unfold Oper.wp
  simp only [hv]
  exact hK _ _ h
theorem step_dst {w : World} {ops : Array Oper} {a : Act} {o : Oper} {K : Act → World → Prop} {Q : Exit → Act → World → Prop} {E : Prop} (d : Tmp) (_ : o.dst = some d)
    (h : if Region.wanted o (yielded ops a.tmps) = true then Oper.wp P o a w K Q else E) : if Region.wanted o (yielded ops a.tmps) = true then Oper.wp P o a w K Q else E := h
/-- copy onto a block that is known whole: n numbers go over. -/
theorem wpList_copy_ints {w : World} {ops : Array Oper} {rest : List Oper} {o : Oper} {a : Act} {Q : Exit → Act → World → Prop} (hgd : o.guard = none) (d s : Operand) (dT sT : TypeId)
    (ho : o.op = .call { callee := .builtin .copy, args := #[d, s], argTypes := #[dT, sT] }) (elem : TypeId) (hu : P.underlying dT = some (.slice elem)) (hsz : (P.info? elem).map (·.size) = some 1)
    (dp sp : Option Addr) (dLen dCap sLen sCap : Nat) (hd : a.eval d = .slice dp dLen dCap) (hs : a.eval s = .slice sp sLen sCap)
    (g off : Nat) (k : IntKind) (zs : List Int) (t : TypeId) (hg : BlkI w g t k zs) (n : Nat) (hn : n ≤ sLen ∧ n ≤ dLen ∧ (n = sLen ∨ n = dLen)) (B' : Nat) (ys : List Int) (hr : Rd k w B' sp n ys)
    (hdp : 0 < n → dp = some ⟨g, off, none⟩) (hfit : off + n ≤ zs.length) (B : Nat) (w0 : World) (hb : Below B w0 w) (hBg : B ≤ g)
    (h : ∀ w', Hid (BlkI w' g t k (splice zs off ys)) → Below B w0 w' → wpList P ops Q rest (a.put o.dst (.int .i64 (n : Int))) w') :
    wpList P ops Q (o :: rest) a w := by
  have hl := hr.len
  refine wpList_copy_splice hgd d s dT sT ho elem hu hsz dp sp dLen dCap sLen sCap hd hs g off (zs.map (Value.int k)) t hg (ys.map (Value.int k)) (show (ys.map (Value.int k)).length = min sLen dLen by rw [List.length_map, hl]; omega) ?_ (by simp [hl]; exact hfit) (ints_one k ys) B w0 hb hBg ?_
  · intro h0
    have h1 : 0 < n := by simpa [hl] using h0
    obtain ⟨b, o', e, _, _⟩ := hr.at_ h1
    subst e
    exact ⟨hdp h1, _, rfl, hr.news⟩
  · intro w' h1 h2
    have h3 := h w' (show _ from by rw [splice_map] at h1; exact h1) h2
    rwa [show goInt (ys.map (Value.int k)).length = Value.int .i64 (n : Int) by simp [goInt, hl]]
theorem step_copy_ints {ops : Array Oper} {o : Oper} {a : Act} {w : World} {K : Act → World → Prop} {Q : Exit → Act → World → Prop} {E : Prop} (hgd : o.guard = none) (d s : Operand) (dT sT : TypeId)
    (ho : o.op = .call { callee := .builtin .copy, args := #[d, s], argTypes := #[dT, sT] }) (elem : TypeId) (hu : P.underlying dT = some (.slice elem)) (hsz : (P.info? elem).map (·.size) = some 1)
    (dp sp : Option Addr) (dLen dCap sLen sCap : Nat) (hd : a.eval d = .slice dp dLen dCap) (hs : a.eval s = .slice sp sLen sCap)
    (g off : Nat) (k : IntKind) (zs : List Int) (t : TypeId) (hg : BlkI w g t k zs) (n : Nat) (hn : n ≤ sLen ∧ n ≤ dLen ∧ (n = sLen ∨ n = dLen)) (B' : Nat) (ys : List Int) (hr : Rd k w B' sp n ys)
    (hdp : 0 < n → dp = some ⟨g, off, none⟩) (hfit : off + n ≤ zs.length) (B : Nat) (w0 : World) (hb : Below B w0 w) (hBg : B ≤ g)
    (h : ∀ w', Hid (BlkI w' g t k (splice zs off ys)) → Below B w0 w' → K (a.put o.dst (.int .i64 (n : Int))) w') :
    if Region.wanted o (yielded ops a.tmps) = true then Oper.wp P o a w K Q else E := by
  have hl := hr.len
  refine step_copy_splice hgd d s dT sT ho elem hu hsz dp sp dLen dCap sLen sCap hd hs g off (zs.map (Value.int k)) t hg (ys.map (Value.int k)) (show (ys.map (Value.int k)).length = min sLen dLen by rw [List.length_map, hl]; omega) ?_ (by simp [hl]; exact hfit) (ints_one k ys) B w0 hb hBg ?_
  · intro h0
    have h1 : 0 < n := by simpa [hl] using h0
    obtain ⟨b, o', e, _, _⟩ := hr.at_ h1
    subst e
    exact ⟨hdp h1, _, rfl, hr.news⟩
  · intro w' h1 h2
    have h3 := h w' (show _ from by rw [splice_map] at h1; exact h1) h2
    rwa [show goInt (ys.map (Value.int k)).length = Value.int .i64 (n : Int) by simp [goInt, hl]]
end
end Go.Proofs.Ytaaahgkpicjnoaa
/-
  Arrays of integers in blocks of their own: boxed, allocated, loaded and stored whole, handed back as a result that lies in memory.
  Conditions: those that each theorem names.
-/
set_option maxRecDepth 100000
namespace Go.Proofs.Ytaaahgkpicjnoaa
open Go.ChangeShapes Go.WideShapes Go.ChangeAt Go.RowKit

section
variable {P : Program} {w : World} {ops : Array Oper} {rest : List Oper} {o : Oper} {a : Act} {Q : Exit → Act → World → Prop}
/-- A value boxed. -/
theorem wpList_box_ints (hgd : o.guard = none) (ty : TypeId) (x : Operand) (ho : o.op = .box ty x) (k : IntKind) (zs : List Int) (hx : a.eval x = .agg (intsA k zs))
    (h : ∀ w', Hid (BlkI w' w.heap.size ty k zs) → Hid (w'.heap.size = w.heap.size + 1) → Below w.heap.size w w' → wpList P ops Q rest (a.put o.dst (.pointer (some ⟨w.heap.size, 0, none⟩))) w') : wpList P ops Q (o :: rest) a w := by
  refine wpList_plain hgd fun K hK => ?_
  unfold Oper.wp execOp
  simp only [ho, hx, Instr.box, newVar, newRow, Value.cells]
  exact hK _ _ (h _ (BlkI.new w ty k zs) (show _ = _ by simp) ((Below.refl _ _).alloc (Nat.le_refl _) _))
/-- A new array. -/
theorem wpList_alloc_ints (hgd : o.guard = none) (ty : TypeId) (ho : o.op = .alloc ty) (k : IntKind) (zs : List Int) (hz : ∀ W, (zeroValue ty).run P W = .ok (.agg (intsA k zs)) W)
    (h : ∀ w', Hid (BlkI w' w.heap.size ty k zs) → Hid (w'.heap.size = w.heap.size + 1) → Below w.heap.size w w' → wpList P ops Q rest (a.put o.dst (.pointer (some ⟨w.heap.size, 0, none⟩))) w') : wpList P ops Q (o :: rest) a w := by
  refine wpList_plain hgd fun K hK => ?_
  unfold Oper.wp execOp
  simp only [ho, Instr.alloc, Sem.run_bind, hz, Result.andThen_ok, newVar, newRow, Value.cells]
  exact hK _ _ (h _ (BlkI.new w ty k _) (show _ = _ by simp) ((Below.refl _ _).alloc (Nat.le_refl _) _))
theorem blk_range {g : Nat} {t : TypeId} {k : IntKind} {zs : List Int} (h : BlkI w g t k zs) : w.rangeAt g 0 (zs.map (Value.int k)) := Blk.range h
/-- The whole array loaded. -/
theorem wpList_load_ints (hgd : o.guard = none) (ty : TypeId) (x : Operand) (ho : o.op = .load ty x) (g : Nat) (hx : a.eval x = .pointer (some ⟨g, 0, none⟩)) (t : TypeId) (k : IntKind) (zs : List Int) (hb : BlkI w g t k zs)
    (d : TypeDesc) (hu : P.underlying ty = some d) (hd : d.isRow = true) (hi : (P.info? ty).map (·.size) = some zs.length)
    (h : wpList P ops Q rest (a.put o.dst (.agg (intsA k zs))) w) : wpList P ops Q (o :: rest) a w :=
  wpList_load_mid hgd ty x ho g 0 hx (zs.map (Value.int k)) d (blk_range hb) hu hd (by rw [List.length_map]; exact hi) h
/-- The same behind a guard that holds. -/
theorem wpList_load_gd (hw : Region.wanted o (yielded ops a.tmps) = true) (ty : TypeId) (x : Operand) (ho : o.op = .load ty x) (g : Nat) (hx : a.eval x = .pointer (some ⟨g, 0, none⟩)) (t : TypeId) (k : IntKind) (zs : List Int) (hb : BlkI w g t k zs)
    (d : TypeDesc) (hu : P.underlying ty = some d) (hd : d.isRow = true) (hi : (P.info? ty).map (·.size) = some zs.length)
    (h : wpList P ops Q rest (a.put o.dst (.agg (intsA k zs))) w) : wpList P ops Q (o :: rest) a w :=
  wpList_step fun K hK => by
    rw [if_pos hw]
    exact wp_load_mid ty x ho g 0 hx (zs.map (Value.int k)) d (blk_range hb) hu hd (by rw [List.length_map]; exact hi) (hK _ _ h)
/-- The whole array stored. -/
theorem wpList_store_ints (hgd : o.guard = none) (ty : TypeId) (x y : Operand) (ho : o.op = .store ty x y) (g : Nat) (hx : a.eval x = .pointer (some ⟨g, 0, none⟩)) (t : TypeId) (k : IntKind) (zs ys : List Int) (hb : BlkI w g t k zs)
    (hy : a.eval y = .agg (intsA k ys)) (hl : zs.length = ys.length) (hi : (P.info? ty).map (·.size) = some ys.length)
    (h : ∀ w', Hid (BlkI w' g t k ys) → Hid (w'.heap.size = w.heap.size) → (∀ B, B ≤ g → Below B w w') → (∀ j, j ≠ g → w'.heap[j]? = w.heap[j]?) → wpList P ops Q rest (a.put o.dst undef) w') : wpList P ops Q (o :: rest) a w := by
  refine wpList_plain hgd fun K hK => ?_
  have hrun := run_storeVar_row (P := P) w g t ty (intsA k zs) (intsA k ys) hb (by rw [intsA_size]; exact hi) (by rw [intsA_size, intsA_size]; exact hl) (all_oneCell_toArray (ints_one k ys))
  unfold Oper.wp execOp
  simp only [ho, hx, hy, Instr.storeAt, Instr.sureAddr, Sem.run_bind, Sem.run_pure, Result.andThen_ok, hrun]
  exact hK _ _ (h _ (setRow_heap w g _ _ t _ hb) (show _ = _ by simp) (fun B hB => below_setRow (Below.refl _ _) hB _) (fun j hj => setRow_other w g j _ hj))
/-- What is handed back out of memory. -/
theorem bodyPost_cell {fn : Func} {R : Ending → World → Prop} (p : Tmp) (ty : TypeId) (h : fn.results = #[.cell p ty]) (g : Nat) (ht : a.tmps.getD p undef = .pointer (some ⟨g, 0, none⟩)) (t : TypeId) (k : IntKind) (zs : List Int) (hb : BlkI w g t k zs)
    (d : TypeDesc) (hu : P.underlying ty = some d) (hd : d.isRow = true) (hi : (P.info? ty).map (·.size) = some zs.length) (hdf : a.defers = []) (hR : R (.returned (.agg (intsA k zs))) w) : bodyPost P fn R .ret a w := by
  refine bodyPost_ret (v := .agg (intsA k zs)) ?_ hdf hR
  have hl := run_loadVar_mid (P := P) w g 0 ty (zs.map (Value.int k)) d (blk_range hb) hu hd (by rw [List.length_map]; exact hi)
  have ht' : a.tmps[p]?.getD undef = .pointer (some ⟨g, 0, none⟩) := by rw [← ht, Array.getD_eq_getD_getElem?]
  simp only [results, h]
  simp [ht', asAddr, hl, intsA]
end

/-! ### three blocks at a time -/
/-- The blocks g1, g2 and g3 hold these numbers; what lay there when the call came is as it was. -/
def In3 (w : World) (g1 g2 g3 : Nat) (t1 t2 t3 : TypeId) (k1 k2 k3 : IntKind) (l1 l2 l3 : List Int) (w' : World) : Prop :=
  BlkI w' g1 t1 k1 l1 ∧ BlkI w' g2 t2 k2 l2 ∧ BlkI w' g3 t3 k3 l3 ∧ Below w.heap.size w w' ∧ w.heap.size ≤ g3 ∧ g1 ≠ g3 ∧ g2 ≠ g3
section
variable {w w' w'' : World} {g1 g2 g3 : Nat} {t1 t2 t3 : TypeId} {k1 k2 k3 : IntKind} {l1 l2 l3 : List Int}
theorem In3.below (h : In3 w g1 g2 g3 t1 t2 t3 k1 k2 k3 l1 l2 l3 w') (hb : Below w'.heap.size w' w'') : In3 w g1 g2 g3 t1 t2 t3 k1 k2 k3 l1 l2 l3 w'' := by
  obtain ⟨h1, h2, h3, h4, h5, h6, h7⟩ := h
  exact ⟨h1.below hb h1.lt, h2.below hb h2.lt, h3.below hb h3.lt, h4.trans (hb.mono h4.size), h5, h6, h7⟩
theorem In3.set_ (h : In3 w g1 g2 g3 t1 t2 t3 k1 k2 k3 l1 l2 l3 w') (i : Nat) (z : Int) : In3 w g1 g2 g3 t1 t2 t3 k1 k2 k3 l1 l2 (l3.set i z) (w'.setCell ⟨g3, i, none⟩ (.int k3 z)) := by
  obtain ⟨h1, h2, h3, h4, h5, h6, h7⟩ := h
  exact ⟨h1.far h6 _, h2.far h7 _, h3.set_ i z, h4.setCell (p := ⟨g3, i, none⟩) h5 _, h5, h6, h7⟩
theorem In3.drew (h : In3 w g1 g2 g3 t1 t2 t3 k1 k2 k3 l1 l2 l3 w') : In3 w g1 g2 g3 t1 t2 t3 k1 k2 k3 l1 l2 l3 w'.drew := by
  obtain ⟨h1, h2, h3, h4, h5, h6, h7⟩ := h
  exact ⟨h1, h2, h3, h4.drew, h5, h6, h7⟩
theorem In3.fst (h : In3 w g1 g2 g3 t1 t2 t3 k1 k2 k3 l1 l2 l3 w') : BlkI w' g1 t1 k1 l1 := h.1
theorem In3.snd (h : In3 w g1 g2 g3 t1 t2 t3 k1 k2 k3 l1 l2 l3 w') : BlkI w' g2 t2 k2 l2 := h.2.1
theorem In3.trd (h : In3 w g1 g2 g3 t1 t2 t3 k1 k2 k3 l1 l2 l3 w') : BlkI w' g3 t3 k3 l3 := h.2.2.1
theorem In3.bel (h : In3 w g1 g2 g3 t1 t2 t3 k1 k2 k3 l1 l2 l3 w') : Below w.heap.size w w' := h.2.2.2.1
/-- With place i of the third written or not. -/
def In3W (w : World) (g1 g2 g3 : Nat) (t1 t2 t3 : TypeId) (k1 k2 k3 : IntKind) (l1 l2 l3 : List Int) (i : Nat) (w' : World) : Prop := ∃ u, In3 w g1 g2 g3 t1 t2 t3 k1 k2 k3 l1 l2 (l3.set i u) w'
theorem In3.open_ (h : In3 w g1 g2 g3 t1 t2 t3 k1 k2 k3 l1 l2 l3 w') {i : Nat} (hi : i < l3.length) : In3W w g1 g2 g3 t1 t2 t3 k1 k2 k3 l1 l2 l3 i w' := ⟨l3.getD i 0, by
  have e : l3.set i (l3.getD i 0) = l3 := by
    apply List.ext_getElem?
    intro j
    rw [List.getElem?_set]
    by_cases hj : i = j
    · subst hj; simp [hi]
    · simp [hj]
  rw [e]; exact h⟩
theorem In3W.below {i : Nat} (h : In3W w g1 g2 g3 t1 t2 t3 k1 k2 k3 l1 l2 l3 i w') (hb : Below w'.heap.size w' w'') : In3W w g1 g2 g3 t1 t2 t3 k1 k2 k3 l1 l2 l3 i w'' := by
  obtain ⟨u, hu⟩ := h
  exact ⟨u, hu.below hb⟩
theorem In3W.set_ {i : Nat} (h : In3W w g1 g2 g3 t1 t2 t3 k1 k2 k3 l1 l2 l3 i w') (z : Int) : In3 w g1 g2 g3 t1 t2 t3 k1 k2 k3 l1 l2 (l3.set i z) (w'.setCell ⟨g3, i, none⟩ (.int k3 z)) := by
  obtain ⟨u, hu⟩ := h
  have h1 := hu.set_ i z
  rwa [List.set_set] at h1
theorem In3W.again {i : Nat} (h : In3W w g1 g2 g3 t1 t2 t3 k1 k2 k3 l1 l2 l3 i w') (z : Int) : In3W w g1 g2 g3 t1 t2 t3 k1 k2 k3 l1 l2 l3 i (w'.setCell ⟨g3, i, none⟩ (.int k3 z)) := ⟨z, h.set_ z⟩
theorem In3W.cell1 {i j : Nat} (h : In3W w g1 g2 g3 t1 t2 t3 k1 k2 k3 l1 l2 l3 i w') (hj : j < l1.length) : w'.cell? ⟨g1, j, none⟩ = some (.int k1 (l1.getD j 0)) := by
  obtain ⟨u, hu⟩ := h
  exact hu.1.cell hj
theorem In3W.cell3 {i j : Nat} (h : In3W w g1 g2 g3 t1 t2 t3 k1 k2 k3 l1 l2 l3 i w') (hj : j < l3.length) (hij : j ≠ i) : w'.cell? ⟨g3, j, none⟩ = some (.int k3 (l3.getD j 0)) := by
  obtain ⟨u, hu⟩ := h
  have h1 := hu.2.2.1.cell (j := j) (by rw [List.length_set]; exact hj)
  rw [h1]
  congr 2
  simp [List.getD_eq_getElem?_getD, Ne.symm hij]
theorem In3W.at_ {i : Nat} (h : In3W w g1 g2 g3 t1 t2 t3 k1 k2 k3 l1 l2 l3 i w') (hi : i < l3.length) : (∃ u, w'.cell? ⟨g3, i, none⟩ = some (.int k3 u)) ∧ w'.frozen? ⟨g3, i, none⟩ = false := by
  obtain ⟨u, hu⟩ := h
  exact ⟨⟨_, hu.2.2.1.cell (j := i) (by rw [List.length_set]; exact hi)⟩, hu.2.2.1.frozen i⟩
end
end Go.Proofs.Ytaaahgkpicjnoaa
/-
  Steps by hand through a region that draws its order: a long array loaded, a value that is the same in every world that meets S, a call.
  Conditions: those that each theorem names.
-/
set_option maxRecDepth 100000
namespace Go.Proofs.Ytaaahgkpicjnoaa
open Go.ChangeShapes Go.WideShapes Go.ChangeAt Go.RowKit
section
variable {P : Program} {ops : Array Oper} {Q : Exit → Act → World → Prop} {md : Region.Mode} {S : World → Prop} {fuel : Nat} {listed : Array Bool} {a : Act} {w : World}
/-- A long array is loaded: taken first. -/
theorem held_load {oi : Oper} (i : Nat) (hi : ops[i]? = some oi) (hs : Region.noSelect ops = true) (hf : Region.free md ops listed i = true) (hr : (Region.ready md ops listed).contains i = true)
    (hQ2 : ∀ c a v w, Q (.panic c) (a.put oi.dst v) w → Q (.panic c) a w) (hw : Region.wanted oi (yielded ops a.tmps) = true)
    (ty : TypeId) (x : Operand) (ho : oi.op = .load ty x) (g : Nat) (hx : a.eval x = .pointer (some ⟨g, 0, none⟩)) (t : TypeId) (k : IntKind) (zs : List Int) (hS : ∀ w, S w → BlkI w g t k zs)
    (d : TypeDesc) (hu : P.underlying ty = some d) (hd : d.isRow = true) (hz : (P.info? ty).map (·.size) = some zs.length) (hSw : S w)
    (h : wpAnyH P md ops Q S fuel (listed.setIfInBounds i true) (a.put oi.dst (.agg (intsA k zs))) w) : wpAnyH P md ops Q S (fuel + 1) listed a w :=
  wpAnyH_take hi hs hf hr (fun c a w => hQ2 c a _ w) (yieldsIf_load_mid hw ty x ho g 0 hx (zs.map (Value.int k)) d (fun w h => blk_range (hS w h)) hu hd (by rw [List.length_map]; exact hz)) hSw h
/-- A value that is the same in every world that meets S: taken first. -/
theorem held_val {oi : Oper} (i : Nat) (hi : ops[i]? = some oi) (hs : Region.noSelect ops = true) (hf : Region.free md ops listed i = true) (hr : (Region.ready md ops listed).contains i = true)
    (hQ2 : ∀ c a v w, Q (.panic c) (a.put oi.dst v) w → Q (.panic c) a w) (hw : Region.wanted oi (yielded ops a.tmps) = true) (v : Value) (hv : ∀ w, S w → (execOp a.eval oi).run P w = .ok (.value v) w) (hSw : S w)
    (h : wpAnyH P md ops Q S fuel (listed.setIfInBounds i true) (a.put oi.dst v) w) : wpAnyH P md ops Q S (fuel + 1) listed a w :=
  wpAnyH_take hi hs hf hr (fun c a w => hQ2 c a _ w) (.inl ⟨hw, hv⟩) hSw h
/-- A whole array is stored, when nothing else may come up. -/
theorem held_store {oi : Oper} (i : Nat) (hi : ops[i]? = some oi) (hr : Region.ready md ops listed = [i]) (hw : Region.wanted oi (yielded ops a.tmps) = true)
    (ty : TypeId) (x y : Operand) (ho : oi.op = .store ty x y) (g : Nat) (hx : a.eval x = .pointer (some ⟨g, 0, none⟩)) (t : TypeId) (k : IntKind) (zs ys : List Int) (hb : BlkI w g t k zs)
    (hy : a.eval y = .agg (intsA k ys)) (hl : zs.length = ys.length) (hz : (P.info? ty).map (·.size) = some ys.length)
    (h : ∀ w', Hid (BlkI w' g t k ys) → (∀ B, B ≤ g → Below B w w') → (∀ j, j ≠ g → w'.heap[j]? = w.heap[j]?) → S w' ∧ wpAnyH P md ops Q S fuel (listed.setIfInBounds i true) (a.put oi.dst undef) w') : wpAnyH P md ops Q S (fuel + 1) listed a w := by
  refine wpAnyH_ready (rs := [i]) hr (by simp) (AllReadyH.cons hi (fun K hK => ?_) AllReadyH.nil)
  rw [if_pos hw]
  have hrun := run_storeVar_row (P := P) w g t ty (intsA k zs) (intsA k ys) hb (by rw [intsA_size]; exact hz) (by rw [intsA_size, intsA_size]; exact hl) (all_oneCell_toArray (ints_one k ys))
  unfold Oper.wp execOp
  simp only [ho, hx, hy, Instr.storeAt, Instr.sureAddr, Sem.run_bind, Sem.run_pure, Result.andThen_ok, hrun]
  obtain ⟨h1, h2⟩ := h _ (setRow_heap w g _ _ t _ hb) (fun B hB => below_setRow (Below.refl _ _) hB _) (fun j hj => setRow_other w g j _ hj)
  exact hK.out _ _ h1 (fun _ => h2)
/-- A whole array is loaded, where it comes up. -/
theorem step_load_ints {o : Oper} {K : Act → World → Prop} {E : Prop} (hw : Region.wanted o (yielded ops a.tmps) = true) (ty : TypeId) (x : Operand) (ho : o.op = .load ty x) (g : Nat) (hx : a.eval x = .pointer (some ⟨g, 0, none⟩)) (t : TypeId) (k : IntKind) (zs : List Int)
    (hb : BlkI w g t k zs) (d : TypeDesc) (hu : P.underlying ty = some d) (hd : d.isRow = true) (hz : (P.info? ty).map (·.size) = some zs.length) (h : K (a.put o.dst (.agg (intsA k zs))) w) :
    if Region.wanted o (yielded ops a.tmps) = true then Oper.wp P o a w K Q else E := by
  rw [if_pos hw]
  exact wp_load_mid ty x ho g 0 hx (zs.map (Value.int k)) d (blk_range hb) hu hd (by rw [List.length_map]; exact hz) h
end
end Go.Proofs.Ytaaahgkpicjnoaa
/-
  Rows of cells of any kind (structs) in memory: boxed, made, loaded, stored, handed back; the same inside a region that draws its order.
  Conditions: those that each theorem names.
-/
set_option maxRecDepth 100000
namespace Go.Proofs.Ytaaahgkpicjnoaa
open Go.ChangeShapes Go.WideShapes Go.ChangeAt Go.RowKit
/-- Each value takes one cell. -/
def Ones (cs : Array Value) : Prop := ∀ u ∈ cs.toList, u.oneCell' = true
theorem Ones.all {cs : Array Value} (h : Ones cs) : cs.all Value.oneCell' = true := by
  have := all_oneCell_toArray h
  simpa using this
section
variable {P : Program} {w w' : World} {ops : Array Oper} {rest : List Oper} {o : Oper} {a : Act} {Q : Exit → Act → World → Prop}
theorem Blk.other {g r : Nat} {t : TypeId} {cs : Array Value} (h : Blk w g t cs) (ho : ∀ j, j ≠ r → w'.heap[j]? = w.heap[j]?) (hg : g ≠ r) : Blk w' g t cs := (ho g hg).trans h
theorem wpList_box_any (hgd : o.guard = none) (ty : TypeId) (x : Operand) (ho : o.op = .box ty x) (cs : Array Value) (hx : a.eval x = .agg cs)
    (h : ∀ w', Hid (Blk w' w.heap.size ty cs) → Hid (w'.heap.size = w.heap.size + 1) → Below w.heap.size w w' → wpList P ops Q rest (a.put o.dst (.pointer (some ⟨w.heap.size, 0, none⟩))) w') : wpList P ops Q (o :: rest) a w := by
  refine wpList_plain hgd fun K hK => ?_
  unfold Oper.wp execOp
  simp only [ho, hx, Instr.box, newVar, newRow, Value.cells]
  exact hK _ _ (h _ (Blk.new w ty cs) (show _ = _ by simp) ((Below.refl _ _).alloc (Nat.le_refl _) _))
theorem wpList_alloc_any (hgd : o.guard = none) (ty : TypeId) (ho : o.op = .alloc ty) (cs : Array Value) (hz : ∀ W, (zeroValue ty).run P W = .ok (.agg cs) W)
    (h : ∀ w', Hid (Blk w' w.heap.size ty cs) → Hid (w'.heap.size = w.heap.size + 1) → Below w.heap.size w w' → wpList P ops Q rest (a.put o.dst (.pointer (some ⟨w.heap.size, 0, none⟩))) w') : wpList P ops Q (o :: rest) a w := by
  refine wpList_plain hgd fun K hK => ?_
  unfold Oper.wp execOp
  simp only [ho, Instr.alloc, Sem.run_bind, hz, Result.andThen_ok, newVar, newRow, Value.cells]
  exact hK _ _ (h _ (Blk.new w ty _) (show _ = _ by simp) ((Below.refl _ _).alloc (Nat.le_refl _) _))
theorem wpList_load_any (hgd : o.guard = none) (ty : TypeId) (x : Operand) (ho : o.op = .load ty x) (g off : Nat) (hx : a.eval x = .pointer (some ⟨g, off, none⟩)) (cs : List Value) (hb : w.rangeAt g off cs)
    (d : TypeDesc) (hu : P.underlying ty = some d) (hd : d.isRow = true) (hi : (P.info? ty).map (·.size) = some cs.length)
    (h : wpList P ops Q rest (a.put o.dst (.agg cs.toArray)) w) : wpList P ops Q (o :: rest) a w :=
  wpList_load_mid hgd ty x ho g off hx cs d hb hu hd hi h
theorem wpList_store_any (hgd : o.guard = none) (ty : TypeId) (x y : Operand) (ho : o.op = .store ty x y) (g : Nat) (hx : a.eval x = .pointer (some ⟨g, 0, none⟩)) (t : TypeId) (zs ys : Array Value) (hb : Blk w g t zs)
    (hy : a.eval y = .agg ys) (hl : zs.size = ys.size) (hi : (P.info? ty).map (·.size) = some ys.size) (h1 : ys.all (·.oneCell') = true)
    (h : ∀ w', Hid (Blk w' g t ys) → Hid (w'.heap.size = w.heap.size) → (∀ B, B ≤ g → Below B w w') → (∀ j, j ≠ g → w'.heap[j]? = w.heap[j]?) → wpList P ops Q rest (a.put o.dst undef) w') : wpList P ops Q (o :: rest) a w := by
  refine wpList_plain hgd fun K hK => ?_
  have hrun := run_storeVar_row (P := P) w g t ty zs ys hb hi hl h1
  unfold Oper.wp execOp
  simp only [ho, hx, hy, Instr.storeAt, Instr.sureAddr, Sem.run_bind, Sem.run_pure, Result.andThen_ok, hrun]
  exact hK _ _ (h _ (setRow_heap w g _ _ t _ hb) (show _ = _ by simp) (fun B hB => below_setRow (Below.refl _ _) hB _) (fun j hj => setRow_other w g j _ hj))
theorem bodyPost_any {fn : Func} {R : Ending → World → Prop} (p : Tmp) (ty : TypeId) (h : fn.results = #[.cell p ty]) (g : Nat) (ht : a.tmps.getD p undef = .pointer (some ⟨g, 0, none⟩)) (t : TypeId) (cs : Array Value) (hb : Blk w g t cs)
    (d : TypeDesc) (hu : P.underlying ty = some d) (hd : d.isRow = true) (hi : (P.info? ty).map (·.size) = some cs.size) (hdf : a.defers = []) (hR : R (.returned (.agg cs)) w) : bodyPost P fn R .ret a w := by
  refine bodyPost_ret (v := .agg cs) ?_ hdf hR
  have hl := run_loadVar_mid (P := P) w g 0 ty cs.toList d hb.range hu hd (by rw [Array.length_toList]; exact hi)
  have ht' : a.tmps[p]?.getD undef = .pointer (some ⟨g, 0, none⟩) := by rw [← ht, Array.getD_eq_getD_getElem?]
  simp only [results, h]
  simp [ht', asAddr, hl]
/-- A row out of memory, and a value beside it. -/
theorem bodyPost_any2 {fn : Func} {R : Ending → World → Prop} (p q : Tmp) (ty : TypeId) (h : fn.results = #[.cell p ty, .tmp q]) (g : Nat) (ht : a.tmps.getD p undef = .pointer (some ⟨g, 0, none⟩)) (v : Value) (hq : a.tmps.getD q undef = v) (t : TypeId) (cs : Array Value) (hb : Blk w g t cs)
    (d : TypeDesc) (hu : P.underlying ty = some d) (hd : d.isRow = true) (hi : (P.info? ty).map (·.size) = some cs.size) (hdf : a.defers = []) (hR : R (.returned (.tuple #[.agg cs, v])) w) : bodyPost P fn R .ret a w := by
  refine bodyPost_ret (v := .tuple #[.agg cs, v]) ?_ hdf hR
  have hl := run_loadVar_mid (P := P) w g 0 ty cs.toList d hb.range hu hd (by rw [Array.length_toList]; exact hi)
  have ht' : a.tmps[p]?.getD undef = .pointer (some ⟨g, 0, none⟩) := by rw [← ht, Array.getD_eq_getD_getElem?]
  have hq' : a.tmps[q]?.getD undef = v := by rw [← hq, Array.getD_eq_getD_getElem?]
  simp only [results, h]
  simp [ht', hq', asAddr, hl]
end
section
variable {P : Program} {ops : Array Oper} {Q : Exit → Act → World → Prop} {md : Region.Mode} {S : World → Prop} {fuel : Nat} {listed : Array Bool} {a : Act} {w : World}
/-- A row is loaded, wherever it lies: taken first. -/
theorem held_load_mid {oi : Oper} (i : Nat) (hi : ops[i]? = some oi) (hs : Region.noSelect ops = true) (hf : Region.free md ops listed i = true) (hr : (Region.ready md ops listed).contains i = true)
    (hQ2 : ∀ c a v w, Q (.panic c) (a.put oi.dst v) w → Q (.panic c) a w) (hw : Region.wanted oi (yielded ops a.tmps) = true)
    (ty : TypeId) (x : Operand) (ho : oi.op = .load ty x) (g off : Nat) (hx : a.eval x = .pointer (some ⟨g, off, none⟩)) (cs : List Value) (hS : ∀ w, S w → w.rangeAt g off cs)
    (d : TypeDesc) (hu : P.underlying ty = some d) (hd : d.isRow = true) (hz : (P.info? ty).map (·.size) = some cs.length) (hSw : S w)
    (h : wpAnyH P md ops Q S fuel (listed.setIfInBounds i true) (a.put oi.dst (.agg cs.toArray)) w) : wpAnyH P md ops Q S (fuel + 1) listed a w :=
  wpAnyH_take hi hs hf hr (fun c a w => hQ2 c a _ w) (yieldsIf_load_mid hw ty x ho g off hx cs d hS hu hd hz) hSw h
theorem held_store_any {oi : Oper} (i : Nat) (hi : ops[i]? = some oi) (hr : Region.ready md ops listed = [i]) (hw : Region.wanted oi (yielded ops a.tmps) = true)
    (ty : TypeId) (x y : Operand) (ho : oi.op = .store ty x y) (g : Nat) (hx : a.eval x = .pointer (some ⟨g, 0, none⟩)) (t : TypeId) (zs ys : Array Value) (hb : Blk w g t zs)
    (hy : a.eval y = .agg ys) (hl : zs.size = ys.size) (hz : (P.info? ty).map (·.size) = some ys.size) (h1 : ys.all (·.oneCell') = true)
    (h : ∀ w', Hid (Blk w' g t ys) → (∀ B, B ≤ g → Below B w w') → (∀ j, j ≠ g → w'.heap[j]? = w.heap[j]?) → S w' ∧ wpAnyH P md ops Q S fuel (listed.setIfInBounds i true) (a.put oi.dst undef) w') : wpAnyH P md ops Q S (fuel + 1) listed a w := by
  refine wpAnyH_ready (rs := [i]) hr (by simp) (AllReadyH.cons hi (fun K hK => ?_) AllReadyH.nil)
  rw [if_pos hw]
  have hrun := run_storeVar_row (P := P) w g t ty zs ys hb hz hl h1
  unfold Oper.wp execOp
  simp only [ho, hx, hy, Instr.storeAt, Instr.sureAddr, Sem.run_bind, Sem.run_pure, Result.andThen_ok, hrun]
  obtain ⟨h1, h2⟩ := h _ (setRow_heap w g _ _ t _ hb) (fun B hB => below_setRow (Below.refl _ _) hB _) (fun j hj => setRow_other w g j _ hj)
  exact hK.out _ _ h1 (fun _ => h2)
end
/-! ### loaded whole; reads beside a store elsewhere -/
section
variable {P : Program} {w w' : World} {ops : Array Oper} {rest : List Oper} {o : Oper} {a : Act} {Q : Exit → Act → World → Prop}
theorem wpList_load_blk (hgd : o.guard = none) (ty : TypeId) (x : Operand) (ho : o.op = .load ty x) (g : Nat) (hx : a.eval x = .pointer (some ⟨g, 0, none⟩)) (t : TypeId) (cs : Array Value) (hb : Blk w g t cs)
    (d : TypeDesc) (hu : P.underlying ty = some d) (hd : d.isRow = true) (hi : (P.info? ty).map (·.size) = some cs.size)
    (h : wpList P ops Q rest (a.put o.dst (.agg cs)) w) : wpList P ops Q (o :: rest) a w :=
  wpList_load_mid hgd ty x ho g 0 hx cs.toList d hb.range hu hd (by rw [Array.length_toList]; exact hi) (by rw [Array.toArray_toList]; exact h)
end
theorem Rd.other {k : IntKind} {w w' : World} {B n r : Nat} {A : Option Addr} {zs : List Int} (h : Rd k w B A n zs) (ho : ∀ j, j ≠ r → w'.heap[j]? = w.heap[j]?) (hne : ∀ b off, 0 < n → A = some ⟨b, off, none⟩ → b ≠ r) : Rd k w' B A n zs :=
  ⟨h.1, fun hn => by
    obtain ⟨b, off, e, hb, hc⟩ := h.2 hn
    refine ⟨b, off, e, hb, fun j hj => ?_⟩
    rw [← hc j hj]
    simp only [World.cell?, ho b (hne b off hn e)]⟩
end Go.Proofs.Ytaaahgkpicjnoaa
/-
  Steps by hand inside a region that draws its order; cells of a block set one by one; worlds that differ in one block alone.
  Conditions: those that each theorem names.
-/
set_option maxRecDepth 100000
set_option linter.unusedVariables false
set_option linter.unusedSimpArgs false
namespace Go.Proofs.Ytaaahgkpicjnoaa
open Go.ChangeShapes Go.WideShapes Go.ChangeAt Go.RowKit
section
variable {P : Program} {ops : Array Oper} {Q : Exit → Act → World → Prop} {md : Region.Mode} {S : World → Prop} {fuel : Nat} {listed : Array Bool} {a : Act} {w : World}
/-- A row is loaded whole: taken first. -/
theorem held_row {oi : Oper} (i : Nat) (d : Option Tmp) (hi : ops[i]? = some oi) (hd : oi.dst = d) (hs : Region.noSelect ops = true) (hf : Region.free md ops listed i = true) (hr : (Region.ready md ops listed).contains i = true)
    (hQ2 : ∀ c a v w, Q (.panic c) (a.put oi.dst v) w → Q (.panic c) a w) (hw : Region.wanted oi (yielded ops a.tmps) = true)
    (ty : TypeId) (x : Operand) (ho : oi.op = .load ty x) (g : Nat) (hx : a.eval x = .pointer (some ⟨g, 0, none⟩)) (t : TypeId) (cs : Array Value) (hS : ∀ w, S w → Blk w g t cs)
    (ds : TypeDesc) (hu : P.underlying ty = some ds) (hdr : ds.isRow = true) (hz : (P.info? ty).map (·.size) = some cs.size) (hSw : S w)
    (h : wpAnyH P md ops Q S fuel (listed.setIfInBounds i true) (a.put d (.agg cs)) w) : wpAnyH P md ops Q S (fuel + 1) listed a w :=
  held_load_mid i hi hs hf hr hQ2 hw ty x ho g 0 hx cs.toList (fun w h => (hS w h).range) ds hu hdr (by rw [Array.length_toList]; exact hz) hSw (by rw [Array.toArray_toList, hd]; exact h)
/-- An operation that is not wanted: taken first. -/
theorem held_not {oi : Oper} (i : Nat) (d : Option Tmp) (hi : ops[i]? = some oi) (hd : oi.dst = d) (hs : Region.noSelect ops = true) (hf : Region.free md ops listed i = true) (hr : (Region.ready md ops listed).contains i = true)
    (hQ2 : ∀ c a v w, Q (.panic c) (a.put oi.dst v) w → Q (.panic c) a w) (hw : Region.wanted oi (yielded ops a.tmps) = false) (hSw : S w)
    (h : wpAnyH P md ops Q S fuel (listed.setIfInBounds i true) (a.put d undef) w) : wpAnyH P md ops Q S (fuel + 1) listed a w :=
  wpAnyH_take hi hs hf hr (fun c a w => hQ2 c a _ w) (.inr ⟨hw, rfl⟩) hSw (by rw [hd]; exact h)
/-- A value that is the same in every world that meets S: taken first. -/
theorem held_v {oi : Oper} (i : Nat) (d : Option Tmp) (hi : ops[i]? = some oi) (hd : oi.dst = d) (hs : Region.noSelect ops = true) (hf : Region.free md ops listed i = true) (hr : (Region.ready md ops listed).contains i = true)
    (hQ2 : ∀ c a v w, Q (.panic c) (a.put oi.dst v) w → Q (.panic c) a w) (hw : Region.wanted oi (yielded ops a.tmps) = true) (v : Value) (hv : ∀ w, S w → (execOp a.eval oi).run P w = .ok (.value v) w) (hSw : S w)
    (h : wpAnyH P md ops Q S fuel (listed.setIfInBounds i true) (a.put d v) w) : wpAnyH P md ops Q S (fuel + 1) listed a w :=
  wpAnyH_take hi hs hf hr (fun c a w => hQ2 c a _ w) (.inl ⟨hw, hv⟩) hSw (by rw [hd]; exact h)
/-- A new row, where it comes up. -/
theorem step_alloc {o : Oper} {K : Act → World → Prop} {E : Prop} (d : Option Tmp) (hd : o.dst = d) (hw : Region.wanted o (yielded ops a.tmps) = true) (ty : TypeId) (ho : o.op = .alloc ty) (cs : Array Value) (hz : ∀ W, (zeroValue ty).run P W = .ok (.agg cs) W)
    (h : ∀ w', Hid (Blk w' w.heap.size ty cs) → Hid (w'.heap.size = w.heap.size + 1) → Below w.heap.size w w' → K (a.put d (.pointer (some ⟨w.heap.size, 0, none⟩))) w') :
    if Region.wanted o (yielded ops a.tmps) = true then Oper.wp P o a w K Q else E := by
  subst hd
  rw [if_pos hw]
  unfold Oper.wp execOp
  simp only [ho, Instr.alloc, Sem.run_bind, hz, Result.andThen_ok, newVar, newRow, Value.cells]
  exact h _ (Blk.new w ty _) (show _ = _ by simp) ((Below.refl _ _).alloc (Nat.le_refl _) _)
/-- A row is stored whole, where it comes up. -/
theorem step_store {o : Oper} {K : Act → World → Prop} {E : Prop} (d : Option Tmp) (hd : o.dst = d) (hw : Region.wanted o (yielded ops a.tmps) = true) (ty : TypeId) (x y : Operand) (ho : o.op = .store ty x y) (g : Nat) (hx : a.eval x = .pointer (some ⟨g, 0, none⟩)) (t : TypeId) (zs ys : Array Value) (hb : Blk w g t zs)
    (hy : a.eval y = .agg ys) (hl : zs.size = ys.size) (hz : (P.info? ty).map (·.size) = some ys.size) (h1 : ys.all (·.oneCell') = true)
    (h : ∀ w', Hid (Blk w' g t ys) → Hid (w'.heap.size = w.heap.size) → (∀ B, B ≤ g → Below B w w') → (∀ j, j ≠ g → w'.heap[j]? = w.heap[j]?) → K (a.put d undef) w') :
    if Region.wanted o (yielded ops a.tmps) = true then Oper.wp P o a w K Q else E := by
  subst hd
  rw [if_pos hw]
  have hrun := run_storeVar_row (P := P) w g t ty zs ys hb hz hl h1
  unfold Oper.wp execOp
  simp only [ho, hx, hy, Instr.storeAt, Instr.sureAddr, Sem.run_bind, Sem.run_pure, Result.andThen_ok, hrun]
  exact h _ (setRow_heap w g _ _ t _ hb) (show _ = _ by simp) (fun B hB => below_setRow (Below.refl _ _) hB _) (fun j hj => setRow_other w g j _ hj)
/-- A call, where it comes up. -/
theorem step_call {o : Oper} {K : Act → World → Prop} {E : Prop} (d : Option Tmp) (hd : o.dst = d) (hw : Region.wanted o (yielded ops a.tmps) = true) (f : FuncId) (vs : Array Value) (he : (execOp a.eval o).run P w = .ok (.enter f vs) w) (R : Ending → World → Prop) (hc : Calls P f vs w R)
    (h : ∀ e w', R e w' → ∃ v, e = .returned v ∧ K (a.put d v) w') : if Region.wanted o (yielded ops a.tmps) = true then Oper.wp P o a w K Q else E := by
  subst hd
  rw [if_pos hw]
  unfold Oper.wp
  rw [he, Oper.upon_enter]
  exact hc.mono fun e w' hr => by
    obtain ⟨v, rfl, hk⟩ := h e w' hr
    exact hk
/-- An operation that is not wanted, where it comes up. -/
theorem step_not {o : Oper} {K : Act → World → Prop} {W : Prop} (d : Option Tmp) (hd : o.dst = d) (hw : Region.wanted o (yielded ops a.tmps) = false) (h : K (a.put d undef) w) : if Region.wanted o (yielded ops a.tmps) = true then W else K (a.put o.dst undef) w := by
  subst hd
  rw [if_neg (by rw [hw]; decide)]
  exact h
end
/-! ### cells set one by one -/
def putAll (cs : Array Value) (o : Nat) : List Value → Array Value
  | [] => cs
  | v :: vs => putAll (cs.setIfInBounds o v) (o + 1) vs
theorem Blk.setCells {g : Nat} {t : TypeId} : ∀ (vs : List Value) (o : Nat) {w : World} {cs : Array Value}, Blk w g t cs → Blk (w.setCells g o vs) g t (putAll cs o vs)
  | [], _, _, _, h => h
  | v :: vs, o, w, cs, h => by
    rw [World.setCells]
    exact Blk.setCells vs (o + 1) (h.set_ o v)
/-- Nothing but the block g has changed; more may have come. -/
structure Only (g : Nat) (w w' : World) : Prop where
  os : w'.os = w.os
  tape : w'.tape = w.tape
  output : w'.output = w.output
  size : w.heap.size ≤ w'.heap.size
  block : ∀ j, j < w.heap.size → j ≠ g → w'.heap[j]? = w.heap[j]?
theorem Only.refl (g : Nat) (w : World) : Only g w w := ⟨rfl, rfl, rfl, Nat.le_refl _, fun _ _ _ => rfl⟩
theorem Only.trans {g : Nat} {a b c : World} (h : Only g a b) (h' : Only g b c) : Only g a c :=
  ⟨h'.os.trans h.os, h'.tape.trans h.tape, h'.output.trans h.output, Nat.le_trans h.size h'.size, fun j hj hne => (h'.block j (Nat.lt_of_lt_of_le hj h.size) hne).trans (h.block j hj hne)⟩
theorem Only.of_below {g : Nat} {w w' : World} (h : Below w.heap.size w w') : Only g w w' := ⟨h.os, h.tape, h.output, h.size, fun j hj _ => h.block j hj⟩
theorem Only.below {g B : Nat} {w w' : World} (h : Only g w w') (hg : B ≤ g) (hB : B ≤ w.heap.size) : Below B w w' := ⟨h.os, h.tape, h.output, h.size, fun j hj => h.block j (by omega) (by omega)⟩
theorem Only.drew {g : Nat} {w w' : World} (h : Only g w w') : Only g w w'.drew := ⟨h.os, h.tape, h.output, h.size, h.block⟩
theorem Only.of_drew {g : Nat} {w w' : World} (h : Only g w.drew w') : Only g w w' := ⟨h.os, h.tape, h.output, h.size, h.block⟩
theorem Only.setCell (g o : Nat) (w : World) (v : Value) : Only g w (w.setCell ⟨g, o, none⟩ v) :=
  ⟨rfl, rfl, rfl, by simp [World.setCell], fun j _ hne => Below.heap_setCell w ⟨g, o, none⟩ v j hne⟩
theorem Only.setCells (g : Nat) : ∀ (vs : List Value) (o : Nat) (w : World), Only g w (w.setCells g o vs)
  | [], _, w => Only.refl g w
  | v :: vs, o, w => by
    rw [World.setCells]
    exact (Only.setCell g o w v).trans (Only.setCells g vs (o + 1) _)
theorem Blk.there {w : World} {g : Nat} {t : TypeId} {cs : Array Value} (h : Blk w g t cs) (o n : Nat) (hn : o + n ≤ cs.size) : w.there g o n := fun j hj => ⟨by
  rw [h.cell, Array.getElem?_eq_getElem (by omega)]; rfl, h.frozen _⟩
theorem Blk.only {w w' : World} {g r : Nat} {t : TypeId} {cs : Array Value} (h : Blk w r t cs) (ho : Only g w w') (hne : r ≠ g) : Blk w' r t cs := (ho.block r h.lt hne).trans h
/-- A row of the call's own lies apart from a block of other things. -/
theorem OwnI.only {w w' : World} {base g : Nat} {e t : TypeId} {k : IntKind} {v : Value} {zs : List Int} {cs : Array Value} (h : OwnI w base e k v zs) (hb : Blk w g t cs) (hne : e ≠ t) (ho : Only g w w') : OwnI w' base e k v zs := by
  refine ⟨h.1, ?_⟩
  rcases h.2 with h1 | ⟨g', cap, cur, h1, h2, h3, h4⟩
  · exact .inl h1
  · have hlt : g' < w.heap.size := by
      rcases Nat.lt_or_ge g' w.heap.size with h5 | h5
      · exact h5
      · rw [Array.getElem?_eq_none h5] at h3; cases h3
    have hg : g' ≠ g := by
      rintro rfl
      unfold Blk at hb
      rw [h3] at hb
      injection hb with hb
      injection hb with _ h5
      exact hne h5
    exact .inr ⟨g', cap, cur, h1, h2, (ho.block g' hlt hg).trans h3, h4⟩
/-- A part of a block that is not of the same kind, read as numbers, stays. -/
theorem RdA.only {w w' : World} {k : IntKind} {s n g : Nat} {A : Option Addr} {bs : List (List Int)} (h : RdA k s w g A n bs) (hg : g ≤ w.heap.size) (ho : Only g w w') : RdA k s w' g A n bs := h.below (ho.below (Nat.le_refl _) hg)
section
variable {P : Program} {w w' : World} {ops : Array Oper} {rest : List Oper} {o : Oper} {a : Act} {Q : Exit → Act → World → Prop}
/-- A part of a block is stored, where it comes up. -/
theorem step_store_at {K : Act → World → Prop} {E : Prop} (d : Option Tmp) (hd : o.dst = d) (hw : Region.wanted o (yielded ops a.tmps) = true) (ty : TypeId) (x y : Operand) (ho : o.op = .store ty x y) (g : Nat) (hx : a.eval x = .pointer (some ⟨g, 0, none⟩)) (t : TypeId) (cs ys : Array Value) (hb : Blk w g t cs)
    (hy : a.eval y = .agg ys) (hl : ys.size ≤ cs.size) (hz : (P.info? ty).map (·.size) = some ys.size) (h1 : ys.all (·.oneCell') = true)
    (h : ∀ w', Hid (Blk w' g t (putAll cs 0 ys.toList)) → Only g w w' → K (a.put d undef) w') :
    if Region.wanted o (yielded ops a.tmps) = true then Oper.wp P o a w K Q else E := by
  subst hd
  rw [if_pos hw]
  exact wp_store_mid ty x y ho g 0 ys hx hy (hb.there 0 ys.size (by omega)) hz h1 (h _ (Blk.setCells _ _ hb) (Only.setCells g _ _ _))
/-- A row is loaded, wherever it lies, where it comes up. -/
theorem step_load_at {K : Act → World → Prop} {E : Prop} (d : Option Tmp) (hd : o.dst = d) (hw : Region.wanted o (yielded ops a.tmps) = true) (ty : TypeId) (x : Operand) (ho : o.op = .load ty x) (g off : Nat) (hx : a.eval x = .pointer (some ⟨g, off, none⟩)) (cs : List Value) (hb : w.rangeAt g off cs)
    (ds : TypeDesc) (hu : P.underlying ty = some ds) (hdr : ds.isRow = true) (hz : (P.info? ty).map (·.size) = some cs.length) (h : K (a.put d (.agg cs.toArray)) w) :
    if Region.wanted o (yielded ops a.tmps) = true then Oper.wp P o a w K Q else E := by
  subst hd
  rw [if_pos hw]
  exact wp_load_mid ty x ho g off hx cs ds hb hu hdr hz h
/-- A cell is loaded, where it comes up. -/
theorem step_v {K : Act → World → Prop} {E : Prop} (d : Option Tmp) (hd : o.dst = d) (hw : Region.wanted o (yielded ops a.tmps) = true) (v : Value) (hv : (execOp a.eval o).run P w = .ok (.value v) w) (h : K (a.put d v) w) :
    if Region.wanted o (yielded ops a.tmps) = true then Oper.wp P o a w K Q else E := by
  subst hd
  rw [if_pos hw]
  unfold Oper.wp
  simp only [hv]
  exact h
theorem run_storeVar_cell (b off : Nat) (ty : TypeId) (v : Value) (ht : w.there b off 1) (hi : (P.info? ty).map (·.size) = some 1) (h1 : v.cells = #[v]) (h2 : v.oneCell' = true) : (storeVar ty ⟨b, off, none⟩ v).run P w = .ok () (w.setCell ⟨b, off, none⟩ v) := by
  have := run_storeCells_cells (P := P) b off [v] 0 w (fun j hj => by simpa using (ht j (by simpa using hj)).1) (fun j hj => by simpa using (ht j (by simpa using hj)).2)
    (fun u hu => by rw [List.mem_singleton.1 hu]; exact h2)
  cases hq : P.info? ty with
  | none => simp [hq] at hi
  | some i =>
    have hs : i.size = 1 := by simpa [hq] using hi
    simp only [Nat.add_zero, World.setCells] at this
    simp [storeVar, sizeOf, typeInfo, hq, h1, hs, this]
/-- One cell of a block is stored, where it comes up. -/
theorem step_store_cell {K : Act → World → Prop} {E : Prop} (d : Option Tmp) (hd : o.dst = d) (hw : Region.wanted o (yielded ops a.tmps) = true) (ty : TypeId) (x y : Operand) (ho : o.op = .store ty x y) (g off : Nat) (hx : a.eval x = .pointer (some ⟨g, off, none⟩)) (t : TypeId) (cs : Array Value) (hb : Blk w g t cs)
    (v : Value) (hy : a.eval y = v) (hl : off < cs.size) (hz : (P.info? ty).map (·.size) = some 1) (h1 : v.cells = #[v]) (h2 : v.oneCell' = true)
    (h : ∀ w', Hid (Blk w' g t (cs.setIfInBounds off v)) → Only g w w' → K (a.put d undef) w') :
    if Region.wanted o (yielded ops a.tmps) = true then Oper.wp P o a w K Q else E := by
  subst hd
  rw [if_pos hw]
  have hrun := run_storeVar_cell (P := P) (w := w) g off ty v (hb.there off 1 (by omega)) hz h1 h2
  unfold Oper.wp execOp
  simp only [ho, hx, hy, Instr.storeAt, Instr.sureAddr, Sem.run_bind, Sem.run_pure, Result.andThen_ok, hrun]
  exact h _ (hb.set_ off v) (Only.setCell g off w v)
/-- The same, in a plain region. -/
theorem wpList_store_cell (hgd : o.guard = none) (ty : TypeId) (x y : Operand) (ho : o.op = .store ty x y) (g off : Nat) (hx : a.eval x = .pointer (some ⟨g, off, none⟩)) (t : TypeId) (cs : Array Value) (hb : Blk w g t cs)
    (v : Value) (hy : a.eval y = v) (hl : off < cs.size) (hz : (P.info? ty).map (·.size) = some 1) (h1 : v.cells = #[v]) (h2 : v.oneCell' = true)
    (h : ∀ w', Hid (Blk w' g t (cs.setIfInBounds off v)) → Only g w w' → wpList P ops Q rest (a.put o.dst undef) w') : wpList P ops Q (o :: rest) a w := by
  refine wpList_plain hgd fun K hK => ?_
  have hrun := run_storeVar_cell (P := P) (w := w) g off ty v (hb.there off 1 (by omega)) hz h1 h2
  unfold Oper.wp execOp
  simp only [ho, hx, hy, Instr.storeAt, Instr.sureAddr, Sem.run_bind, Sem.run_pure, Result.andThen_ok, hrun]
  exact hK _ _ (h _ (hb.set_ off v) (Only.setCell g off w v))
end
/-! ### rows of the call's own, out of blocks that are known whole -/
theorem OwnI.of_blk {w : World} {g base c : Nat} {e : TypeId} {k : IntKind} {zs cs : List Int} (h : BlkI w g e k cs) (hb : base ≤ g) (hn : zs.length ≤ c) (hc : c ≤ maxLen) (hs : cs.length = c) (hp : cs.take zs.length = zs) : OwnI w base e k (.slice (some ⟨g, 0, none⟩) zs.length c) zs :=
  ⟨by simp, .inr ⟨g, c, intsA k cs, rfl, hb, h, hn, hc, by rw [intsA_size, hs]; simp, by simp [intsA, ← List.map_take, hp]⟩⟩
theorem OwnI.zero {w : World} {base n c : Nat} {e : TypeId} {k : IntKind} {A : Option Addr} {zs : List Int} (h : OwnI w base e k (.slice A n c) zs) (hn : 0 < zs.length) : OwnI w base e k (.slice A 0 c) [] := by
  rcases h.2 with ⟨h1, h2⟩ | ⟨g, cap, cur, h1, h2, h3, h4, h5, h6, h7⟩
  · omega
  · injection h1 with e1 e2 e3
    subst e1 e3
    exact ⟨rfl, .inr ⟨g, c, cur, rfl, h2, h3, Nat.zero_le _, h5, h6, by simp⟩⟩
theorem run_make_cap {P : Program} (t e : TypeId) (i : TypeInfo) (k : IntKind) (ht : P.underlying t = some (.slice e)) (hi : P.info? e = some i) (hz : i.zero = some (.int k 0)) (hs : i.size = 1) (hby : i.bytes = 1) (n m : Nat) (hnm : n ≤ m) (hm : m ≤ 1000000) (w : World) :
    (Instr.makeSlice t (.int .i64 (n : Int)) (.int .i64 (m : Int))).run P w = .ok (.slice (some ⟨w.heap.size, 0, none⟩) n m) (w.alloc (.cells (intsA k (List.replicate m 0)) e)) := by
  have hr := run_make (P := P) w t e i _ ht hi hz .i64 .i64 n m (by omega) (by omega) (by rw [hby]; omega) (by omega)
  simp only [Int.toNat_natCast, hs, Nat.mul_one] at hr
  rw [hr, show madeCells (Value.int k 0).cells m = intsA k (List.replicate m 0) from ?_]
  have h1 := madeCells_same (.int k 0) 1 m (by omega)
  simpa [intsA, Value.cells] using h1
section
variable {P : Program} {ops : Array Oper} {Q : Exit → Act → World → Prop} {md : Region.Mode} {S : World → Prop} {fuel : Nat} {listed : Array Bool} {a : Act} {w : World}
/-- A row is loaded, wherever it lies: taken first. -/
theorem held_load_at {oi : Oper} (i : Nat) (d : Option Tmp) (hi : ops[i]? = some oi) (hd : oi.dst = d) (hs : Region.noSelect ops = true) (hf : Region.free md ops listed i = true) (hr : (Region.ready md ops listed).contains i = true)
    (hQ2 : ∀ c a v w, Q (.panic c) (a.put oi.dst v) w → Q (.panic c) a w) (hw : Region.wanted oi (yielded ops a.tmps) = true)
    (ty : TypeId) (x : Operand) (ho : oi.op = .load ty x) (g off : Nat) (hx : a.eval x = .pointer (some ⟨g, off, none⟩)) (cs : List Value) (hS : ∀ w, S w → w.rangeAt g off cs)
    (ds : TypeDesc) (hu : P.underlying ty = some ds) (hdr : ds.isRow = true) (hz : (P.info? ty).map (·.size) = some cs.length) (hSw : S w)
    (h : wpAnyH P md ops Q S fuel (listed.setIfInBounds i true) (a.put d (.agg cs.toArray)) w) : wpAnyH P md ops Q S (fuel + 1) listed a w :=
  held_load_mid i hi hs hf hr hQ2 hw ty x ho g off hx cs hS ds hu hdr hz hSw (by rw [hd]; exact h)
end
theorem step_append_d {P : Program} (w : World) {ops : Array Oper} {o : Oper} {a : Act} {K : Act → World → Prop} {Q : Exit → Act → World → Prop} {E : Prop} (d : Option Tmp) (hd : o.dst = d) (hgd : o.guard = none) (s x : Operand) (t : TypeId)
    (ho : o.op = .call { callee := .builtin .append, args := #[s, x], argTypes := #[t, t] })
    (base : Nat) (e : TypeId) (i : TypeInfo) (z : Value) (bytes : Nat) (k : IntKind) (ht : P.underlying t = some (.slice e)) (hi : P.info? e = some i) (hz : i.zero = some z)
    (hsize : i.size = 1) (hby : i.bytes = bytes) (hzs : z.cells.size = 1) (v : Value) (zs : List Int) (hs : a.eval s = v) (hown : OwnI w base e k v zs)
    (B : Nat) (A : Option Addr) (m c : Nat) (ys : List Int) (hx : a.eval x = .slice A m c) (hr : Rd k w B A m ys)
    (h63 : zs.length + m ≤ maxLen) (hbytes : (zs.length + m) * bytes ≤ 140737488355328) (hbase : base ≤ w.heap.size)
    (h : ∀ v' w', OwnI w' base e k v' (zs ++ ys) → w.grownBy w' v.ownBlock → (v'.ownBlock = v.ownBlock ∨ v'.ownBlock = some w.heap.size) → K (a.put d v') w') :
    if Region.wanted o (yielded ops a.tmps) = true then Oper.wp P o a w K Q else E := by
  subst hd
  exact step_append_ints w hgd s x t ho base e i z bytes k ht hi hz hsize hby hzs v zs hs hown B A m c ys hx hr h63 hbytes hbase h
section
variable {P : Program} {ops : Array Oper} {Q : Exit → Act → World → Prop} {md : Region.Mode} {S : World → Prop} {fuel : Nat} {listed : Array Bool} {a : Act} {w : World}
/-- What comes behind the region is kept under a letter meanwhile. -/
theorem wpAnyH_letter (L : Array Bool) (hL : listed = L) (hQ : ∀ c a d v w, Q (.panic c) (Act.put a d v) w → Q (.panic c) a w)
    (h : ∀ Q' : Exit → Act → World → Prop, Hid (∀ a w, Q .normal a w → Q' .normal a w) → Hid (∀ c a d v w, Q' (.panic c) (Act.put a d v) w → Q' (.panic c) a w) → wpAnyH P md ops Q' S fuel L a w) : wpAnyH P md ops Q S fuel listed a w := by
  subst hL
  exact h Q (fun _ _ h => h) hQ
end
/-- A cell of a row of the call's own is stored. -/
theorem OwnI.put {w w' : World} {base g c n j : Nat} {e : TypeId} {k : IntKind} {z : Int} {zs : List Int} {cur : Array Value} (h : OwnI w base e k (.slice (some ⟨g, 0, none⟩) n c) zs) (hb : Blk w g e cur) (hj : j < zs.length) (hk : Blk w' g e (cur.setIfInBounds j (.int k z))) : OwnI w' base e k (.slice (some ⟨g, 0, none⟩) n c) (zs.set j z) := by
  refine ⟨by simp, ?_⟩
  rcases h.2 with ⟨h1, _⟩ | ⟨g', cap, cur', h1, h2, h3, h4, h5, h6, h7⟩
  · cases h1
  · injection h1 with e1 e2 e3
    injection e1 with e1
    injection e1 with e1 e4
    subst e1 e2 e3
    unfold Blk at hb
    rw [h3] at hb
    injection hb with hb
    injection hb with hb _
    subst hb
    refine .inr ⟨g, c, _, by rw [List.length_set], h2, hk, by rw [List.length_set]; exact h4, h5, by rw [Array.size_setIfInBounds]; exact h6, ?_⟩
    rw [Nat.mul_one] at h7 ⊢
    rw [Array.toList_setIfInBounds, List.length_set, List.take_set, h7, List.map_set]
/-- Its block, known whole. -/
theorem OwnI.whole {w : World} {base n c : Nat} {e : TypeId} {k : IntKind} {A : Option Addr} {zs : List Int} (h : OwnI w base e k (.slice A n c) zs) (hn : 0 < zs.length) : ∃ g cur, A = some ⟨g, 0, none⟩ ∧ base ≤ g ∧ Blk w g e cur ∧ zs.length ≤ cur.size ∧ ∀ j, j < zs.length → cur[j]? = some (.int k (zs.getD j 0)) := by
  rcases h.2 with ⟨h1, h2⟩ | ⟨g, cap, cur, h1, h2, h3, h4, h5, h6, h7⟩
  · omega
  · injection h1 with e1 e2 e3
    rw [Nat.mul_one] at h7
    refine ⟨g, cur, e1, h2, h3, by rw [h6]; omega, fun j hj => ?_⟩
    have h8 : (cur.toList.take zs.length)[j]? = (zs.map (Value.int k))[j]? := by rw [h7]
    rw [List.getElem?_take, if_pos hj, List.getElem?_map, List.getElem?_eq_getElem hj] at h8
    rw [← Array.getElem?_toList, h8, List.getD_eq_getElem?_getD, List.getElem?_eq_getElem hj]
    rfl
end Go.Proofs.Ytaaahgkpicjnoaa
/-
  Limbs in memory: how they are handed back; what walks over them need.
  Conditions: those that each theorem names.
-/
set_option maxRecDepth 100000
set_option linter.unusedVariables false
set_option linter.unusedSimpArgs false
namespace Go.Proofs.Ytaaahgkpicjnoaa
open Go.ChangeShapes Go.WideShapes Go.ChangeAt Go.RowKit
theorem info_u32d : (Try.prog.info? 46).map (fun i => (i.zero, i.size, i.bytes)) = some (some (.int .u32 0), 1, 4) := by kernel_rfl
/-- What hands back limbs, and leaves memory. -/
def RetN (w : World) (zs : List Int) (e : Ending) (w' : World) : Prop := ∃ A c, e = .returned (.slice A zs.length c) ∧ zs.length ≤ c ∧ c ≤ maxLen ∧ Rd .u32 w' w'.heap.size A zs.length zs ∧ Below w.heap.size w w'
theorem ret_boolN {p q : Bool} (h : p = q) : Ending.returned (.bool p) = .returned (.bool q) := by rw [h]
theorem ret_slice {A : Option Addr} {n m c : Nat} (h : n = m) : Ending.returned (.slice A n c) = .returned (.slice A m c) := by rw [h]
theorem ret_sliceE {A : Option Addr} {n m c : Nat} {e : Int} (h : n = m) : Ending.returned (.tuple #[.slice A n c, .int .i64 e]) = .returned (.tuple #[.slice A m c, .int .i64 e]) := by rw [h]
theorem rd_two32 (w : World) (e : TypeId) (x y : Int) : Rd .u32 (w.alloc (.cells #[.int .u32 x, .int .u32 y] e)) (w.alloc (.cells #[.int .u32 x, .int .u32 y] e)).heap.size (some ⟨w.heap.size, 0, none⟩) 2 [x, y] := by
  refine ⟨rfl, fun _ => ⟨w.heap.size, 0, rfl, (Blk.new w e #[.int .u32 x, .int .u32 y]).lt, fun j hj => ?_⟩⟩
  have : j = 0 ∨ j = 1 := by omega
  rcases this with rfl | rfl
  · rw [(Blk.new w e #[.int .u32 x, .int .u32 y]).cell]; rfl
  · rw [(Blk.new w e #[.int .u32 x, .int .u32 y]).cell]; rfl
theorem rd_trim {w : World} {B n : Nat} {A : Option Addr} {zs : List Int} (h : Rd .u32 w B A n zs) : Rd .u32 w B A (trimL zs).length (trimL zs) := by
  have h1 := h.upto (j := (trimL zs).length) (by rw [← h.len]; exact trimL_len zs)
  rwa [← trimL_take] at h1
theorem rightN_big {l : List Int} (h : 256 < l.length) : rightN l = false := by unfold rightN; rw [decide_eq_false (by omega)]; rfl
theorem lastOk_at {l : List Int} {m : Nat} (h : l.length = m + 1) : lastOk l = (l.getD m 0 != 0) := by
  have e : l.getLast? = some (l.getD m 0) := by
    rw [List.getLast?_eq_getElem?, h, Nat.add_sub_cancel, List.getD_eq_getElem?_getD, List.getElem?_eq_getElem (by omega)]
    rfl
  unfold lastOk
  rw [e]
theorem rightN_at {l : List Int} {m : Nat} (h : l.length = m + 1) (hm : m + 1 ≤ 256) : rightN l = (l.getD m 0 != 0) := by
  unfold rightN
  rw [decide_eq_true (by omega), Bool.true_and, lastOk_at h]
theorem trimL_zero {l : List Int} {k : Nat} (h : k < l.length) (hz : l.getD k 0 = 0) : trimL (l.take k) = trimL (l.take (k + 1)) := by
  rw [List.take_add_one, List.getElem?_eq_getElem h]
  rw [List.getD_eq_getElem?_getD, List.getElem?_eq_getElem h] at hz
  have hz2 : l[k] = 0 := hz
  show _ = trimL (l.take k ++ [l[k]])
  rw [hz2, trimL_snoc_zero]
theorem trimL_stop {l : List Int} {k : Nat} (h : k < l.length) (hz : l.getD k 0 ≠ 0) : (trimL (l.take (k + 1))).length = k + 1 := by
  have hl : (l.take (k + 1)).length = k + 1 := by rw [List.length_take]; omega
  have e : (l.take (k + 1)).getD k 0 = l.getD k 0 := by
    rw [List.getD_eq_getElem?_getD, List.getD_eq_getElem?_getD, List.getElem?_take, if_pos (by omega)]
  have h1 : lastOk (l.take (k + 1)) = true := by
    rw [lastOk_at hl, e]
    simpa [bne] using hz
  rw [lastOk_can.1 h1, hl]
theorem carry_step (P p q r x y X Y : Nat) (h : p + 4294967296 * q = x + y + r) : P * p + P * 4294967296 * (q + X + Y) = P * (r + (x + 4294967296 * X) + (y + 4294967296 * Y)) := by
  rw [Nat.mul_assoc, ← Nat.mul_add]
  congr 1
  omega
/-- One step of a product, limb by limb. -/
theorem mul_step (P p q r o x y Y Vo Vn T : Nat) (h : p + 4294967296 * q = o + x * y + r) (hs : Vn + P * o = Vo + P * p) (hv : Vo + P * (r + x * (y + 4294967296 * Y)) = T) : Vn + P * 4294967296 * (q + x * Y) = T := by
  have h1 : P * (p + 4294967296 * q) = P * (o + x * y + r) := by rw [h]
  have h2 : P * (r + x * (y + 4294967296 * Y)) = P * r + P * (x * y) + P * (4294967296 * (x * Y)) := by
    rw [← Nat.mul_add, ← Nat.mul_add]
    congr 1
    rw [Nat.mul_add, Nat.mul_left_comm x 4294967296 Y]
    omega
  have h3 : P * 4294967296 * (q + x * Y) = P * (4294967296 * q) + P * (4294967296 * (x * Y)) := by rw [Nat.mul_assoc, ← Nat.mul_add, Nat.mul_add]
  rw [Nat.mul_add, Nat.mul_add, Nat.mul_add] at h1
  rw [h2] at hv
  rw [h3]
  generalize P * (4294967296 * (x * Y)) = a1 at *
  generalize P * (4294967296 * q) = a2 at *
  generalize P * (x * y) = a3 at *
  generalize P * p = a4 at *
  generalize P * o = a5 at *
  generalize P * r = a6 at *
  omega
/-- A number below a power of 2^32 has noughts from there on. -/
theorem limb_zero {l : List Int} (h : Lim l) {j : Nat} (hv : valL l < 4294967296 ^ j) : l.getD j 0 = 0 := by
  by_cases hj : j < l.length
  · have h1 := valL_take_drop l j (by omega)
    rw [valL_drop_getD l j] at h1
    have h2 := h.getD j
    have h3 : (l.getD j 0).toNat = 0 := by
      rcases Nat.eq_zero_or_pos (l.getD j 0).toNat with h4 | h4
      · exact h4
      · have h5 := Nat.le_mul_of_pos_right (4294967296 ^ j) (show 0 < (l.getD j 0).toNat + 4294967296 * valL (l.drop (j + 1)) by omega)
        omega
    omega
  · rw [List.getD_eq_getElem?_getD, List.getElem?_eq_none (by omega)]; rfl
theorem mul_bound {x y : Nat} (hx : x < 4294967296) (hy : y < 4294967296) : x * y ≤ 18446744065119617025 := Nat.mul_le_mul (show x ≤ 4294967295 by omega) (show y ≤ 4294967295 by omega)
theorem intsA_set32 (zs : List Int) (j : Nat) (z : Int) : (intsA .u32 zs).setIfInBounds j (.int .u32 z) = intsA .u32 (zs.set j z) := by simp [intsA, List.map_set]
theorem size_u32s : (Try.prog.info? 46).map (·.size) = some 1 := by kernel_rfl
/-- A row of limbs of the call's own, known whole. -/
def NatS (w : World) (g : Nat) (out : List Int) (w' : World) : Prop := Blk w' g 46 (intsA .u32 out) ∧ w.heap.size ≤ g ∧ Below w.heap.size w w'
theorem NatS.blk {w w' : World} {g : Nat} {out : List Int} (h : NatS w g out w') : Blk w' g 46 (intsA .u32 out) := h.1
theorem NatS.bel {w w' : World} {g : Nat} {out : List Int} (h : NatS w g out w') : Below w.heap.size w w' := h.2.2
theorem NatS.drew {w w' : World} {g : Nat} {out : List Int} (h : NatS w g out w') : NatS w g out w'.drew := ⟨h.1, h.2.1, h.2.2.trans ((Below.refl _ _).drew)⟩
theorem NatS.drewN {w w' : World} {g : Nat} {out : List Int} (h : NatS w g out w') (n : Nat) : NatS w g out (w'.drewN n) := ⟨h.1, h.2.1, below_drewN h.2.2 n⟩
theorem NatS.below {w w' w'' : World} {g : Nat} {out : List Int} (h : NatS w g out w') (hb : Below w'.heap.size w' w'') : NatS w g out w'' := ⟨h.1.below hb h.1.lt, h.2.1, h.2.2.trans (hb.mono h.2.2.size)⟩
theorem NatS.set {w w' w'' : World} {g j : Nat} {out : List Int} {z : Int} (h : NatS w g out w') (hk : Blk w'' g 46 ((intsA .u32 out).setIfInBounds j (.int .u32 z))) (ho : Only g w' w'') : NatS w g (out.set j z) w'' := ⟨by rw [← intsA_set32]; exact hk, h.2.1, h.2.2.trans (ho.below h.2.1 h.2.2.size)⟩
theorem NatS.rd {w w' : World} {g : Nat} {out : List Int} (h : NatS w g out w') : Rd .u32 w' w'.heap.size (some ⟨g, 0, none⟩) out.length out := ⟨rfl, fun _ => ⟨g, 0, rfl, h.1.lt, fun j hj => by rw [h.1.cell, Nat.zero_add, intsA_at _ _ _ hj]⟩⟩
theorem NatS.at_ {w w' : World} {g : Nat} {out : List Int} (h : NatS w g out w') {j : Nat} (hj : j < out.length) : w'.cell? ⟨g, j, none⟩ = some (.int .u32 (out.getD j 0)) := by rw [h.1.cell, intsA_at _ _ _ hj]
theorem nat_lt {out : List Int} {j : Nat} (hj : j < out.length) : j < (intsA .u32 out).size := by rw [intsA_size]; exact hj
end Go.Proofs.Ytaaahgkpicjnoaa
/-
  Rows of limbs in memory; sums, products and powers of many in plain Lean, refused where one on the way is too great.
  Conditions: those that each theorem names.
-/
set_option maxRecDepth 100000
set_option linter.unusedVariables false
set_option linter.unusedSimpArgs false
namespace Go.Proofs.Ytaaahgkpicjnoaa
open Go.ChangeShapes Go.WideShapes Go.ChangeAt Go.RowKit
structure NRow where
  A : Option Addr
  n : Nat
  c : Nat
  zs : List Int
def NRow.val (r : NRow) : Value := .slice r.A r.n r.c
/-- The slice (A, n, ..) has these rows of limbs. -/
def RdNs (w : World) (B : Nat) (A : Option Addr) (n : Nat) (rs : List NRow) : Prop :=
  rs.length = n ∧ (0 < n → ∃ b off, A = some ⟨b, off, none⟩ ∧ b < B ∧ ∀ (j : Nat) (r : NRow), rs[j]? = some r → w.cell? ⟨b, off + j, none⟩ = some r.val) ∧ ∀ r ∈ rs, Rd .u32 w B r.A r.n r.zs ∧ r.n ≤ r.c ∧ r.c ≤ maxLen ∧ Lim r.zs
theorem RdNs.below {w w' : World} {B n : Nat} {A : Option Addr} {rs : List NRow} (h : RdNs w B A n rs) (hb : Below B w w') : RdNs w' B A n rs :=
  ⟨h.1, fun hn => by
    obtain ⟨b, off, e, hlt, hc⟩ := h.2.1 hn
    exact ⟨b, off, e, hlt, fun j r hj => (hb.cell (p := ⟨b, off + j, none⟩) hlt).trans (hc j r hj)⟩, fun r hr => ⟨(h.2.2 r hr).1.below hb, (h.2.2 r hr).2⟩⟩
theorem RdNs.mono {w : World} {B B' n : Nat} {A : Option Addr} {rs : List NRow} (h : RdNs w B A n rs) (hB : B ≤ B') : RdNs w B' A n rs :=
  ⟨h.1, fun hn => by
    obtain ⟨b, off, e, hlt, hc⟩ := h.2.1 hn
    exact ⟨b, off, e, by omega, hc⟩, fun r hr => ⟨(h.2.2 r hr).1.mono hB, (h.2.2 r hr).2⟩⟩
theorem RdNs.to {w w' : World} {n : Nat} {A : Option Addr} {rs : List NRow} (h : RdNs w w.heap.size A n rs) (hb : Below w.heap.size w w') : RdNs w' w'.heap.size A n rs := (h.below hb).mono hb.size
theorem RdNs.row {w : World} {B n : Nat} {A : Option Addr} {rs : List NRow} (h : RdNs w B A n rs) {j : Nat} (hj : j < n) : ∃ r b off, rs[j]? = some r ∧ A = some ⟨b, off, none⟩ ∧ w.cell? ⟨b, off + j, none⟩ = some (.slice r.A r.n r.c) ∧ Rd .u32 w B r.A r.n r.zs ∧ r.n ≤ r.c ∧ r.c ≤ maxLen ∧ Lim r.zs ∧ rs.drop j = r :: rs.drop (j + 1) := by
  have hl : j < rs.length := by rw [h.1]; exact hj
  obtain ⟨b, off, e, _, hc⟩ := h.2.1 (by omega)
  have hr := h.2.2 _ (List.getElem_mem hl)
  exact ⟨rs[j], b, off, List.getElem?_eq_getElem hl, e, hc j _ (List.getElem?_eq_getElem hl), hr.1, hr.2.1, hr.2.2.1, hr.2.2.2, List.drop_eq_getElem_cons hl⟩
def allN (rs : List NRow) : Bool := rs.all fun r => rightN r.zs
def addGo : Nat → List NRow → Int × List Int
  | s, [] => (0, natL s)
  | s, r :: l => if 256 < (natL (s + valL r.zs)).length then (11, []) else addGo (s + valL r.zs) l
def mulGo : Nat → List NRow → Int × List Int
  | s, [] => (0, natL s)
  | s, r :: l => if 256 < (natL (s * valL r.zs)).length then (11, []) else mulGo (s * valL r.zs) l
def addR (rs : List NRow) : Int × List Int := if allN rs = true then addGo 0 rs else (1, [])
def mulR (rs : List NRow) : Int × List Int := if allN rs = true then mulGo 1 rs else (1, [])
theorem allN_zs {rs rs' : List NRow} (h : rs.map (·.zs) = rs'.map (·.zs)) : allN rs = allN rs' := by
  unfold allN
  have e : ∀ l : List NRow, (l.all fun r => rightN r.zs) = (l.map (·.zs)).all rightN := fun l => by rw [List.all_map]; rfl
  rw [e, e, h]
theorem addGo_zs {rs rs' : List NRow} (h : rs.map (·.zs) = rs'.map (·.zs)) (s : Nat) : addGo s rs = addGo s rs' := by
  induction rs generalizing rs' s with
  | nil => cases rs' with
    | nil => rfl
    | cons r l => cases h
  | cons r l ih => cases rs' with
    | nil => cases h
    | cons r' l' =>
      rw [List.map_cons, List.map_cons] at h
      injection h with h1 h2
      rw [addGo, addGo, h1, ih h2]
theorem mulGo_zs {rs rs' : List NRow} (h : rs.map (·.zs) = rs'.map (·.zs)) (s : Nat) : mulGo s rs = mulGo s rs' := by
  induction rs generalizing rs' s with
  | nil => cases rs' with
    | nil => rfl
    | cons r l => cases h
  | cons r l ih => cases rs' with
    | nil => cases h
    | cons r' l' =>
      rw [List.map_cons, List.map_cons] at h
      injection h with h1 h2
      rw [mulGo, mulGo, h1, ih h2]
theorem addR_zs {rs rs' : List NRow} (h : rs.map (·.zs) = rs'.map (·.zs)) : addR rs = addR rs' := by unfold addR; rw [allN_zs h, addGo_zs h]
theorem mulR_zs {rs rs' : List NRow} (h : rs.map (·.zs) = rs'.map (·.zs)) : mulR rs = mulR rs' := by unfold mulR; rw [allN_zs h, mulGo_zs h]
theorem rightN_len {l : List Int} (h : rightN l = true) : l.length ≤ 256 := by
  unfold rightN at h
  rw [Bool.and_eq_true] at h
  exact of_decide_eq_true h.1
theorem rightN_can {l : List Int} (hl : Lim l) (h : rightN l = true) : l = natL (valL l) := by
  unfold rightN at h
  rw [Bool.and_eq_true] at h
  exact can_eq hl h.2
theorem rightN_natL {n : Nat} (h : (natL n).length ≤ 256) : rightN (natL n) = true := by unfold rightN; rw [decide_eq_true h, natL_ok]; rfl
/-- What hands back an error and limbs, and leaves memory. -/
def RetNE (w : World) (r : Int × List Int) (e : Ending) (w' : World) : Prop := ∃ A c, e = .returned (.tuple #[.slice A r.2.length c, .int .i64 r.1]) ∧ r.2.length ≤ c ∧ c ≤ maxLen ∧ Rd .u32 w' w'.heap.size A r.2.length r.2 ∧ Below w.heap.size w w'
theorem RetNE.nil {w w' : World} (e : Int) (hb : Below w.heap.size w w') : RetNE w (e, []) (.returned (.tuple #[.slice none 0 0, .int .i64 e])) w' := ⟨none, 0, rfl, Nat.le_refl _, by simp [maxLen], Rd.none_, hb⟩
/-! ### powers of two -/
def twoR (k : Int) : Int × List Int := if 0 ≤ k ∧ k ≤ 8191 then (0, natL (2 ^ k.toNat)) else (1, [])
theorem two_limbs (k : Nat) : List.replicate (k / 32) 0 ++ [((2 ^ (k % 32) : Nat) : Int)] = natL (2 ^ k) := by
  have hp : 2 ^ (k % 32) ≤ 2 ^ 31 := Nat.pow_le_pow_right (by omega) (by omega)
  have hp0 : 0 < 2 ^ (k % 32) := Nat.pow_pos (by omega)
  have hl : Lim (List.replicate (k / 32) 0 ++ [((2 ^ (k % 32) : Nat) : Int)]) := (Lim.rep _).app (Lim.cons ⟨by omega, by omega⟩ Lim.nil)
  have hv : valL (List.replicate (k / 32) 0 ++ [((2 ^ (k % 32) : Nat) : Int)]) = 2 ^ k := by
    rw [valL_app, valL_rep, List.length_replicate, Nat.zero_add, show (4294967296 : Nat) = 2 ^ 32 from rfl, ← Nat.pow_mul]
    show 2 ^ (32 * (k / 32)) * (((2 ^ (k % 32) : Nat) : Int).toNat + 4294967296 * 0) = 2 ^ k
    rw [Nat.mul_zero, Nat.add_zero, Int.toNat_natCast, ← Nat.pow_add]
    congr 1
    omega
  have ho : lastOk (List.replicate (k / 32) 0 ++ [((2 ^ (k % 32) : Nat) : Int)]) = true := by
    unfold lastOk
    rw [List.getLast?_append]
    show (((2 ^ (k % 32) : Nat) : Int) != 0) = true
    rw [bne_iff_ne]
    omega
  rw [can_eq hl ho, hv]
def rowOf (zs : List Int) : NRow := ⟨none, 0, 0, zs⟩
def powR (zs : List Int) (k : Int) : Int × List Int := if rightN zs = true ∧ 0 ≤ k ∧ k ≤ 64 then mulR (List.replicate k.toNat (rowOf zs)) else (1, [])
theorem rep_set (q : Nat) (x : Int) : (List.replicate (q + 1) 0).set q x = List.replicate q 0 ++ [x] := by
  rw [List.replicate_succ', List.set_append_right _ _ (by simp)]
  simp
theorem allN_step {rs : List NRow} {r : NRow} {k : Nat} (h : rs.drop k = r :: rs.drop (k + 1)) : allN (rs.drop k) = (rightN r.zs && allN (rs.drop (k + 1))) := by rw [h]; rfl
theorem allN_mem {rs : List NRow} (h : allN rs = true) {r : NRow} (hr : r ∈ rs) : rightN r.zs = true := List.all_eq_true.1 h r hr
theorem addGo_step {rs : List NRow} {r : NRow} {k s : Nat} (h : rs.drop k = r :: rs.drop (k + 1)) : addGo s (rs.drop k) = if 256 < (natL (s + valL r.zs)).length then (11, []) else addGo (s + valL r.zs) (rs.drop (k + 1)) := by rw [h]; rfl
theorem mulGo_step {rs : List NRow} {r : NRow} {k s : Nat} (h : rs.drop k = r :: rs.drop (k + 1)) : mulGo s (rs.drop k) = if 256 < (natL (s * valL r.zs)).length then (11, []) else mulGo (s * valL r.zs) (rs.drop (k + 1)) := by rw [h]; rfl
theorem drop_end {rs : List NRow} {n : Nat} (h : rs.length = n) : rs.drop n = [] := List.drop_eq_nil_of_le (by omega)
theorem natL_one : natL 1 = [1] := by rw [natL_pos (by omega)]; show [((1 % 4294967296 : Nat) : Int)] ++ natL (1 / 4294967296) = [1]; rw [show 1 / 4294967296 = 0 from rfl, natL_zero]; rfl
/-- A value appended to a row of the call's own. -/
theorem wpList_append_val {P : Program} {w : World} {ops : Array Oper} {rest : List Oper} {o : Oper} {a : Act} {Q : Exit → Act → World → Prop} (hgd : o.guard = none) (s x : Operand) (t : TypeId)
    (ho : o.op = .call { callee := .builtin .append, args := #[s, x], argTypes := #[t, t] })
    (base : Nat) (e : TypeId) (i : TypeInfo) (z : Value) (bytes : Nat) (ht : P.underlying t = some (.slice e)) (hi : P.info? e = some i) (hz : i.zero = some z)
    (hsize : i.size = 1) (hby : i.bytes = bytes) (hzs : z.cells.size = 1) (v : Value) (n : Nat) (xs : List Value) (hs : a.eval s = v) (hown : w.ownsRow base e 1 v n xs)
    (g : Nat) (u : Value) (hx : a.eval x = .slice (some ⟨g, 0, none⟩) 1 1) (hc : w.cell? ⟨g, 0, none⟩ = some u) (hu : u.oneCell' = true)
    (h63 : n + 1 ≤ maxLen) (hbytes : (n + 1) * bytes ≤ 140737488355328) (hbase : base ≤ w.heap.size)
    (h : ∀ v' w', w'.ownsRow base e 1 v' (n + 1) (xs ++ [u]) → w.grownBy w' v.ownBlock → wpList P ops Q rest (a.put o.dst v') w') : wpList P ops Q (o :: rest) a w := by
  obtain ⟨v', w', hrun, h2, h3, _, h5⟩ := run_append_own_at (P := P) w base t o.type e i z 1 bytes ht hi hz hsize hby hzs (by omega) v n xs hown ⟨g, 0, none⟩ 1 1 [u] (by simp)
    (fun j q hj => by
      rcases j with _ | j
      · have : q = u := by simpa using hj.symm
        subst this
        simpa [Addr.add] using hc
      · simp at hj) (fun q hq => by rw [List.mem_singleton.1 hq]; exact hu) h63 hbytes hbase
  refine wpList_plain hgd fun K hK => ?_
  unfold Oper.wp execOp
  simp only [ho, resolve, invoke, builtin, Sem.run_bind, Sem.run_pure, Result.andThen_ok, List.map_toArray, List.map_cons, List.map_nil, hs, hx, hrun]
  exact hK _ _ (h v' w' h2 h3)
theorem ownV_below {w w' w0 : World} {base n : Nat} {e : TypeId} {v : Value} {xs : List Value} (h : w.ownsRow base e 1 v n xs) (hb : Below base w0 w) (hbase : base ≤ w.heap.size) (hg : w.grownBy w' v.ownBlock) : Below base w0 w' :=
  hb.grown hg hbase (fun g hk => by
    rcases h.2 with ⟨rfl, _⟩ | ⟨g', cap, cur, rfl, h1, _⟩
    · cases hk
    · have h2 : some g' = some g := hk
      injection h2 with h2
      omega)
theorem ownV_nil (w : World) (base : Nat) (e : TypeId) : w.ownsRow base e 1 (.slice none 0 0) 0 [] := ⟨rfl, .inl ⟨rfl, rfl⟩⟩
theorem info_nat : (Try.prog.info? 25).map (fun i => (i.zero, i.size, i.bytes)) = some (some (.slice none 0 0), 1, 24) := by kernel_rfl
/-- A row of the call's own, of slices of limbs, read. -/
theorem rdNs_own {w : World} {base n : Nat} {e : TypeId} {v : Value} {rs : List NRow} (h : w.ownsRow base e 1 v n (rs.map NRow.val)) (hn : rs.length = n) (hr : ∀ r ∈ rs, Rd .u32 w w.heap.size r.A r.n r.zs ∧ r.n ≤ r.c ∧ r.c ≤ maxLen ∧ Lim r.zs) : ∃ A c, v = .slice A n c ∧ n ≤ c ∧ c ≤ maxLen ∧ RdNs w w.heap.size A n rs := by
  rcases h.2 with ⟨rfl, h0⟩ | ⟨g, cap, cur, rfl, _, hk, h1, h2, h3, h4⟩
  · have : n = 0 := by omega
    subst this
    exact ⟨none, 0, rfl, Nat.le_refl _, by simp [maxLen], hn, fun h => absurd h (by omega), hr⟩
  · refine ⟨some ⟨g, 0, none⟩, cap, rfl, h1, h2, hn, fun hpos => ⟨g, 0, rfl, Blk.lt hk, fun j r hj => ?_⟩, hr⟩
    have hjl : j < rs.length := by
      rcases Nat.lt_or_ge j rs.length with h5 | h5
      · exact h5
      · rw [List.getElem?_eq_none h5] at hj; cases hj
    rw [Nat.mul_one] at h4
    have h6 : (cur.toList.take n)[j]? = (rs.map NRow.val)[j]? := by rw [h4]
    rw [List.getElem?_take, if_pos (by omega), List.getElem?_map, hj] at h6
    rw [Nat.zero_add]
    have h7 : w.cell? ⟨g, j, none⟩ = cur[j]? := Blk.cell hk j
    rw [h7, ← Array.getElem?_toList, h6]
    rfl
theorem pow_two_le {i : Nat} (h : i ≤ 31) : 2 ^ i ≤ 2147483648 := Nat.pow_le_pow_right (n := 2) (by omega) h
theorem powR_zs {zs : List Int} {k : Nat} {rs : List NRow} (hr : rightN zs = true) (hk : k ≤ 64) (h : rs.map (·.zs) = List.replicate k zs) : mulR rs = powR zs (k : Int) := by
  unfold powR
  rw [if_pos ⟨hr, by omega, by omega⟩, Int.toNat_natCast]
  exact mulR_zs (by rw [h, List.map_replicate]; rfl)
theorem ext_getDN {l m : List Int} (h : l.length = m.length) (h2 : ∀ j, j < l.length → l.getD j 0 = m.getD j 0) : l = m := by
  apply List.ext_getElem h
  intro j h3 h4
  have h5 := h2 j h3
  simpa [List.getD_eq_getElem?_getD, List.getElem?_eq_getElem h3, List.getElem?_eq_getElem h4] using h5
end Go.Proofs.Ytaaahgkpicjnoaa
/-
  Natural numbers compared, subtracted and divided limb by limb, and as decimal digits, in plain Lean.
  Conditions: those that each theorem names.
-/
set_option maxRecDepth 100000
set_option linter.unusedVariables false
set_option linter.unusedSimpArgs false
namespace Go.Proofs.Ytaaahgkpicjnoaa
def cmpR (xs ys : List Int) : Int := if (rightN xs && rightN ys) = true then (if valL xs < valL ys then -1 else if valL ys < valL xs then 1 else 0) else 0
def subR (xs ys : List Int) : Int × List Int := if (rightN xs && rightN ys) = true then (if valL xs < valL ys then (12, []) else (0, natL (valL xs - valL ys))) else (1, [])
def divE (xs : List Int) (d : Int) : Int := if rightN xs = true ∧ 1 ≤ d ∧ d < 9223372036854775808 then 0 else 1
def divV (xs : List Int) (d : Int) : Nat := if rightN xs = true ∧ 1 ≤ d ∧ d < 9223372036854775808 then valL xs / d.toNat else 0
def divL (xs : List Int) (d : Int) : Nat := if rightN xs = true ∧ 1 ≤ d ∧ d < 9223372036854775808 then valL xs % d.toNat else 0
theorem valL_split (l : List Int) (i : Nat) (h : i ≤ l.length) : valL l = valL (l.take i) + 4294967296 ^ i * ((l.getD i 0).toNat + 4294967296 * valL (l.drop (i + 1))) := by rw [valL_take_drop l i h, valL_drop_getD]
theorem take_lt {l : List Int} (hl : Lim l) (i : Nat) : valL (l.take i) < 4294967296 ^ i := by
  refine Nat.lt_of_lt_of_le (valL_lt (hl.take i)) (Nat.pow_le_pow_right (by omega) ?_)
  rw [List.length_take]
  omega
/-- The higher limbs are the same, the next one is less. -/
theorem cmp_less {xs ys : List Int} (hx : Lim xs) (hy : Lim ys) {i : Nat} (hi : i < xs.length) (hj : i < ys.length) (hd : xs.drop (i + 1) = ys.drop (i + 1)) (h : xs.getD i 0 < ys.getD i 0) : valL xs < valL ys := by
  rw [valL_split xs i (by omega), valL_split ys i (by omega), hd]
  have h1 := take_lt hx i
  have h2 := hx.getD i
  have h3 := hy.getD i
  generalize valL (xs.take i) = a at *
  generalize valL (ys.take i) = b at *
  generalize 4294967296 ^ i = P at *
  generalize valL (ys.drop (i + 1)) = D at *
  have h4 : P * ((xs.getD i 0).toNat + 1 + 4294967296 * D) ≤ P * ((ys.getD i 0).toNat + 4294967296 * D) := Nat.mul_le_mul_left P (by omega)
  have h5 : P * ((xs.getD i 0).toNat + 1 + 4294967296 * D) = P * ((xs.getD i 0).toNat + 4294967296 * D) + P := by rw [show (xs.getD i 0).toNat + 1 + 4294967296 * D = (xs.getD i 0).toNat + 4294967296 * D + 1 by omega, Nat.mul_add, Nat.mul_one]
  omega
theorem len_less {xs ys : List Int} (hx : Lim xs) (hy : Lim ys) (hr : rightN ys = true) (h : xs.length < ys.length) : valL xs < valL ys := by
  have h1 := valL_lt hx
  have h2 := rightN_can hy hr
  have h3 : ¬ (natL (valL ys)).length ≤ xs.length := by rw [← h2]; omega
  rw [natL_len] at h3
  omega
theorem getD_end {l : List Int} {i : Nat} (h : l.length ≤ i) : l.getD i 0 = 0 := by rw [List.getD_eq_getElem?_getD, List.getElem?_eq_none h]; rfl
theorem valL_take_next (l : List Int) (k : Nat) : valL (l.take (k + 1)) = valL (l.take k) + 4294967296 ^ k * (l.getD k 0).toNat := by
  rcases Nat.lt_or_ge k l.length with h | h
  · exact valL_take_succ l k h
  · rw [getD_end h, List.take_of_length_le (by omega), List.take_of_length_le h]
    show valL l = valL l + _ * 0
    omega
/-- One step of a difference. -/
theorem sub_step (P dg y bo x bn Vo Y X : Nat) (h : dg + y + bo = x + 4294967296 * bn) (hv : Vo + Y = X + P * bo) : Vo + P * dg + (Y + P * y) = X + P * x + P * 4294967296 * bn := by
  have h1 : P * (dg + y + bo) = P * (x + 4294967296 * bn) := by rw [h]
  rw [Nat.mul_add, Nat.mul_add, Nat.mul_add, ← Nat.mul_assoc] at h1
  omega
/-- Behind the last limb nothing is borrowed. -/
theorem sub_end {Vo a b P bo : Nat} (hb : bo ≤ 1) (h : Vo + b = a + P * bo) (hv : Vo < P) (hab : b ≤ a) : Vo = a - b := by
  have : bo = 0 ∨ bo = 1 := by omega
  rcases this with rfl | rfl
  · omega
  · rw [Nat.mul_one] at h; omega
/-! ### division, bit by bit -/
/-- One bit of a division. -/
theorem div_step {Q0 oq d left X0 K x t : Nat} (h : (Q0 * K + oq) * d + left = X0 * K + x / 2 ^ (t + 1)) (c oq' left' : Nat) (hc : (2 * left + x / 2 ^ t % 2) = c) (ho : (oq' = 2 * oq ∧ left' = c) ∨ (oq' = 2 * oq + 1 ∧ left' + d = c)) : (Q0 * (2 * K) + oq') * d + left' = X0 * (2 * K) + x / 2 ^ t := by
  have h1 : x / 2 ^ (t + 1) = x / 2 ^ t / 2 := by rw [Nat.pow_succ, Nat.div_div_eq_div_mul]
  rw [h1] at h
  have h2 : Q0 * (2 * K) = 2 * (Q0 * K) := Nat.mul_left_comm _ _ _
  have h3 : X0 * (2 * K) = 2 * (X0 * K) := Nat.mul_left_comm _ _ _
  rw [h2, h3]
  generalize x / 2 ^ t = z at *
  generalize Q0 * K = q at *
  generalize X0 * K = y at *
  have h4 : (2 * q + 2 * oq) * d = 2 * ((q + oq) * d) := by rw [← Nat.mul_add, Nat.mul_assoc]
  rcases ho with ⟨rfl, rfl⟩ | ⟨rfl, h5⟩
  · rw [h4]; omega
  · rw [← Nat.add_assoc, Nat.add_mul, h4]; omega
theorem div_end {q d left v : Nat} (h : q * d + left = v) (hl : left < d) : q = v / d ∧ left = v % d := by
  subst h
  constructor
  · rw [Nat.mul_comm, Nat.mul_add_div (by omega), Nat.div_eq_of_lt hl, Nat.add_zero]
  · rw [Nat.mul_comm, Nat.mul_add_mod, Nat.mod_eq_of_lt hl]
/-! ### decimal digits -/
def decL (n : Nat) : List Int := if h : n < 10 then [48 + (n : Int)] else decL (n / 10) ++ [48 + ((n % 10 : Nat) : Int)]
  termination_by n
  decreasing_by exact Nat.div_lt_self (by omega) (by omega)
theorem decL_small {n : Nat} (h : n < 10) : decL n = [48 + (n : Int)] := by rw [decL, dif_pos h]
theorem decL_big {n : Nat} (h : ¬ n < 10) : decL n = decL (n / 10) ++ [48 + ((n % 10 : Nat) : Int)] := by rw [decL, dif_neg h]
def textR (xs : List Int) : List Int := if rightN xs = true then decL (valL xs) else []
/-! ### what the walk of a division needs -/
open Go.ChangeShapes Go.WideShapes Go.ChangeAt Go.RowKit
def RetND (w : World) (zs : List Int) (left : Nat) (err : Int) (e : Ending) (w' : World) : Prop := ∃ A c, e = .returned (.tuple #[.slice A zs.length c, .int .u64 (left : Int), .int .i64 err]) ∧ zs.length ≤ c ∧ c ≤ maxLen ∧ Rd .u32 w' w'.heap.size A zs.length zs ∧ Below w.heap.size w w'
theorem RetND.nil {w w' : World} (e : Int) (hb : Below w.heap.size w w') : RetND w [] 0 e (.returned (.tuple #[.slice none 0 0, .int .u64 0, .int .i64 e])) w' := ⟨none, 0, rfl, Nat.le_refl _, by simp [maxLen], Rd.none_, hb⟩
theorem set_drop (l : List Int) (m : Nat) (v : Int) : (l.set m v).drop (m + 1) = l.drop (m + 1) := List.drop_set_of_lt (by omega)
theorem set_getD {l : List Int} {m : Nat} (v : Int) (h : m < l.length) : (l.set m v).getD m 0 = v := by rw [List.getD_eq_getElem?_getD, List.getElem?_set_self h]; rfl
theorem set_other {l : List Int} {m t : Nat} (v : Int) (h : m ≠ t) : (l.set m v).getD t 0 = l.getD t 0 := by rw [List.getD_eq_getElem?_getD, List.getElem?_set_ne h, ← List.getD_eq_getElem?_getD]
theorem set_self0 {l : List Int} {m : Nat} (h : l.getD m 0 = 0) : l.set m 0 = l := by
  rcases Nat.lt_or_ge m l.length with hm | hm
  · rw [List.getD_eq_getElem?_getD, List.getElem?_eq_getElem hm] at h
    have h2 : l[m] = 0 := h
    apply List.ext_getElem
    · rw [List.length_set]
    · intro i h3 h4
      rw [List.getElem_set]
      split
      · rename_i h5; subst h5; rw [h2]
      · rfl
  · exact List.set_eq_of_length_le hm
theorem set_set (l : List Int) (m : Nat) (u v : Int) : (l.set m u).set m v = l.set m v := List.set_set u
theorem pow_split {u : Nat} (h : u ≤ 32) : 2 ^ (32 - u) * 2 ^ u = 4294967296 := by rw [← Nat.pow_add, show 32 - u + u = 32 by omega]
/-- The bits that are still to come, when u of them are left. -/
def DivI (Q0 X0 x d u oq left : Nat) : Prop := u ≤ 32 ∧ left < d ∧ oq < 2 ^ (32 - u) ∧ (Q0 * 2 ^ (32 - u) + oq) * d + left = X0 * 2 ^ (32 - u) + x / 2 ^ u
theorem DivI.start {Q0 X0 x d left : Nat} (hx : x < 4294967296) (hl : left < d) (h : Q0 * d + left = X0) : DivI Q0 X0 x d 32 0 left := by
  refine ⟨Nat.le_refl _, hl, Nat.one_pos, ?_⟩
  rw [Nat.sub_self, Nat.pow_zero, Nat.mul_one, Nat.mul_one, Nat.add_zero, show 2 ^ 32 = 4294967296 from rfl, Nat.div_eq_of_lt hx, Nat.add_zero]
  exact h
theorem DivI.next {Q0 X0 x d t oq left : Nat} (h : DivI Q0 X0 x d (t + 1) oq left) : ∃ c, 2 * left + x / 2 ^ t % 2 = c ∧ (c < d → DivI Q0 X0 x d t (2 * oq) c) ∧ (¬ c < d → DivI Q0 X0 x d t (2 * oq + 1) (c - d)) ∧ c < 2 * d ∧ (2 * oq + 1) * 2 ^ t ≤ 4294967295 := by
  obtain ⟨h1, h2, h3, h4⟩ := h
  have e : 2 ^ (32 - t) = 2 * 2 ^ (32 - (t + 1)) := by rw [show 32 - t = 32 - (t + 1) + 1 by omega, Nat.pow_succ, Nat.mul_comm]
  refine ⟨_, rfl, fun hc => ⟨by omega, hc, by omega, ?_⟩, fun hc => ⟨by omega, by omega, by omega, ?_⟩, by omega, ?_⟩
  · rw [e]
    exact div_step h4 _ _ _ rfl (.inl ⟨rfl, rfl⟩)
  · rw [e]
    exact div_step h4 _ _ _ rfl (.inr ⟨rfl, by omega⟩)
  · have h5 : (2 * oq + 1 + 1) * 2 ^ t ≤ 2 ^ (32 - t) * 2 ^ t := Nat.mul_le_mul_right _ (by omega)
    rw [pow_split (by omega), Nat.add_mul] at h5
    have h6 : 0 < 2 ^ t := Nat.pow_pos (by omega)
    omega
theorem DivI.done {Q0 X0 x d oq left : Nat} (h : DivI Q0 X0 x d 0 oq left) : (oq + 4294967296 * Q0) * d + left = x + 4294967296 * X0 ∧ left < d ∧ oq < 4294967296 := by
  obtain ⟨_, h2, h3, h4⟩ := h
  rw [show 2 ^ (32 - 0) = 4294967296 from rfl] at h3 h4
  rw [Nat.pow_zero, Nat.div_one, Nat.add_comm (Q0 * 4294967296) oq, Nat.mul_comm Q0, Nat.mul_comm X0] at h4
  exact ⟨by omega, h2, h3⟩
theorem twice_pow (oq t : Nat) : oq * 2 ^ (t + 1) = 2 * oq * 2 ^ t := by rw [Nat.pow_succ, Nat.mul_comm (2 ^ t) 2, ← Nat.mul_assoc, Nat.mul_comm oq 2]
theorem twice_pow1 (oq t : Nat) : oq * 2 ^ (t + 1) + 2 ^ t = (2 * oq + 1) * 2 ^ t := by rw [twice_pow, Nat.add_mul, Nat.one_mul]
theorem half_pow (t : Nat) : 2 ^ (t + 1) / 2 = 2 ^ t := by rw [Nat.pow_succ]; omega
theorem decL_len (k : Nat) : ∀ n, n < 2 ^ (k + 1) → (decL n).length ≤ k + 1 := by
  induction k using Nat.strongRecOn with
  | ind k ih =>
    intro n hn
    by_cases h : n < 10
    · rw [decL_small h]; simp
    · rw [decL_big h, List.length_append, List.length_singleton]
      rcases k with _ | j
      · rw [show 2 ^ (0 + 1) = 2 from rfl] at hn; omega
      · have h2 := ih j (by omega) (n / 10) (by rw [Nat.pow_succ] at hn; omega)
        omega
theorem decL_limbs (k n : Nat) (h : n < 4294967296 ^ k) : (decL n).length ≤ 32 * k + 1 := by
  refine decL_len (32 * k) n ?_
  rw [show (4294967296 : Nat) = 2 ^ 32 from rfl, ← Nat.pow_mul] at h
  exact Nat.lt_of_lt_of_le h (Nat.pow_le_pow_right (by omega) (by omega))
theorem textR_len {xs : List Int} (hx : Lim xs) (hr : rightN xs = true) : (decL (valL xs)).length ≤ 8193 := by
  have h1 := rightN_can hx hr
  have h2 := rightN_len hr
  rw [h1, natL_len] at h2
  have h3 := decL_limbs 256 _ h2
  omega
/-! ### digits as a string -/
theorem strB_app (a b : List Int) : strB (a ++ b) = strB a ++ strB b := by
  apply ByteArray.ext
  apply Array.ext'
  rw [strB_list, ByteArray.data_append, Array.toList_append, strB_list, strB_list, List.map_append]
theorem strB_cons (x : Int) (l : List Int) : strB [x] ++ strB l = strB (x :: l) := (strB_app [x] l).symm
theorem strB_size (l : List Int) : (strB l).size = l.length := by
  show (strB l).data.size = l.length
  rw [← Array.length_toList, strB_list, List.length_map]
theorem ret_str {a b : ByteArray} (h : a = b) : Ending.returned (.string a) = .returned (.string b) := by rw [h]
def sizeOfS (v : Value) : Nat := match v with | .string b => b.size | _ => 0
theorem natL_len10 (n : Nat) (h : (natL n).length ≤ 256) : (natL (n / 10)).length ≤ 256 := by
  rw [natL_len] at h ⊢
  exact Nat.lt_of_le_of_lt (Nat.div_le_self _ _) h
theorem natL_len0 {n : Nat} : (natL n).length = 0 ↔ n = 0 := ⟨fun h => natL_nil (List.eq_nil_of_length_eq_zero h), fun h => by subst h; rw [natL_zero]; rfl⟩
theorem div10 (n : Nat) (h : (natL n).length ≤ 256) : divV (natL n) 10 = n / 10 ∧ divL (natL n) 10 = n % 10 ∧ divE (natL n) 10 = 0 := by
  have hr := rightN_natL h
  refine ⟨?_, ?_, ?_⟩
  · unfold divV; rw [if_pos ⟨hr, by omega, by omega⟩, natL_val]; rfl
  · unfold divL; rw [if_pos ⟨hr, by omega, by omega⟩, natL_val]; rfl
  · unfold divE; rw [if_pos ⟨hr, by omega, by omega⟩]
end Go.Proofs.Ytaaahgkpicjnoaa
/-
  What stage 10's laws share: limbs in memory as one list of facts, rows of two and three numbers, numbers reckoned out.
  Conditions: those that each theorem names.
-/
set_option maxRecDepth 100000
set_option linter.unusedVariables false
set_option linter.unusedSimpArgs false
namespace Go.Proofs.Ytaaahgkpicjnoaa
open Go.ChangeShapes Go.WideShapes Go.ChangeAt Go.RowKit
def NFx (w0 : World) : List (Option Addr × List Int) → World → Prop
  | [], w => Below w0.heap.size w0 w
  | p :: l, w => Rd .u32 w w.heap.size p.1 p.2.length p.2 ∧ NFx w0 l w
theorem NFx.bel {w0 w : World} : ∀ {l : List (Option Addr × List Int)}, NFx w0 l w → Below w0.heap.size w0 w
  | [], h => h
  | _ :: _, h => NFx.bel h.2
theorem NFx.below {w0 w w' : World} : ∀ {l : List (Option Addr × List Int)}, NFx w0 l w → Below w.heap.size w w' → NFx w0 l w'
  | [], h, hb => Below.trans h (hb.mono (Below.size h))
  | _ :: _, h, hb => ⟨(Rd.below h.1 hb).mono hb.size, NFx.below h.2 hb⟩
theorem NFx.alloc {w0 w : World} {l : List (Option Addr × List Int)} (h : NFx w0 l w) (o : Obj) : NFx w0 l (w.alloc o) := h.below ((Below.refl _ _).alloc (Nat.le_refl _) o)
theorem NFx.drew {w0 w : World} {l : List (Option Addr × List Int)} (h : NFx w0 l w) : NFx w0 l w.drew := h.below (Below.refl _ _).drew
theorem NFx.drewN {w0 w : World} {l : List (Option Addr × List Int)} (h : NFx w0 l w) (n : Nat) : NFx w0 l (w.drewN n) := h.below (below_drewN (Below.refl _ _) n)
theorem NFx.add {w0 w w' : World} {l : List (Option Addr × List Int)} {A : Option Addr} {zs : List Int} (h : NFx w0 l w) (hb : Below w.heap.size w w') (hr : Rd .u32 w' w'.heap.size A zs.length zs) : NFx w0 ((A, zs) :: l) w' := ⟨hr, h.below hb⟩
theorem NFx.start (w : World) : NFx w [] w := Below.refl _ _
theorem NFx.more {w0 w : World} {l : List (Option Addr × List Int)} {A : Option Addr} {zs : List Int} (h : NFx w0 l w) (hr : Rd .u32 w w.heap.size A zs.length zs) : NFx w0 ((A, zs) :: l) w := ⟨hr, h⟩
section
variable {w0 w : World} {l : List (Option Addr × List Int)} {A : Option Addr} {zs : List Int} {f0 f1 f2 f3 f4 f5 f6 f7 f8 f9 f10 f11 f12 f13 f14 f15 : Option Addr × List Int}
theorem NFx.r0 (h : NFx w0 ((A, zs) :: l) w) : Rd .u32 w w.heap.size A zs.length zs := h.1
theorem NFx.r1 (h : NFx w0 (f0 :: (A, zs) :: l) w) : Rd .u32 w w.heap.size A zs.length zs := h.2.1
theorem NFx.r2 (h : NFx w0 (f0 :: f1 :: (A, zs) :: l) w) : Rd .u32 w w.heap.size A zs.length zs := h.2.2.1
theorem NFx.r3 (h : NFx w0 (f0 :: f1 :: f2 :: (A, zs) :: l) w) : Rd .u32 w w.heap.size A zs.length zs := h.2.2.2.1
theorem NFx.r4 (h : NFx w0 (f0 :: f1 :: f2 :: f3 :: (A, zs) :: l) w) : Rd .u32 w w.heap.size A zs.length zs := h.2.2.2.2.1
theorem NFx.r5 (h : NFx w0 (f0 :: f1 :: f2 :: f3 :: f4 :: (A, zs) :: l) w) : Rd .u32 w w.heap.size A zs.length zs := h.2.2.2.2.2.1
theorem NFx.r6 (h : NFx w0 (f0 :: f1 :: f2 :: f3 :: f4 :: f5 :: (A, zs) :: l) w) : Rd .u32 w w.heap.size A zs.length zs := h.2.2.2.2.2.2.1
theorem NFx.r7 (h : NFx w0 (f0 :: f1 :: f2 :: f3 :: f4 :: f5 :: f6 :: (A, zs) :: l) w) : Rd .u32 w w.heap.size A zs.length zs := h.2.2.2.2.2.2.2.1
theorem NFx.r8 (h : NFx w0 (f0 :: f1 :: f2 :: f3 :: f4 :: f5 :: f6 :: f7 :: (A, zs) :: l) w) : Rd .u32 w w.heap.size A zs.length zs := h.2.2.2.2.2.2.2.2.1
theorem NFx.r9 (h : NFx w0 (f0 :: f1 :: f2 :: f3 :: f4 :: f5 :: f6 :: f7 :: f8 :: (A, zs) :: l) w) : Rd .u32 w w.heap.size A zs.length zs := h.2.2.2.2.2.2.2.2.2.1
theorem NFx.r10 (h : NFx w0 (f0 :: f1 :: f2 :: f3 :: f4 :: f5 :: f6 :: f7 :: f8 :: f9 :: (A, zs) :: l) w) : Rd .u32 w w.heap.size A zs.length zs := h.2.2.2.2.2.2.2.2.2.2.1
theorem NFx.r11 (h : NFx w0 (f0 :: f1 :: f2 :: f3 :: f4 :: f5 :: f6 :: f7 :: f8 :: f9 :: f10 :: (A, zs) :: l) w) : Rd .u32 w w.heap.size A zs.length zs := h.2.2.2.2.2.2.2.2.2.2.2.1
theorem NFx.r12 (h : NFx w0 (f0 :: f1 :: f2 :: f3 :: f4 :: f5 :: f6 :: f7 :: f8 :: f9 :: f10 :: f11 :: (A, zs) :: l) w) : Rd .u32 w w.heap.size A zs.length zs := h.2.2.2.2.2.2.2.2.2.2.2.2.1
theorem NFx.r13 (h : NFx w0 (f0 :: f1 :: f2 :: f3 :: f4 :: f5 :: f6 :: f7 :: f8 :: f9 :: f10 :: f11 :: f12 :: (A, zs) :: l) w) : Rd .u32 w w.heap.size A zs.length zs := h.2.2.2.2.2.2.2.2.2.2.2.2.2.1
theorem NFx.r14 (h : NFx w0 (f0 :: f1 :: f2 :: f3 :: f4 :: f5 :: f6 :: f7 :: f8 :: f9 :: f10 :: f11 :: f12 :: f13 :: (A, zs) :: l) w) : Rd .u32 w w.heap.size A zs.length zs := h.2.2.2.2.2.2.2.2.2.2.2.2.2.2.1
theorem NFx.r15 (h : NFx w0 (f0 :: f1 :: f2 :: f3 :: f4 :: f5 :: f6 :: f7 :: f8 :: f9 :: f10 :: f11 :: f12 :: f13 :: f14 :: (A, zs) :: l) w) : Rd .u32 w w.heap.size A zs.length zs := h.2.2.2.2.2.2.2.2.2.2.2.2.2.2.2.1
end
theorem Rd.len_eq {w : World} {B n : Nat} {A : Option Addr} {zs : List Int} (h : Rd .u32 w B A n zs) : n = zs.length := h.len.symm
def rowN (A : Option Addr) (zs : List Int) (c : Nat) : NRow := ⟨A, zs.length, c, zs⟩
def RowOk (w : World) (A : Option Addr) (zs : List Int) (c : Nat) : Prop := Rd .u32 w w.heap.size A zs.length zs ∧ zs.length ≤ c ∧ c ≤ maxLen ∧ Lim zs
theorem rdNs_of {w : World} {rs : List NRow} (hr : ∀ r ∈ rs, Rd .u32 w w.heap.size r.A r.n r.zs ∧ r.n ≤ r.c ∧ r.c ≤ maxLen ∧ Lim r.zs) : RdNs (w.alloc (.cells (rs.map NRow.val).toArray 25)) (w.alloc (.cells (rs.map NRow.val).toArray 25)).heap.size (some ⟨w.heap.size, 0, none⟩) rs.length rs := by
  have hb : Below w.heap.size w (w.alloc (.cells (rs.map NRow.val).toArray 25)) := (Below.refl _ _).alloc (Nat.le_refl _) _
  refine ⟨rfl, fun _ => ⟨w.heap.size, 0, rfl, (Blk.new w _ _).lt, fun j r hj => ?_⟩, fun r h => ⟨((hr r h).1.below hb).mono hb.size, (hr r h).2⟩⟩
  rw [Nat.zero_add, (Blk.new w 25 (rs.map NRow.val).toArray).cell, List.getElem?_toArray, List.getElem?_map, hj]
  rfl
theorem rdNs_one {w : World} {A : Option Addr} {a : List Int} {c : Nat} (ha : Rd .u32 w w.heap.size A a.length a) (hc : a.length ≤ c) (hm : c ≤ maxLen) (hl : Lim a) : RdNs (w.alloc (.cells #[.slice A a.length c] 25)) (w.alloc (.cells #[.slice A a.length c] 25)).heap.size (some ⟨w.heap.size, 0, none⟩) 1 [rowN A a c] :=
  rdNs_of (rs := [rowN A a c]) (fun r h => by
    obtain rfl := List.mem_singleton.1 h
    exact ⟨ha, hc, hm, hl⟩)
theorem rdNs_two {w : World} {A B : Option Addr} {a b : List Int} {c d : Nat} (ha : Rd .u32 w w.heap.size A a.length a) (hb : Rd .u32 w w.heap.size B b.length b) (hc : a.length ≤ c) (hd : b.length ≤ d) (hm : c ≤ maxLen) (hm2 : d ≤ maxLen) (hl : Lim a) (hl2 : Lim b) : RdNs (w.alloc (.cells #[.slice A a.length c, .slice B b.length d] 25)) (w.alloc (.cells #[.slice A a.length c, .slice B b.length d] 25)).heap.size (some ⟨w.heap.size, 0, none⟩) 2 [rowN A a c, rowN B b d] :=
  rdNs_of (rs := [rowN A a c, rowN B b d]) (fun r h => by
    rcases List.mem_cons.1 h with rfl | h
    · exact ⟨ha, hc, hm, hl⟩
    · obtain rfl := List.mem_singleton.1 h
      exact ⟨hb, hd, hm2, hl2⟩)
theorem rdNs_three {w : World} {A B C : Option Addr} {a b x : List Int} {c d e : Nat} (ha : Rd .u32 w w.heap.size A a.length a) (hb : Rd .u32 w w.heap.size B b.length b) (hx : Rd .u32 w w.heap.size C x.length x) (hc : a.length ≤ c) (hd : b.length ≤ d) (he : x.length ≤ e) (hm : c ≤ maxLen) (hm2 : d ≤ maxLen) (hm3 : e ≤ maxLen) (hl : Lim a) (hl2 : Lim b) (hl3 : Lim x) : RdNs (w.alloc (.cells #[.slice A a.length c, .slice B b.length d, .slice C x.length e] 25)) (w.alloc (.cells #[.slice A a.length c, .slice B b.length d, .slice C x.length e] 25)).heap.size (some ⟨w.heap.size, 0, none⟩) 3 [rowN A a c, rowN B b d, rowN C x e] :=
  rdNs_of (rs := [rowN A a c, rowN B b d, rowN C x e]) (fun r h => by
    rcases List.mem_cons.1 h with rfl | h
    · exact ⟨ha, hc, hm, hl⟩
    · rcases List.mem_cons.1 h with rfl | h
      · exact ⟨hb, hd, hm2, hl2⟩
      · obtain rfl := List.mem_singleton.1 h
        exact ⟨hx, he, hm3, hl3⟩)
/-! ### numbers reckoned out -/
def decF : Nat → Nat → List Int
  | 0, n => [48 + (n : Int)]
  | k + 1, n => if n < 10 then [48 + (n : Int)] else decF k (n / 10) ++ [48 + ((n % 10 : Nat) : Int)]
theorem decF_eq : ∀ k n, n < 10 ^ (k + 1) → decL n = decF k n
  | 0, n, h => by rw [decL_small (by simpa using h)]; rfl
  | k + 1, n, h => by
    by_cases h2 : n < 10
    · rw [decL_small h2, decF, if_pos h2]
    · rw [decL_big h2, decF, if_neg h2, decF_eq k (n / 10) (by rw [Nat.pow_succ] at h; omega)]
def natF : Nat → Nat → List Int
  | 0, _ => []
  | k + 1, n => if n = 0 then [] else ((n % 4294967296 : Nat) : Int) :: natF k (n / 4294967296)
theorem natF_eq : ∀ k n, n < 4294967296 ^ k → natL n = natF k n
  | 0, n, h => by
    have : n = 0 := by simpa using h
    subst this
    rw [natL_zero]; rfl
  | k + 1, n, h => by
    by_cases h2 : n = 0
    · subst h2; rw [natL_zero]; rfl
    · rw [natL_pos h2, natF, if_neg h2, natF_eq k (n / 4294967296) (by rw [Nat.pow_succ] at h; omega)]
def sumN : List NRow → Nat
  | [] => 0
  | r :: l => valL r.zs + sumN l
def prodN : List NRow → Nat
  | [] => 1
  | r :: l => valL r.zs * prodN l
theorem natL_mono {m n : Nat} (h : m ≤ n) (hn : (natL n).length ≤ 256) : (natL m).length ≤ 256 := by
  rw [natL_len] at hn ⊢
  omega
theorem addGo_ok : ∀ (rs : List NRow) (s : Nat), (natL (s + sumN rs)).length ≤ 256 → addGo s rs = (0, natL (s + sumN rs))
  | [], s, _ => by rw [addGo]; rfl
  | r :: l, s, h => by
    rw [sumN, ← Nat.add_assoc] at h ⊢
    have h2 : (natL (s + valL r.zs)).length ≤ 256 := natL_mono (by omega) h
    rw [addGo, if_neg (by omega), addGo_ok l (s + valL r.zs) h]
theorem addR_ok {rs : List NRow} (ha : allN rs = true) (h : (natL (sumN rs)).length ≤ 256) : addR rs = (0, natL (sumN rs)) := by
  unfold addR
  rw [if_pos ha]
  have h2 := addGo_ok rs 0 (by rw [Nat.zero_add]; exact h)
  rwa [Nat.zero_add] at h2
theorem mulGo_ok : ∀ (rs : List NRow) (s : Nat), (∀ r ∈ rs, 1 ≤ valL r.zs) → (natL (s * prodN rs)).length ≤ 256 → mulGo s rs = (0, natL (s * prodN rs))
  | [], s, _, _ => by rw [mulGo, prodN, Nat.mul_one]
  | r :: l, s, hr, h => by
    have hp : ∀ l : List NRow, (∀ r ∈ l, 1 ≤ valL r.zs) → 1 ≤ prodN l := fun l => by
      induction l with
      | nil => intro _; exact Nat.le_refl _
      | cons q l ih => intro hq; rw [prodN]; exact Nat.mul_pos (hq q (by simp)) (ih fun r hr => hq r (by simp [hr]))
    rw [prodN, ← Nat.mul_assoc] at h ⊢
    have h2 : (natL (s * valL r.zs)).length ≤ 256 := natL_mono (Nat.le_mul_of_pos_right _ (hp l fun q hq => hr q (by simp [hq]))) h
    rw [mulGo, if_neg (by omega), mulGo_ok l (s * valL r.zs) (fun q hq => hr q (by simp [hq])) h]
theorem prodN_rep (zs : List Int) : ∀ k, prodN (List.replicate k (rowOf zs)) = valL zs ^ k
  | 0 => rfl
  | k + 1 => by rw [List.replicate_succ, prodN, prodN_rep zs k, Nat.pow_succ, Nat.mul_comm]; rfl
theorem powR_ok {zs : List Int} {k : Nat} (hr : rightN zs = true) (hk : k ≤ 64) (h1 : 1 ≤ valL zs) (h : (natL (valL zs ^ k)).length ≤ 256) : powR zs (k : Int) = (0, natL (valL zs ^ k)) := by
  unfold powR
  rw [if_pos ⟨hr, by omega, by omega⟩, Int.toNat_natCast]
  unfold mulR
  have ha : allN (List.replicate k (rowOf zs)) = true := List.all_eq_true.2 fun r hr' => by rw [List.eq_of_mem_replicate hr']; exact hr
  rw [if_pos ha, mulGo_ok _ 1 (fun r hr' => by rw [List.eq_of_mem_replicate hr']; exact h1) (by rw [prodN_rep, Nat.one_mul]; exact h), prodN_rep, Nat.one_mul]
theorem sub_nat {x y : Nat} (hx : rightN (natL x) = true) (hy : rightN (natL y) = true) : subR (natL x) (natL y) = if x < y then (12, []) else (0, natL (x - y)) := by
  unfold subR
  rw [hx, hy, natL_val, natL_val]
  rfl
theorem cmp_nat {x y : Nat} (hx : rightN (natL x) = true) (hy : rightN (natL y) = true) : cmpR (natL x) (natL y) = if x < y then -1 else if y < x then 1 else 0 := by
  unfold cmpR
  rw [hx, hy, natL_val, natL_val]
  rfl
theorem div_nat {x : Nat} {d : Int} (hx : rightN (natL x) = true) (h1 : 1 ≤ d) (h2 : d < 9223372036854775808) : divV (natL x) d = x / d.toNat ∧ divL (natL x) d = x % d.toNat ∧ divE (natL x) d = 0 := by
  refine ⟨?_, ?_, ?_⟩
  · unfold divV; rw [if_pos ⟨hx, h1, h2⟩, natL_val]
  · unfold divL; rw [if_pos ⟨hx, h1, h2⟩, natL_val]
  · unfold divE; rw [if_pos ⟨hx, h1, h2⟩]
theorem small_right {n : Nat} (h : n < 4294967296 ^ 3) : rightN (natL n) = true := rightN_natL (Nat.le_trans ((natL_len n 3).2 h) (by omega))
theorem small_len {n : Nat} (h : n < 4294967296 ^ 3) : (natL n).length ≤ 256 := Nat.le_trans ((natL_len n 3).2 h) (by omega)
/-- The sum of two numbers that may be, if it isn't too great. -/
theorem addR_two {A B : Option Addr} {a b : List Int} {c d : Nat} (ha : rightN a = true) (hb : rightN b = true) (hl : (natL (valL a + valL b)).length ≤ 256) : addR [rowN A a c, rowN B b d] = (0, natL (valL a + valL b)) := by
  have h0 : allN [rowN A a c, rowN B b d] = true := by
    show (rightN a && (rightN b && true)) = true
    rw [ha, hb]; rfl
  have h1 : ¬ 256 < (natL (0 + valL a)).length := by
    rw [Nat.zero_add]
    have h2 : (natL (valL a)).length ≤ 256 := by
      rw [natL_len] at hl ⊢
      omega
    omega
  unfold addR
  rw [if_pos h0, addGo]
  show (if 256 < (natL (0 + valL a)).length then _ else _) = _
  rw [if_neg h1, addGo]
  show (if 256 < (natL (0 + valL a + valL b)).length then _ else _) = _
  rw [if_neg (by rw [Nat.zero_add]; omega), addGo]
  show (0, natL (0 + valL a + valL b)) = _
  rw [Nat.zero_add]
theorem mulR_two {A B : Option Addr} {a b : List Int} {c d : Nat} (ha : rightN a = true) (hb : rightN b = true) (hla : (natL (valL a)).length ≤ 256) (hl : (natL (valL a * valL b)).length ≤ 256) : mulR [rowN A a c, rowN B b d] = (0, natL (valL a * valL b)) := by
  have h0 : allN [rowN A a c, rowN B b d] = true := by
    show (rightN a && (rightN b && true)) = true
    rw [ha, hb]; rfl
  unfold mulR
  rw [if_pos h0, mulGo]
  show (if 256 < (natL (1 * valL a)).length then _ else _) = _
  rw [if_neg (by rw [Nat.one_mul]; omega), mulGo]
  show (if 256 < (natL (1 * valL a * valL b)).length then _ else _) = _
  rw [if_neg (by rw [Nat.one_mul]; omega), mulGo]
  show (0, natL (1 * valL a * valL b)) = _
  rw [Nat.one_mul]
theorem allN_two {A B : Option Addr} {a b : List Int} {c d : Nat} (ha : rightN a = true) (hb : rightN b = true) : allN [rowN A a c, rowN B b d] = true := by
  show (rightN a && (rightN b && true)) = true
  rw [ha, hb]; rfl
theorem allN_three {A B C : Option Addr} {a b x : List Int} {c d e : Nat} (ha : rightN a = true) (hb : rightN b = true) (hx : rightN x = true) : allN [rowN A a c, rowN B b d, rowN C x e] = true := by
  show (rightN a && (rightN b && (rightN x && true))) = true
  rw [ha, hb, hx]; rfl
theorem right_natL {n k : Nat} (h : n < 4294967296 ^ k) (hk : k ≤ 256) : rightN (natL n) = true := rightN_natL (Nat.le_trans ((natL_len n k).2 h) hk)
theorem lt_len {l : List Int} (hl : Lim l) {k : Nat} (h : l.length ≤ k) : valL l < 4294967296 ^ k := Nat.lt_of_lt_of_le (valL_lt hl) (Nat.pow_le_pow_right (by omega) h)
end Go.Proofs.Ytaaahgkpicjnoaa
/-
  Plain arithmetic on words of 32 and 64 bits (shifts, turns, bytes, number of bits), with no program in it.
  Conditions: none beyond those that each theorem names.
-/
set_option maxRecDepth 100000
namespace Go.Proofs.Ytaaahgkpicjnoaa.Wd

def left (x n : Int) : Int := if n < 1 then x else if 31 < n then 0 else x * 2 ^ n.toNat % 4294967296
def right (x n : Int) : Int := if n < 1 then x else if 31 < n then 0 else x / 2 ^ n.toNat
def rot (x : Int) (k : Nat) : Int := x / 2 ^ k + x % 2 ^ k * 2 ^ (32 - k)
def rotate (x n : Int) : Int := rot x (n % 32).toNat
/-- The byte of x that has k bytes behind it. -/
def byt (x : Int) (k : Nat) : Int := x / 256 ^ k % 256
def get4 (a b c d : Int) : Int := ((a * 256 + b) * 256 + c) * 256 + d
/-- How many bits a number has. -/
def bitsL (x : Nat) : Nat := if x = 0 then 0 else x.log2 + 1
theorem bitsL_zero : bitsL 0 = 0 := rfl
theorem bitsL_step (x : Nat) (h : 0 < x) : bitsL x = bitsL (x / 2) + 1 := by
  unfold bitsL
  rw [if_neg (by omega), Nat.log2_def]
  by_cases h2 : 2 ≤ x
  · rw [if_pos h2, if_neg (by omega)]
  · rw [if_neg h2, if_pos (by omega)]
theorem bitsL_le (x : Nat) (h : x < 18446744073709551616) : bitsL x ≤ 64 := by
  unfold bitsL
  split
  · omega
  · have : x.log2 < 64 := (Nat.log2_lt (by omega)).2 h
    omega

theorem pow_pos2 (k : Nat) : (0 : Int) < 2 ^ k := Int.pow_pos (by decide)

theorem left_low (x n : Int) (h : n < 1) : left x n = x := by simp [left, h]
theorem right_low (x n : Int) (h : n < 1) : right x n = x := by simp [right, h]
theorem left_high (x n : Int) (h : 31 < n) : left x n = 0 := by
  unfold left; rw [if_neg (by omega), if_pos h]
theorem right_high (x n : Int) (h : 31 < n) : right x n = 0 := by
  unfold right; rw [if_neg (by omega), if_pos h]

/-- What the model answers of a shift to the highest bit. -/
theorem left_model (x n : Int) (h : 1 ≤ n) : x * 2 ^ min n.toNat 32 % 4294967296 = left x n := by
  by_cases h2 : 31 < n
  · rw [left_high x n h2, show min n.toNat 32 = 32 by omega, show (2 : Int) ^ 32 = 4294967296 by decide]
    exact Int.mul_emod_left _ _
  · unfold left
    rw [if_neg (by omega), if_neg h2, show min n.toNat 32 = n.toNat by omega]

theorem right_model (x n : Int) (h0 : 0 ≤ x) (h1 : x < 4294967296) (h : 1 ≤ n) : x / 2 ^ min n.toNat 32 = right x n := by
  by_cases h2 : 31 < n
  · rw [right_high x n h2, show min n.toNat 32 = 32 by omega, show (2 : Int) ^ 32 = 4294967296 by decide]
    exact Int.ediv_eq_zero_of_lt h0 h1
  · unfold right
    rw [if_neg (by omega), if_neg h2, show min n.toNat 32 = n.toNat by omega]

theorem shl_split (x : Int) (k : Nat) (hk : k ≤ 32) : x * 2 ^ (32 - k) % 4294967296 = x % 2 ^ k * 2 ^ (32 - k) := by
  have e : (4294967296 : Int) = 2 ^ k * 2 ^ (32 - k) := by
    rw [← Int.pow_add, show k + (32 - k) = 32 by omega]; decide
  rw [e, Int.mul_comm x, Int.mul_comm (2 ^ k), Int.mul_emod_mul_of_pos _ _ (pow_pos2 _), Int.mul_comm]

theorem rot_bounds (x : Int) (k : Nat) (h0 : 0 ≤ x) (h1 : x < 4294967296) (hk : k ≤ 32) : 0 ≤ rot x k ∧ rot x k < 4294967296 := by
  unfold rot
  have e : (4294967296 : Int) = 2 ^ (32 - k) * 2 ^ k := by
    rw [← Int.pow_add, show 32 - k + k = 32 by omega]; decide
  have p := pow_pos2 k
  have q := pow_pos2 (32 - k)
  have hd : x / 2 ^ k < 2 ^ (32 - k) := Int.ediv_lt_of_lt_mul p (by rw [← e]; exact h1)
  have hd0 : 0 ≤ x / 2 ^ k := Int.ediv_nonneg h0 (by omega)
  have hm0 := Int.emod_nonneg x (show (2 : Int) ^ k ≠ 0 by omega)
  have hm1 := Int.emod_lt_of_pos x p
  have hq := Int.mul_nonneg hm0 (show (0 : Int) ≤ 2 ^ (32 - k) by omega)
  have hlt : (x % 2 ^ k + 1) * 2 ^ (32 - k) ≤ 2 ^ k * 2 ^ (32 - k) := Int.mul_le_mul_of_nonneg_right (by omega) (by omega)
  rw [Int.add_mul, Int.one_mul, Int.mul_comm (2 ^ k) (2 ^ (32 - k)), ← e] at hlt
  omega

theorem toNat_mul_pow (a : Int) (k : Nat) (h : 0 ≤ a) : (a * 2 ^ k).toNat = 2 ^ k * a.toNat := by
  obtain ⟨n, rfl⟩ := Int.eq_ofNat_of_zero_le h
  rw [show ((n : Int) * 2 ^ k) = ((n * 2 ^ k : Nat) : Int) by push_cast; rfl, Int.toNat_natCast, Int.toNat_natCast, Nat.mul_comm]

/-- Both shifts, joined bit by bit, are their sum. -/
theorem rot_or (x : Int) (k : Nat) (h0 : 0 ≤ x) (h1 : x < 4294967296) (hk : k < 32) :
    Go.bits .or .u32 (x / 2 ^ k) (x * 2 ^ (32 - k) % 4294967296) = rot x k := by
  have hb := rot_bounds x k h0 h1 (by omega)
  rw [shl_split x k (by omega)]
  unfold rot at hb ⊢
  have e : (4294967296 : Int) = 2 ^ (32 - k) * 2 ^ k := by
    rw [← Int.pow_add, show 32 - k + k = 32 by omega]; decide
  have p := pow_pos2 k
  have q := pow_pos2 (32 - k)
  have hd : x / 2 ^ k < 2 ^ (32 - k) := Int.ediv_lt_of_lt_mul p (by rw [← e]; exact h1)
  have hd0 : 0 ≤ x / 2 ^ k := Int.ediv_nonneg h0 (by omega)
  have hm0 := Int.emod_nonneg x (show (2 : Int) ^ k ≠ 0 by omega)
  have hq := Int.mul_nonneg hm0 (show (0 : Int) ≤ 2 ^ (32 - k) by omega)
  generalize x / 2 ^ k = A at *
  generalize x % 2 ^ k = M at *
  rw [Go.u32_or _ _ hd0 (by omega) hq (by omega), toNat_mul_pow M _ hm0, Nat.or_comm, ← Nat.two_pow_add_eq_or_of_lt]
  · push_cast
    rw [Int.toNat_of_nonneg hm0, Int.toNat_of_nonneg hd0, Int.mul_comm, Int.add_comm]
  · have : ((A.toNat : Nat) : Int) < ((2 ^ (32 - k) : Nat) : Int) := by
      rw [Int.toNat_of_nonneg hd0]; push_cast; exact hd
    exact_mod_cast this

theorem rot_zero (x : Int) : rot x 0 = x := by simp [rot, Int.emod_one]

/-- One bit more. -/
theorem rot_succ (x : Int) (k : Nat) (hk : k < 32) : rot x k / 2 + rot x k % 2 * 2147483648 = rot x (k + 1) := by
  unfold rot
  have e1 : (2 : Int) ^ (32 - k) = 2 ^ (32 - (k + 1)) * 2 := by
    rw [show 32 - k = 32 - (k + 1) + 1 by omega, Int.pow_succ]
  have e2 : (2147483648 : Int) = 2 ^ k * 2 ^ (32 - (k + 1)) := by
    rw [← Int.pow_add, show k + (32 - (k + 1)) = 31 by omega]; decide
  have e3 : x / 2 ^ (k + 1) = x / 2 ^ k / 2 := by
    rw [Int.pow_succ, Int.ediv_ediv_of_nonneg (Int.le_of_lt (pow_pos2 k))]
  have e4 : x % 2 ^ (k + 1) = x % 2 ^ k + 2 ^ k * (x / 2 ^ k % 2) := by
    rw [Int.pow_succ]
    have p := pow_pos2 k
    have a1 := Int.mul_ediv_add_emod x (2 ^ k * 2)
    have a2 := Int.mul_ediv_add_emod x (2 ^ k)
    have a3 := Int.mul_ediv_add_emod (x / 2 ^ k) 2
    rw [Int.ediv_ediv_of_nonneg (Int.le_of_lt p)] at a3
    generalize x / (2 ^ k * 2) = Q at *
    generalize x / 2 ^ k = A at *
    rw [← a3, Int.mul_add, ← Int.mul_assoc] at a2
    omega
  rw [e1, e3, e4, e2]
  generalize x / 2 ^ k = A
  generalize x % 2 ^ k = M
  generalize (2 : Int) ^ (32 - (k + 1)) = T
  generalize (2 : Int) ^ k = U
  rw [← Int.mul_assoc, Int.add_mul M, show (A + M * T * 2) / 2 = A / 2 + M * T by omega, show (A + M * T * 2) % 2 = A % 2 by omega,
    show A % 2 * (U * T) = U * (A % 2) * T by rw [← Int.mul_assoc, Int.mul_comm (A % 2) U]]
  omega

theorem rot_32 (x : Int) (h0 : 0 ≤ x) (h1 : x < 4294967296) : rot x 32 = x := by
  unfold rot
  rw [show (2 : Int) ^ 32 = 4294967296 by decide, Int.ediv_eq_zero_of_lt h0 h1, Int.emod_eq_of_lt h0 h1]
  simp

theorem rot_add (x : Int) (a b : Nat) (h : a + b ≤ 32) : rot (rot x a) b = rot x (a + b) := by
  induction b with
  | zero => rw [rot_zero]; rfl
  | succ b ih => rw [← rot_succ _ b (by omega), ih (by omega), rot_succ _ _ (by omega)]; rfl

theorem rotate_bounds (x n : Int) (h0 : 0 ≤ x) (h1 : x < 4294967296) : 0 ≤ rotate x n ∧ rotate x n < 4294967296 :=
  rot_bounds x _ h0 h1 (by omega)

/-- Turned, and turned back. -/
theorem rotate_back (x n : Int) (h0 : 0 ≤ x) (h1 : x < 4294967296) : rotate (rotate x n) (0 - n) = x := by
  unfold rotate
  by_cases hz : n % 32 = 0
  · rw [show (n % 32).toNat = 0 by omega, show ((0 - n) % 32).toNat = 0 by omega, rot_zero, rot_zero]
  · rw [rot_add x _ _ (by omega), show (n % 32).toNat + ((0 - n) % 32).toNat = 32 by omega, rot_32 x h0 h1]

/-- A turned word is both shifts of it. -/
theorem rotate_shifts (x k : Int) (hk : 1 ≤ k) (hk2 : k ≤ 31) : rotate x k = right x k + left x (32 - k) := by
  unfold rotate right left
  rw [if_neg (by omega), if_neg (by omega), if_neg (by omega), if_neg (by omega), show (k % 32).toNat = k.toNat by omega, show (32 - k).toNat = 32 - k.toNat by omega,
    shl_split x _ (by omega)]
  rfl

theorem left_bounds (x n : Int) (h0 : 0 ≤ x) (h1 : x < 4294967296) : 0 ≤ left x n ∧ left x n < 4294967296 := by
  unfold left; split
  · exact ⟨h0, h1⟩
  · split <;> omega
theorem right_bounds (x n : Int) (h0 : 0 ≤ x) (h1 : x < 4294967296) : 0 ≤ right x n ∧ right x n < 4294967296 := by
  unfold right; split
  · exact ⟨h0, h1⟩
  · split
    · omega
    · exact ⟨Int.ediv_nonneg h0 (Int.le_of_lt (pow_pos2 _)), Int.lt_of_le_of_lt (Int.ediv_le_self _ h0) h1⟩

theorem left_succ (x : Int) (k : Nat) (hk : k ≤ 30) : 2 * left x k % 4294967296 = left x (k + 1 : Nat) := by
  unfold left
  rw [if_neg (show ¬ ((k + 1 : Nat) : Int) < 1 by omega), if_neg (show ¬ 31 < ((k + 1 : Nat) : Int) by omega), Int.toNat_natCast, Int.toNat_natCast]
  by_cases hz : k = 0
  · subst hz; simp; omega
  · rw [if_neg (by omega), if_neg (by omega), Int.pow_succ, ← Int.mul_assoc]
    generalize x * 2 ^ k = y
    omega
theorem right_succ (x : Int) (k : Nat) (hk : k ≤ 30) : right x k / 2 = right x (k + 1 : Nat) := by
  unfold right
  rw [if_neg (show ¬ ((k + 1 : Nat) : Int) < 1 by omega), if_neg (show ¬ 31 < ((k + 1 : Nat) : Int) by omega), Int.toNat_natCast, Int.toNat_natCast]
  by_cases hz : k = 0
  · subst hz; simp
  · rw [if_neg (by omega), if_neg (by omega), Int.pow_succ, Int.ediv_ediv_of_nonneg (Int.le_of_lt (pow_pos2 k))]

theorem or_add_nat (a b k : Nat) (h : b < 2 ^ k) : a * 2 ^ k ||| b = a * 2 ^ k + b := by
  rw [Nat.mul_comm, Nat.two_pow_add_eq_or_of_lt h]
/-- Bits that stand apart: joined, they are the sum. -/
theorem u32_or_add (a b : Int) (k : Nat) (h0 : 0 ≤ a) (hb0 : 0 ≤ b) (hb : b < 2 ^ k) (h : a * 2 ^ k + b < 4294967296) : Go.bits .or .u32 (a * 2 ^ k) b = a * 2 ^ k + b := by
  obtain ⟨A, rfl⟩ := Int.eq_ofNat_of_zero_le h0
  obtain ⟨B, rfl⟩ := Int.eq_ofNat_of_zero_le hb0
  have e : (A : Int) * 2 ^ k = ((A * 2 ^ k : Nat) : Int) := by push_cast; rfl
  have hB : B < 2 ^ k := by exact_mod_cast hb
  rw [e] at h ⊢
  rw [Go.u32_or_nat _ _ (by omega) (by omega), or_add_nat _ _ _ hB]
  push_cast; rfl
theorem u64_or_add (a b : Int) (k : Nat) (h0 : 0 ≤ a) (hb0 : 0 ≤ b) (hb : b < 2 ^ k) (h : a * 2 ^ k + b < 18446744073709551616) : Go.bits .or .u64 (a * 2 ^ k) b = a * 2 ^ k + b := by
  obtain ⟨A, rfl⟩ := Int.eq_ofNat_of_zero_le h0
  obtain ⟨B, rfl⟩ := Int.eq_ofNat_of_zero_le hb0
  have e : (A : Int) * 2 ^ k = ((A * 2 ^ k : Nat) : Int) := by push_cast; rfl
  have hB : B < 2 ^ k := by exact_mod_cast hb
  rw [e] at h ⊢
  rw [Go.u64_or_nat _ _ (by omega) (by omega), or_add_nat _ _ _ hB]
  push_cast; rfl
theorem get4_or (a b c d : Int) (a0 : 0 ≤ a) (a1 : a < 256) (b0 : 0 ≤ b) (b1 : b < 256) (c0 : 0 ≤ c) (c1 : c < 256) (d0 : 0 ≤ d) (d1 : d < 256) :
    Go.bits .or .u32 (Go.bits .or .u32 (Go.bits .or .u32 (a * 16777216) (b * 65536)) (c * 256)) d = get4 a b c d := by
  unfold get4
  have e1 := u32_or_add a (b * 65536) 24 a0 (by omega) (by omega) (by omega)
  rw [show (2 : Int) ^ 24 = 16777216 by decide] at e1
  rw [e1]
  have e2 := u32_or_add (a * 256 + b) (c * 256) 16 (by omega) (by omega) (by omega) (by omega)
  rw [show (2 : Int) ^ 16 = 65536 by decide, show (a * 256 + b) * 65536 = a * 16777216 + b * 65536 by omega] at e2
  rw [e2]
  have e3 := u32_or_add ((a * 256 + b) * 256 + c) d 8 (by omega) (by omega) (by omega) (by omega)
  rw [show (2 : Int) ^ 8 = 256 by decide, show ((a * 256 + b) * 256 + c) * 256 = a * 16777216 + b * 65536 + c * 256 by omega] at e3
  rw [e3]; omega
/-- One byte more. -/
theorem get_step (x c : Int) (h0 : 0 ≤ x) (h1 : x < 72057594037927936) (c0 : 0 ≤ c) (c1 : c < 256) : Go.bits .or .u64 (x * 256) c = x * 256 + c := by
  have e := u64_or_add x c 8 h0 c0 (by omega) (by omega)
  rw [show (2 : Int) ^ 8 = 256 by decide] at e
  exact e

theorem and31 (n : Int) : Go.bits .and .u64 (Go.IntKind.u64.wrap n) 31 = n % 32 := by
  rw [Go.IntKind.wrap_u64, Go.u64_and _ _ (by omega) (by omega) (by omega) (by omega), show (31 : Int).toNat = 2 ^ 5 - 1 by decide, Nat.and_two_pow_sub_one_eq_mod]
  omega

end Go.Proofs.Ytaaahgkpicjnoaa.Wd
/-
  How many bits an attempt takes, in plain Lean.
  Conditions: those that each theorem names.
-/
set_option maxRecDepth 100000
set_option linter.unusedVariables false
set_option linter.unusedSimpArgs false
namespace Go.Proofs.Ytaaahgkpicjnoaa
/-- How many bits an attempt takes. -/
def needN (n : Int) : Nat := if n = 0 then 0 else Wd.bitsL (n - 1).toNat
theorem needN_le (n : Int) (h0 : 0 ≤ n) (h1 : n < 18446744073709551616) : needN n ≤ 64 := by
  unfold needN
  split
  · omega
  · exact Wd.bitsL_le _ (by omega)
end Go.Proofs.Ytaaahgkpicjnoaa
/-
  Sums, differences and products below 2^63 in plain Lean.
  Conditions: those that each theorem names.
-/
set_option maxRecDepth 100000
set_option linter.unusedVariables false
set_option linter.unusedSimpArgs false
namespace Go.Proofs.Ytaaahgkpicjnoaa
def addO (a b : Int) : Bool := decide (a + b < 9223372036854775808)
def addV (a b : Int) : Int := if a + b < 9223372036854775808 then a + b else 0
def subO (a b : Int) : Bool := decide (b ≤ a ∧ a - b < 9223372036854775808)
def subV (a b : Int) : Int := if b ≤ a ∧ a - b < 9223372036854775808 then a - b else 0
def mulO (a b : Int) : Bool := decide (a * b < 9223372036854775808)
def mulV (a b : Int) : Int := if a * b < 9223372036854775808 then a * b else 0
def sumL : List Int → Int
  | [] => 0
  | x :: l => x + sumL l
def sumO (l : List Int) : Bool := decide (sumL l < 9223372036854775808)
def sumV (l : List Int) : Int := if sumL l < 9223372036854775808 then sumL l else 0
open Go.ChangeShapes Go.WideShapes Go.ChangeAt Go.RowKit in
theorem ret_pair {x y : Int} {p q : Bool} (h : x = y ∧ p = q) : Ending.returned (.tuple #[.int .u64 x, .bool p]) = .returned (.tuple #[.int .u64 y, .bool q]) := by rw [h.1, h.2]
theorem ret_bool {p q : Bool} (h : p = q) : Ending.returned (.bool p) = .returned (.bool q) := by rw [h]
theorem sym2 {x y : Int} {p q : Bool} (h : x = y ∧ p = q) : y = x ∧ q = p := ⟨h.1.symm, h.2.symm⟩
theorem addV_ok {a b : Int} (h : a + b < 9223372036854775808) : addV a b = a + b ∧ addO a b = true := ⟨if_pos h, decide_eq_true h⟩
theorem addV_no {a b : Int} (h : ¬ a + b < 9223372036854775808) : addV a b = 0 ∧ addO a b = false := ⟨if_neg h, decide_eq_false h⟩
theorem subV_ok {a b : Int} (h : b ≤ a) (h2 : a - b < 9223372036854775808) : subV a b = a - b ∧ subO a b = true := ⟨if_pos ⟨h, h2⟩, decide_eq_true ⟨h, h2⟩⟩
theorem subV_no {a b : Int} (h : ¬ (b ≤ a ∧ a - b < 9223372036854775808)) : subV a b = 0 ∧ subO a b = false := ⟨if_neg h, decide_eq_false h⟩
theorem mulV_ok {a b : Int} (h : a * b < 9223372036854775808) : mulV a b = a * b ∧ mulO a b = true := ⟨if_pos h, decide_eq_true h⟩
theorem mulV_no {a b : Int} (h : ¬ a * b < 9223372036854775808) : mulV a b = 0 ∧ mulO a b = false := ⟨if_neg h, decide_eq_false h⟩
theorem sumV_ok {l : List Int} (h : sumL l < 9223372036854775808) : sumV l = sumL l ∧ sumO l = true := ⟨if_pos h, decide_eq_true h⟩
theorem sumV_no {l : List Int} (h : ¬ sumL l < 9223372036854775808) : sumV l = 0 ∧ sumO l = false := ⟨if_neg h, decide_eq_false h⟩
theorem addV_in {a b : Int} (h : 0 ≤ a) (h2 : 0 ≤ b) : 0 ≤ addV a b ∧ addV a b < 9223372036854775808 := by unfold addV; split <;> omega
theorem subV_in (a b : Int) : 0 ≤ subV a b ∧ subV a b < 9223372036854775808 := by unfold subV; split <;> omega
theorem mulV_in {a b : Int} (h : 0 ≤ a) (h2 : 0 ≤ b) : 0 ≤ mulV a b ∧ mulV a b < 9223372036854775808 := by
  unfold mulV
  have := Int.mul_nonneg h h2
  split <;> omega
theorem addV_comm (a b : Int) : addV a b = addV b a ∧ addO a b = addO b a := by unfold addV addO; rw [Int.add_comm]; exact ⟨rfl, rfl⟩
theorem sumL_app (l m : List Int) : sumL (l ++ m) = sumL l + sumL m := by
  induction l with
  | nil => show sumL m = 0 + sumL m; omega
  | cons x l ih => show x + sumL (l ++ m) = x + sumL l + sumL m; omega
theorem sumL_nn {l : List Int} (h : ∀ z ∈ l, 0 ≤ z) : 0 ≤ sumL l := by
  induction l with
  | nil => exact Int.le_refl _
  | cons x l ih => have h1 := h x (by simp); have h2 := ih (fun z hz => h z (by simp [hz])); show 0 ≤ x + sumL l; omega
theorem sumL_take {l : List Int} {k : Nat} (h : k < l.length) : sumL (l.take (k + 1)) = sumL (l.take k) + l.getD k 0 := by
  rw [List.take_add_one, sumL_app, List.getElem?_eq_getElem h, List.getD_eq_getElem?_getD, List.getElem?_eq_getElem h]
  show sumL (l.take k) + (l[k] + 0) = sumL (l.take k) + l[k]
  omega
theorem sumL_le {l : List Int} (h : ∀ z ∈ l, 0 ≤ z) (k : Nat) : sumL (l.take k) ≤ sumL l := by
  have h1 : sumL l = sumL (l.take k) + sumL (l.drop k) := by rw [← sumL_app, List.take_append_drop]
  have h2 := sumL_nn (l := l.drop k) (fun z hz => h z (List.mem_of_mem_drop hz))
  omega
theorem sumL_rep (a : Int) : ∀ n : Nat, sumL (List.replicate n a) = a * (n : Int)
  | 0 => by simp [sumL]
  | n + 1 => by
    show a + sumL (List.replicate n a) = _
    rw [sumL_rep a n]
    push_cast
    rw [Int.mul_add]
    omega
theorem getD_in {l : List Int} {k : Nat} (h : k < l.length) : l.getD k 0 ∈ l := by
  rw [List.getD_eq_getElem?_getD, List.getElem?_eq_getElem h]
  exact List.getElem_mem h
/-- Two lists are the same if they have as many numbers, and the same ones. -/
theorem ext_getD {l m : List Int} (h : l.length = m.length) (h2 : ∀ j, j < l.length → l.getD j 0 = m.getD j 0) : l = m := by
  apply List.ext_getElem h
  intro j h3 h4
  have h5 := h2 j h3
  simpa [List.getD_eq_getElem?_getD, List.getElem?_eq_getElem h3, List.getElem?_eq_getElem h4] using h5
theorem lt_div (b a : Int) (hb : 0 < b) (ha : 0 ≤ a) : (9223372036854775807 / b < a) ↔ ¬ (a * b < 9223372036854775808) := by
  have h := Int.le_ediv_iff_mul_le (a := a) (b := 9223372036854775807) hb
  constructor
  · intro h1 h2; have := h.2 (by omega); omega
  · intro h1; exact Int.lt_of_not_ge fun h2 => h1 (by have := h.1 h2; omega)
end Go.Proofs.Ytaaahgkpicjnoaa
/-
  How many tapes draw what, in plain Lean: all, lost, each number's, parts of them; and that these add up.
  Conditions: those that each theorem names.
-/
set_option maxRecDepth 100000
set_option linter.unusedVariables false
set_option linter.unusedSimpArgs false
namespace Go.Proofs.Ytaaahgkpicjnoaa
def mayB (n m : Int) : Bool := decide (1 ≤ n ∧ n < 9223372036854775808 ∧ 1 ≤ m ∧ m ≤ 64)
theorem mayB_iff {n m : Int} : mayB n m = true ↔ (1 ≤ n ∧ n < 9223372036854775808 ∧ 1 ≤ m ∧ m ≤ 64) := decide_eq_true_iff
theorem mayB_no {n m : Int} (h : ¬ (1 ≤ n ∧ n < 9223372036854775808 ∧ 1 ≤ m ∧ m ≤ 64)) : mayB n m = false := decide_eq_false h
theorem need_in {n : Int} (h : 1 ≤ n) (h2 : n < 9223372036854775808) : needN n ≤ 63 ∧ n.toNat ≤ 2 ^ needN n := by
  by_cases h1 : n = 1
  · subst h1; exact ⟨by decide, by decide⟩
  · have e : needN n = (n - 1).toNat.log2 + 1 := by
      unfold needN Wd.bitsL
      rw [if_neg (by omega), if_neg (by omega)]
    obtain ⟨x, hx⟩ : ∃ x, (n - 1).toNat = x := ⟨_, rfl⟩
    rw [hx] at e
    have h3 := Nat.log2_self_le (n := x) (by omega)
    have h4 := Nat.lt_log2_self (n := x)
    rw [e]
    refine ⟨?_, by omega⟩
    rcases Nat.lt_or_ge x.log2 63 with h5 | h5
    · omega
    · have h6 : 9223372036854775808 ≤ 2 ^ x.log2 := Nat.le_trans (by decide) (Nat.pow_le_pow_right (n := 2) (by omega) h5)
      omega
/-- By the first so many attempts. -/
def eaS (P r m : Nat) : Nat → Nat
  | 0 => 0
  | j + 1 => eaS P r m j + r ^ j * P ^ (m - 1 - j)
theorem ea_sum {P r n m : Nat} (h : n + r = P) : ∀ j, j ≤ m → n * eaS P r m j + r ^ j * P ^ (m - j) = P ^ m
  | 0, _ => by rw [eaS, Nat.mul_zero, Nat.zero_add, Nat.pow_zero, Nat.one_mul, Nat.sub_zero]
  | j + 1, hj => by
    have ih := ea_sum (m := m) h j (by omega)
    have e : P ^ (m - j) = P ^ (m - 1 - j) * P := by rw [show m - j = (m - 1 - j) + 1 by omega, Nat.pow_succ]
    rw [e] at ih
    rw [eaS, show m - (j + 1) = m - 1 - j by omega, ← ih, Nat.pow_succ, ← h]
    obtain ⟨x, hx⟩ : ∃ x, r ^ j = x := ⟨_, rfl⟩
    obtain ⟨y, hy⟩ : ∃ y, (n + r) ^ (m - 1 - j) = y := ⟨_, rfl⟩
    obtain ⟨z, hz⟩ : ∃ z, eaS (n + r) r m j = z := ⟨_, rfl⟩
    rw [hx, hy, hz, Nat.mul_add, Nat.mul_add, Nat.mul_add, Nat.add_assoc]
    congr 1
    congr 1
    · rw [Nat.mul_comm n, Nat.mul_assoc]
    · rw [Nat.mul_assoc, Nat.mul_comm r y]
def oddP (n : Int) : Nat := 2 ^ needN n
def oddR (n : Int) : Nat := oddP n - n.toNat
def allV (n m : Int) : Nat := 2 ^ (needN n * m.toNat)
def lostV (n m : Int) : Nat := oddR n ^ m.toNat
def eachV (n m : Int) : Nat := eaS (oddP n) (oddR n) m.toNat m.toNat
theorem odd_add {n : Int} (h : 1 ≤ n) (h2 : n < 9223372036854775808) : n.toNat + oddR n = oddP n := by
  have := (need_in h h2).2
  unfold oddR oddP
  omega
theorem odd_pow (n m : Int) : oddP n ^ m.toNat = allV n m := (Nat.pow_mul 2 _ _).symm
/-- All numbers' tapes, and the lost ones, are all. -/
theorem odd_sum {n m : Int} (h : mayB n m = true) : n.toNat * eachV n m + lostV n m = allV n m := by
  obtain ⟨h1, h2, h3, h4⟩ := mayB_iff.1 h
  have := ea_sum (m := m.toNat) (odd_add h1 h2) m.toNat (Nat.le_refl _)
  rw [Nat.sub_self, Nat.pow_zero, Nat.mul_one, odd_pow] at this
  exact this
theorem pow2_lt {e k : Nat} (h : e < 32 * k) : 2 ^ e < 4294967296 ^ k := by
  rw [show (4294967296 : Nat) = 2 ^ 32 from rfl, ← Nat.pow_mul]
  exact Nat.pow_lt_pow_right (by omega) h
theorem exp_in {k m : Nat} (hk : k ≤ 63) (hm : m ≤ 64) : k * m ≤ 4032 := Nat.mul_le_mul hk hm
theorem allV_lt {n m : Int} (h : mayB n m = true) : allV n m < 4294967296 ^ 127 := by
  obtain ⟨h1, h2, h3, h4⟩ := mayB_iff.1 h
  have := exp_in (need_in h1 h2).1 (show m.toNat ≤ 64 by omega)
  exact pow2_lt (by omega)
/-- What is at most all tapes has few limbs. -/
theorem odd_len {n m : Int} (h : mayB n m = true) {x : Nat} (hx : x ≤ allV n m) : (natL x).length ≤ 127 := (natL_len x 127).2 (Nat.lt_of_le_of_lt hx (allV_lt h))
theorem lostV_le {n m : Int} (h : mayB n m = true) : lostV n m ≤ allV n m := by have := odd_sum h; omega
theorem part_le {n m : Int} (h : mayB n m = true) {p : Nat} (hp : p ≤ n.toNat) : p * eachV n m ≤ allV n m := by
  have h1 := odd_sum h
  have h2 : p * eachV n m ≤ n.toNat * eachV n m := Nat.mul_le_mul_right _ hp
  omega
theorem eachV_le {n m : Int} (h : mayB n m = true) : eachV n m ≤ allV n m := by
  have := part_le h (p := 1) (by have := (mayB_iff.1 h).1; omega)
  omega
/-- The sums on the way. -/
theorem ea_le {n m : Int} (h : mayB n m = true) {j : Nat} (hj : j ≤ m.toNat) : eaS (oddP n) (oddR n) m.toNat j ≤ allV n m ∧ oddR n ^ j * oddP n ^ (m.toNat - j) ≤ allV n m := by
  obtain ⟨h1, h2, h3, h4⟩ := mayB_iff.1 h
  have := ea_sum (m := m.toNat) (odd_add h1 h2) j hj
  rw [odd_pow] at this
  have h5 : eaS (oddP n) (oddR n) m.toNat j ≤ n.toNat * eaS (oddP n) (oddR n) m.toNat j := Nat.le_mul_of_pos_left _ (by omega)
  omega
theorem oddP_pos (n : Int) : 1 ≤ oddP n := Nat.pow_pos (by omega)
theorem ea_parts {n m : Int} (h : mayB n m = true) {j : Nat} (hj : j ≤ m.toNat) : oddR n ^ j ≤ allV n m ∧ ∀ i, i + j ≤ m.toNat → oddP n ^ i ≤ allV n m ∧ oddR n ^ j * oddP n ^ i ≤ allV n m := by
  have hp := oddP_pos n
  have h1 := (ea_le h hj).2
  refine ⟨Nat.le_trans (Nat.le_mul_of_pos_right _ (Nat.pow_pos hp)) h1, fun i hi => ⟨?_, Nat.le_trans (Nat.mul_le_mul_left _ (Nat.pow_le_pow_right hp (by omega))) h1⟩⟩
  rw [← odd_pow]
  exact Nat.pow_le_pow_right hp (by omega)
/-! ### what the calls answer -/
def bitR (n m : Int) : Int × Int := if mayB n m = true then ((needN n : Int) * m, 0) else (0, 1)
def allR (n m : Int) : Int × List Int := if mayB n m = true then (0, natL (allV n m)) else (1, [])
def lostR (n m : Int) : Int × List Int := if mayB n m = true then (0, natL (lostV n m)) else (1, [])
def eachR (n m : Int) : Int × List Int := if mayB n m = true then (0, natL (eachV n m)) else (1, [])
def shareR (p n m : Int) : Int × List Int := if mayB n m = true ∧ p ≤ n then (0, natL (p.toNat * eachV n m)) else (1, [])
def leadR' (i m : Int) (l : List Int) : Int × List Int :=
  if 1 ≤ m ∧ m ≤ 64 then (if sumL l < 9223372036854775808 then (if sumL l = 0 then (10, []) else if 0 ≤ i ∧ i < l.length then shareR (l.getD i.toNat 0) (sumL l) m else (3, [])) else (11, [])) else (1, [])
def pickR' (i m : Int) (l : List Int) : Int × List Int :=
  if 1 ≤ m ∧ m ≤ 64 then (if sumL l < 9223372036854775808 then (if sumL l = 0 then (10, []) else if (l.length : Int) * sumL l < 9223372036854775808 then (if 0 ≤ i ∧ i < l.length then shareR ((l.length : Int) * l.getD i.toNat 0) ((l.length : Int) * sumL l) m else (3, [])) else (11, [])) else (11, [])) else (1, [])
theorem shareR_ok {p n m : Int} (h : mayB n m = true) (hp : p ≤ n) : shareR p n m = (0, natL (p.toNat * eachV n m)) := if_pos ⟨h, hp⟩
theorem may_len (r : Int × List Int) {n m : Int} {x : Nat} (hx : mayB n m = true → x ≤ allV n m) (h : r = if mayB n m = true then (0, natL x) else (1, [])) : r.2.length ≤ 127 := by
  subst h
  split
  · rename_i h; exact odd_len h (hx h)
  · show 0 ≤ 127; omega
theorem allR_len (n m : Int) : (allR n m).2.length ≤ 127 := may_len _ (fun _ => Nat.le_refl _) rfl
theorem lostR_len (n m : Int) : (lostR n m).2.length ≤ 127 := may_len _ lostV_le rfl
theorem eachR_len (n m : Int) : (eachR n m).2.length ≤ 127 := may_len _ eachV_le rfl
theorem shareR_len (p n m : Int) : (shareR p n m).2.length ≤ 127 := by
  unfold shareR
  split
  · rename_i h
    exact odd_len h.1 (part_le h.1 (by have := (mayB_iff.1 h.1).1; omega))
  · show 0 ≤ 127; omega
theorem leadR'_len (i m : Int) (l : List Int) : (leadR' i m l).2.length ≤ 127 := by
  unfold leadR'
  repeat' split
  all_goals first | exact shareR_len _ _ _ | (show 0 ≤ 127; omega)
theorem pickR'_len (i m : Int) (l : List Int) : (pickR' i m l).2.length ≤ 127 := by
  unfold pickR'
  repeat' split
  all_goals first | exact shareR_len _ _ _ | (show 0 ≤ 127; omega)
theorem may_lim (r : Int × List Int) {c : Prop} [Decidable c] {x : Nat} {e : Int} (h : r = if c then (0, natL x) else (e, [])) : Lim r.2 := by
  subst h
  split
  · exact natL_lim _
  · exact Lim.nil
theorem eachR_lim (n m : Int) : Lim (eachR n m).2 := may_lim _ rfl
theorem shareR_lim (p n m : Int) : Lim (shareR p n m).2 := may_lim _ rfl
theorem sumL_at {l : List Int} (hz : ∀ z ∈ l, 0 ≤ z) {k : Nat} (hk : k < l.length) : l.getD k 0 ≤ sumL l := by
  have h1 := sumL_take hk
  have h2 := sumL_le hz (k + 1)
  have h3 : 0 ≤ sumL (l.take k) := sumL_nn fun z h => hz z (List.mem_of_mem_take h)
  omega
theorem mul_len {x y a b : Nat} (hx : (natL x).length ≤ a) (hy : (natL y).length ≤ b) : (natL (x * y)).length ≤ a + b := by
  rw [natL_len] at hx hy ⊢
  rw [Nat.pow_add]
  exact Nat.lt_of_le_of_lt (Nat.mul_le_mul_right _ (Nat.le_of_lt hx)) (Nat.mul_lt_mul_of_pos_left hy (Nat.pow_pos (by omega)))
/-- So many of a number; of none, too. -/
theorem powR_any {x k : Nat} (hx : (natL x).length ≤ 256) (hk : k ≤ 64) (k1 : 1 ≤ k) (h : (natL (x ^ k)).length ≤ 256) : powR (natL x) (k : Int) = (0, natL (x ^ k)) := by
  rcases Nat.eq_zero_or_pos x with h0 | h0
  · subst h0
    rw [Nat.zero_pow (by omega), natL_zero]
    unfold powR
    rw [if_pos ⟨rfl, by omega, by omega⟩, Int.toNat_natCast]
    unfold mulR
    have ha : allN (List.replicate k (rowOf [])) = true := List.all_eq_true.2 fun r hr' => by rw [List.eq_of_mem_replicate hr']; rfl
    rw [if_pos ha]
    have hz : ∀ k s, 1 ≤ k → mulGo s (List.replicate k (rowOf [])) = (0, []) := fun k => by
      induction k with
      | zero => intro s h; omega
      | succ k ih =>
        intro s _
        rw [List.replicate_succ, mulGo]
        rw [show valL (rowOf []).zs = 0 from rfl, Nat.mul_zero, natL_zero]
        rw [if_neg (by show ¬ 256 < 0; omega)]
        rcases Nat.eq_zero_or_pos k with h1 | h1
        · subst h1; rw [List.replicate_zero, mulGo, natL_zero]
        · exact ih 0 h1
    exact hz k 1 k1
  · have h1 := powR_ok (zs := natL x) (k := k) (rightN_natL hx) hk (by rw [natL_val]; exact h0) (by rw [natL_val]; exact h)
    rw [natL_val] at h1
    exact h1
end Go.Proofs.Ytaaahgkpicjnoaa
/-
  What walks over calls of stage 16 need of memory.
  Conditions: those that each theorem names.
-/
set_option maxRecDepth 100000
set_option linter.unusedVariables false
set_option linter.unusedSimpArgs false
namespace Go.Proofs.Ytaaahgkpicjnoaa
open Go.ChangeShapes Go.WideShapes Go.ChangeAt Go.RowKit
theorem rd_lit3 (w : World) (e : TypeId) (x y z : Int) : Rd .u64 (w.alloc (.cells #[.int .u64 x, .int .u64 y, .int .u64 z] e)) (w.alloc (.cells #[.int .u64 x, .int .u64 y, .int .u64 z] e)).heap.size (some ⟨w.heap.size, 0, none⟩) 3 [x, y, z] := by
  refine ⟨rfl, fun _ => ⟨w.heap.size, 0, rfl, (Blk.new w e #[.int .u64 x, .int .u64 y, .int .u64 z]).lt, fun j hj => ?_⟩⟩
  have h3 : j = 0 ∨ j = 1 ∨ j = 2 := by omega
  rcases h3 with rfl | rfl | rfl
  · exact (Blk.new w e #[.int .u64 x, .int .u64 y, .int .u64 z]).cell 0
  · exact (Blk.new w e #[.int .u64 x, .int .u64 y, .int .u64 z]).cell 1
  · exact (Blk.new w e #[.int .u64 x, .int .u64 y, .int .u64 z]).cell 2
theorem rd_lit1 {k : IntKind} (w : World) (e : TypeId) (x : Int) : Rd k (w.alloc (.cells #[.int k x] e)) (w.alloc (.cells #[.int k x] e)).heap.size (some ⟨w.heap.size, 0, none⟩) 1 [x] := (rd_one w e k x).mono (by simp)
end Go.Proofs.Ytaaahgkpicjnoaa
/-
  Arrays of integers by value: an element of one, its reading as an argument, and that reading given back behind a call.
  Conditions: the element's type is an integer type of one cell.
-/
set_option maxRecDepth 100000
namespace Go.Proofs.Ytaaahgkpicjnoaa
open Go.ChangeShapes Go.WideShapes Go.ChangeAt Go.RowKit

theorem run_index_arr {P : Program} {t e : TypeId} {n : Nat} {q : IntKind} {f : TypeInfo} (h : P.underlying t = some (.array n e)) (he : P.underlying e = some (.int q)) (hi : P.info? e = some f) (hs : f.size = 1)
    (cs : Array Value) (k : IntKind) (i : Int) (v : Value) (i0 : 0 ≤ i) (i1 : i < n) (hv : cs[i.toNat]? = some v) (w : World) : (Instr.index t (.agg cs) (.int k i)).run P w = .ok v w := by
  simp [Instr.index, run_underlying h, asIntOf, i0, i1, part, isAgg, run_underlying he, sizeOf, typeInfo, hi, hs, hv, go_sem]

theorem run_eqItems_ints {P : Program} {e : TypeId} {q : IntKind} {f : TypeInfo} (d : Nat) (he : P.underlying e = some (.int q)) (hi : P.info? e = some f) (hs : f.size = 1) (w : World) (zs ys : List Int) :
    ∀ is : List Nat, (∀ i ∈ is, i < zs.length ∧ i < ys.length) → (Op.eqItems (d + 1) e 1 (zs.map (Value.int q)).toArray (ys.map (Value.int q)).toArray is).run P w = .ok (is.all fun i => zs.getD i 0 == ys.getD i 0) w
  | [], _ => by simp [Op.eqItems]
  | i :: is, h => by
    obtain ⟨h1, h2⟩ := h i (by simp)
    have ih := run_eqItems_ints d he hi hs w zs ys is fun j hj => h j (by simp [hj])
    have p1 : (part e (zs.map (Value.int q)).toArray (i * 1)).run P w = .ok (.int q (zs.getD i 0)) w := by
      simp [part, isAgg, run_underlying he, h1, go_sem]
    have p2 : (part e (ys.map (Value.int q)).toArray (i * 1)).run P w = .ok (.int q (ys.getD i 0)) w := by
      simp [part, isAgg, run_underlying he, h2, go_sem]
    simp only [Op.eqItems, Sem.run_bind, p1, p2, Result.andThen_ok, run_equalIn_int w d e q q _ _ he]
    by_cases hz : zs.getD i 0 = ys.getD i 0
    · rw [beq_iff_eq.2 hz]
      simp only [Bool.not_true, Bool.false_eq_true, if_false, List.all_cons, beq_iff_eq.2 hz, Bool.true_and]
      exact ih
    · rw [beq_eq_false_iff_ne.2 hz]
      simp only [Bool.not_false, if_true, List.all_cons, beq_eq_false_iff_ne.2 hz, Bool.false_and, Sem.run_pure]

/-- Two arrays of integers are compared number by number. -/
theorem run_equal_ints {P : Program} {t e : TypeId} {n : Nat} {q : IntKind} {f : TypeInfo} (h : P.underlying t = some (.array n e)) (he : P.underlying e = some (.int q)) (hi : P.info? e = some f) (hs : f.size = 1) (hc : P.cellsOf e = 1)
    (zs ys : List Int) (hz : zs.length = n) (hy : ys.length = n) (w : World) :
    (Op.equalIn 10000 t (.agg (zs.map (Value.int q)).toArray) (.agg (ys.map (Value.int q)).toArray)).run P w = .ok (decide (zs = ys)) w := by
  rw [run_equalIn_array w 9999 _ _ h hi, hc, run_eqItems_ints 9998 he hi hs w zs ys _ (fun i hi' => by simp at hi'; omega)]
  congr 1
  rw [Bool.eq_iff_iff, List.all_eq_true, decide_eq_true_iff]
  constructor
  · intro ha
    apply List.ext_getElem?
    intro i
    by_cases hi' : i < n
    · have := ha i (by simpa using hi')
      simp only [beq_iff_eq] at this
      rw [List.getElem?_eq_getElem (by omega), List.getElem?_eq_getElem (by omega)]
      simpa [List.getD, List.getElem?_eq_getElem (show i < zs.length by omega), List.getElem?_eq_getElem (show i < ys.length by omega)] using this
    · rw [List.getElem?_eq_none (by omega), List.getElem?_eq_none (by omega)]
  · rintro rfl i _
    simp

theorem list_of {α : Type} (n : Nat) {Q : Nat → α → Prop} (h : ∀ i, i < n → ∃ z, Q i z) : ∃ zs : List α, zs.length = n ∧ ∀ i, i < n → ∃ z, zs[i]? = some z ∧ Q i z := by
  induction n with
  | zero => exact ⟨[], rfl, fun i hi => by omega⟩
  | succ n ih =>
    obtain ⟨zs, hl, hz⟩ := ih fun i hi => h i (by omega)
    obtain ⟨z, hq⟩ := h n (by omega)
    refine ⟨zs ++ [z], by simp [hl], fun i hi => ?_⟩
    by_cases hi' : i < n
    · obtain ⟨y, e, hy⟩ := hz i hi'
      exact ⟨y, by rw [List.getElem?_append_left (by omega), e], hy⟩
    · obtain rfl : i = n := by omega
      exact ⟨z, by rw [List.getElem?_append_right (by omega)]; simp [hl], hq⟩

section
variable {H : Type} {enc : TypeId × Value → H} {P : Program} {w w' : World} {base : Nat} {spare : Nat → Bool} {held : Bool}

/-- The argument, opened: its numbers. -/
theorem open_arr_ints {r : Reach} {b0 n : Nat} {t e : TypeId} {q : IntKind} {v : Value} {d : DataW H} {p : List MemPlace} (ht : P.underlying t = some (.array n e)) (he : P.underlying e = some (.int q)) (hc : P.cellsOf e = 1) (hC : P.cellsOf t = n)
    (hv : Value.okWide P w r b0 t v) (h : DataW.Trod enc P w base spare held t v d p) :
    ∃ zs : List Int, zs.length = n ∧ v = .agg (zs.map (Value.int q)).toArray ∧ d = .agg (zs.map fun z => .lit (.int q z)) ∧ p = [] ∧ ∀ z ∈ zs, (Lit.int q z).wf = true := by
  have hv' : ∃ cs : Array Value, v = .agg cs := by
    simp only [Value.okWide, ht] at hv
    obtain ⟨cs, h1, _⟩ := hv
    exact ⟨cs, h1⟩
  obtain ⟨cs, rfl⟩ := hv'
  obtain ⟨fuel, hf⟩ := h
  obtain ⟨xs, m, _, hx, hl, hxl, hat⟩ := DataW.trod_array ht hf
  rw [hC] at hl
  rw [hc] at hat
  have hl' : cs.size = n := by simpa [Value.cells] using hl
  have hz : ∀ i (hi : i < n), ∃ z : Int, cs[i]? = some (.int q z) ∧ xs[i]? = some (.lit (.int q z), []) ∧ (Lit.int q z).wf = true := by
    intro i hi
    have h1 := hat i hi
    have e1 : List.take 1 (List.drop (i * 1) (Value.cells (.agg cs)).toList) = [cs[i]'(by omega)] := by
      simp only [Value.cells, Nat.mul_one]
      rw [List.drop_eq_getElem_cons (by simpa using (show i < cs.size by omega))]
      simp
    rw [e1] at h1
    have hxi : xs[i]? = some (xs[i]'(by omega)) := List.getElem?_eq_getElem (by omega)
    rw [hxi] at h1
    obtain ⟨a, ea, ex, wa⟩ := DataW.trod_int he h1
    refine ⟨a, ?_, ?_, wa⟩
    · rw [Array.getElem?_eq_getElem (by omega)]
      simpa using ea
    · rw [hxi, ex]
  obtain ⟨zs, hzl, hzs⟩ := list_of n hz
  have hcs : cs = (zs.map (Value.int q)).toArray := by
    apply Array.ext_getElem?
    intro i
    by_cases hi : i < n
    · obtain ⟨z, e1, e2, _⟩ := hzs i hi
      rw [e2, List.getElem?_toArray, List.getElem?_map, e1]
      rfl
    · rw [Array.getElem?_eq_none (by omega), Array.getElem?_eq_none (by simp; omega)]
  have hxs : xs = zs.map fun z => (DataW.lit (.int q z), []) := by
    apply List.ext_getElem?
    intro i
    by_cases hi : i < n
    · obtain ⟨z, e1, _, e3, _⟩ := hzs i hi
      rw [e3, List.getElem?_map, e1]
      rfl
    · rw [List.getElem?_eq_none (by omega), List.getElem?_eq_none (by simp; omega)]
  refine ⟨zs, hzl, by rw [hcs], ?_, ?_, ?_⟩
  · have := congrArg Prod.fst hx
    simp only at this
    rw [this, hxs]
    simp [Function.comp_def]
  · have := congrArg Prod.snd hx
    simp only at this
    rw [this, hxs]
    simp [List.flatMap_map]
  · intro z hz'
    obtain ⟨i, hi, e⟩ := List.mem_iff_getElem.1 hz'
    obtain ⟨z', e1, _, _, e4⟩ := hzs i (by omega)
    rw [List.getElem?_eq_getElem hi, e] at e1
    injection e1 with e1
    rw [e1]
    exact e4

/-- The argument, shut again, in whatever world. -/
theorem shut_arr_ints {n : Nat} {t e : TypeId} {q : IntKind} (ht : P.underlying t = some (.array n e)) (he : P.underlying e = some (.int q)) (hc : P.cellsOf e = 1) (hC : P.cellsOf t = n)
    {zs : List Int} (hl : zs.length = n) (hw : ∀ z ∈ zs, (Lit.int q z).wf = true) : DataW.Trod enc P w base spare held t (.agg (zs.map (Value.int q)).toArray) (.agg (zs.map fun z => .lit (.int q z))) [] := by
  refine ⟨2, ?_⟩
  have key : (List.range n).mapM (fun i => DataW.trod enc P w base spare held 1 e (List.take 1 (List.drop (i * 1) (Value.cells (.agg (zs.map (Value.int q)).toArray)).toList))) = some ((List.range n).map fun i => (DataW.lit (.int q (zs.getD i 0)), ([] : List MemPlace))) := by
    refine mapM_range_of n fun i hi => ?_
    have hi' : i < zs.length := by rw [hl]; exact hi
    have e1 : List.take 1 (List.drop (i * 1) (Value.cells (.agg (zs.map (Value.int q)).toArray)).toList) = [.int q zs[i]] := by
      simp only [Value.cells, Nat.mul_one]
      rw [List.drop_eq_getElem_cons (by simpa using hi')]
      simp
    rw [e1]
    simp [DataW.trod, he, hw _ (List.getElem_mem hi'), hi']
  have hzs : (List.range n).map (fun i => zs.getD i 0) = zs := by
    apply List.ext_getElem?
    intro i
    by_cases hi : i < n
    · simp [hi, hl]
    · rw [List.getElem?_eq_none (by simp; omega), List.getElem?_eq_none (by omega)]
  unfold DataW.trod
  rw [ht]
  simp only [hc, hC]
  rw [if_pos (by simp [Value.cells, hl]), key]
  simp only [Option.map_some, List.map_map, Function.comp_def, Option.some.injEq, Prod.mk.injEq, DataW.agg.injEq]
  refine ⟨?_, by simp [List.flatMap_map]⟩
  have := congrArg (List.map fun z => DataW.lit (H := H) (.int q z)) hzs
  rw [List.map_map] at this
  exact this
end
end Go.Proofs.Ytaaahgkpicjnoaa
/-
  What each function of package word returns, and what it leaves of memory, for all arguments that its types let in.
  Conditions: the arguments lie in their types' ranges.
-/
set_option maxRecDepth 100000
namespace Go.Proofs.Ytaaahgkpicjnoaa
open Go.ChangeShapes Go.WideShapes Go.ChangeAt Go.RowKit
set_option linter.unusedVariables false

theorem ret_int {k : IntKind} {a b : Int} (h : a = b) : Ending.returned (.int k a) = .returned (.int k b) := by rw [h]




def put4 (x : Int) : Array Value := #[.int .u8 (x / 16777216), .int .u8 (x / 65536 % 256), .int .u8 (x / 256 % 256), .int .u8 (x % 256)]
def put8 (x : Int) : Array Value := #[.int .u8 (x / 256 / 256 / 256 / 256 / 256 / 256 / 256), .int .u8 (x / 256 / 256 / 256 / 256 / 256 / 256 % 256), .int .u8 (x / 256 / 256 / 256 / 256 / 256 % 256),
  .int .u8 (x / 256 / 256 / 256 / 256 % 256), .int .u8 (x / 256 / 256 / 256 % 256), .int .u8 (x / 256 / 256 % 256), .int .u8 (x / 256 % 256), .int .u8 (x % 256)]
def get8 (a b c d a' b' c' d' : Int) : Int := ((((((a * 256 + b) * 256 + c) * 256 + d) * 256 + a') * 256 + b') * 256 + c') * 256 + d'





theorem bits_c (X : Nat) (h1 : X < 18446744073709551616) (w : World) :
    Calls Try.prog 49 #[.int .u64 X] w fun e w' => e = .returned (.int .i64 (Wd.bitsL X : Nat)) ∧ w = w' := by
  have hb := Wd.bitsL_le X h1
  obtain ⟨B, hB⟩ : ∃ B, Wd.bitsL X = B := ⟨_, rfl⟩
  have HB := Lib.hid hB
  rw [hB] at hb ⊢
  clear hB
  go_enter Try.func49, Try.ntmps49
  go_wp2
  go_loop [0, 3] (fun x n => ∃ y k : Nat, y < 18446744073709551616 ∧ k ≤ 64 ∧ Hid (Wd.bitsL y + k = B) ∧ x = .int .u64 y ∧ n = .int .i64 k) (fun x _ => (intOf x).toNat)
  case atStart => exact ⟨X, 0, h1, by omega, HB, rfl, rfl⟩
  case round =>
    obtain ⟨y, k, hy, hk, HR, rfl, rfl⟩ := hrel
    by_cases hz : y = 0
    · subst hz
      go_wp2
      go_ret
      refine ⟨ret_int ?_, rfl⟩
      have := HR.out
      rw [Wd.bitsL_zero] at this
      omega
    · have h0 : ((y : Int) != 0) = true := by rw [bne_iff_ne]; omega
      have hle : Wd.bitsL y + k ≤ 64 := by rw [HR.out]; exact hb
      have hs := Wd.bitsL_step y (by omega)
      have hk1 : k ≤ 63 := by omega
      have hy0 : 0 < y := by omega
      have HS := Lib.hid hs
      clear hs hle hz
      go_wp2
      go_round
      case rel => exact ⟨y / 2, k + 1, by omega, by omega, by have := HR.out; rw [HS.out] at this; show _ = _; omega, by go_num, by go_num⟩
      case measure => simp [intOf]; omega

theorem bits_i (x : Int) (h0 : 0 ≤ x) (h1 : x < 18446744073709551616) (w : World) :
    Calls Try.prog 49 #[.int .u64 x] w fun e w' => e = .returned (.int .i64 (Wd.bitsL x.toNat : Nat)) ∧ w = w' := by
  obtain ⟨X, rfl⟩ := Int.eq_ofNat_of_zero_le h0
  rw [Int.toNat_natCast]
  exact bits_c X (by omega) w

end Go.Proofs.Ytaaahgkpicjnoaa
/-
  What the landed uniform's Need returns, and that memory is left as it was.
  Conditions: the number lies in its type's range.
-/
set_option maxRecDepth 100000
set_option linter.unusedSimpArgs false
set_option linter.unusedVariables false
namespace Go.Proofs.Ytaaahgkpicjnoaa
open Go.ChangeShapes Go.WideShapes Go.ChangeAt Go.RowKit
theorem q8need_c (n : Int) (n0 : 0 ≤ n) (n1 : n < 18446744073709551616) (w : World) : Calls Try.prog 33 #[.int .u64 n] w fun e w' => e = .returned (.int .i64 (needN n : Nat)) ∧ w = w' := by
  by_cases h : n = 0
  · subst h
    go_enter Try.func33, Try.ntmps33
    go_wp2
    go_ret
    exact ⟨rfl, rfl⟩
  · have HB := Lib.hid (fun W => bits_i (n - 1) (by omega) (by omega) W)
    have hR : needN n = Wd.bitsL (n - 1).toNat := by unfold needN; rw [if_neg h]
    rw [hR]
    obtain ⟨B, hB⟩ : ∃ B, Wd.bitsL (n - 1).toNat = B := ⟨_, rfl⟩
    rw [hB] at HB ⊢
    have t1 : (n == 0) = false := by rw [beq_eq_false_iff_ne]; exact h
    have e1 : IntKind.u64.wrap (n - 1) = n - 1 := by rw [IntKind.wrap_u64]; omega
    clear h hR hB
    go_enter Try.func33, Try.ntmps33
    go_wp2_with (go_at_call 49; (with_reducible refine (HB.out _).mono ?_); rintro e _ ⟨rfl, rfl⟩)
    go_ret
    exact ⟨rfl, rfl⟩
end Go.Proofs.Ytaaahgkpicjnoaa
/-
  What the program's safe returns: sums, differences and products below 2^63, or refused, over the library's carries.
  Conditions: the numbers lie in their type's range; the slices read as lists.
-/
set_option maxRecDepth 100000
set_option linter.unusedSimpArgs false
namespace Go.Proofs.Ytaaahgkpicjnoaa
open Go.ChangeShapes Go.WideShapes Go.ChangeAt Go.RowKit
set_option linter.unusedVariables false
theorem bits_lo {x : Int} (x0 : 0 ≤ x) (x1 : x < 18446744073709551616) : IntKind.u64.wrap x = x := by rw [IntKind.wrap_u64]; omega
theorem mask_lo (a : Int) (a0 : 0 ≤ a) (a1 : a < 18446744073709551616) : bits .and .u64 a 4294967295 = a % 4294967296 := by
  obtain ⟨n, rfl⟩ := Int.eq_ofNat_of_zero_le a0
  have h := bits_and_u64_nat n 4294967295 (by omega) (by omega)
  rw [Nat.and_two_pow_sub_one_eq_mod n 32] at h
  exact h
/-- bits.Add64 with no carry: the model's own entry, run. -/
theorem ext_add (a b : Int) (a0 : 0 ≤ a) (b0 : 0 ≤ b) (w : World) : (callFunc 76 #[.int .u64 a, .int .u64 b, .int .u64 0]).run Try.prog w = .ok (.value (.tuple #[.int .u64 ((a + b) % 18446744073709551616), .int .u64 ((a + b) / 18446744073709551616)])) w := by
  rw [run_callFunc_extern Try.func76 (by kernel_rfl) (by kernel_rfl) (by kernel_rfl) (e := add64Entry) (by kernel_rfl), run_add64 a b 0 a0 b0 (by omega) (by omega)]
  simp only [Result.andThen, Int.add_zero]
/-- bits.Mul64: the library's own text, walked. -/
theorem mul_c (a b : Int) (a0 : 0 ≤ a) (a1 : a < 18446744073709551616) (b0 : 0 ≤ b) (b1 : b < 18446744073709551616) (w : World) : Calls Try.prog 70 #[.int .u64 a, .int .u64 b] w fun e w' => e = .returned (.tuple #[.int .u64 (a * b / 18446744073709551616), .int .u64 (a * b % 18446744073709551616)]) ∧ w = w' := by
  obtain ⟨x, hx⟩ := Int.eq_ofNat_of_zero_le a0
  obtain ⟨y, hy⟩ := Int.eq_ofNat_of_zero_le b0
  obtain ⟨g1, g2, g3, g4⟩ := Lib.mul64_hi x y (by omega) (by omega)
  have p1 := Lib.half_mul_le (a := x / 4294967296) (b := y / 4294967296) (by omega) (by omega)
  have p2 := Lib.half_mul_le (a := x / 4294967296) (b := y % 4294967296) (by omega) (by omega)
  have p3 := Lib.half_mul_le (a := x % 4294967296) (b := y / 4294967296) (by omega) (by omega)
  have p4 := Lib.half_mul_le (a := x % 4294967296) (b := y % 4294967296) (by omega) (by omega)
  have q1 : a / 4294967296 * (b / 4294967296) = ((x / 4294967296 * (y / 4294967296) : Nat) : Int) := by rw [hx, hy, Int.natCast_mul, Int.natCast_ediv, Int.natCast_ediv]; rfl
  have q2 : a / 4294967296 * (b % 4294967296) = ((x / 4294967296 * (y % 4294967296) : Nat) : Int) := by rw [hx, hy, Int.natCast_mul, Int.natCast_ediv, Int.natCast_emod]; rfl
  have q3 : a % 4294967296 * (b / 4294967296) = ((x % 4294967296 * (y / 4294967296) : Nat) : Int) := by rw [hx, hy, Int.natCast_mul, Int.natCast_emod, Int.natCast_ediv]; rfl
  have q4 : a % 4294967296 * (b % 4294967296) = ((x % 4294967296 * (y % 4294967296) : Nat) : Int) := by rw [hx, hy, Int.natCast_mul, Int.natCast_emod, Int.natCast_emod]; rfl
  have q5 : a * b = ((x * y : Nat) : Int) := by rw [hx, hy, Int.natCast_mul]
  generalize x / 4294967296 * (y / 4294967296) = P1 at *
  generalize x / 4294967296 * (y % 4294967296) = P2 at *
  generalize x % 4294967296 * (y / 4294967296) = P3 at *
  generalize x % 4294967296 * (y % 4294967296) = P4 at *
  generalize x * y = P5 at *
  have HQ := Lib.hid (And.intro q1 (And.intro q2 (And.intro q3 (And.intro q4 q5))))
  have m1 := mask_lo a a0 a1
  have m2 := mask_lo b b0 b1
  have HG := Lib.hid (And.intro g1 (And.intro g2 (And.intro g3 g4)))
  have HP := Lib.hid (And.intro p1 (And.intro p2 (And.intro p3 p4)))
  clear q1 q2 q3 q4 q5 g1 g2 g3 g4 p1 p2 p3 p4 hx hy
  go_enter Try.func70, Try.ntmps70
  go_wp2
  obtain ⟨q1, q2, q3, q4, q5⟩ := HQ.out
  obtain ⟨g1, g2, g3, g4⟩ := HG.out
  obtain ⟨p1, p2, p3, p4⟩ := HP.out
  clear HQ HG HP
  have w1 : IntKind.u64.wrap (P1 : Int) = P1 := bits_lo (by omega) (by omega)
  have w2 : IntKind.u64.wrap (P2 : Int) = P2 := bits_lo (by omega) (by omega)
  have w3 : IntKind.u64.wrap (P3 : Int) = P3 := bits_lo (by omega) (by omega)
  have w4 : IntKind.u64.wrap (P4 : Int) = P4 := bits_lo (by omega) (by omega)
  have w5 : IntKind.u64.wrap (P5 : Int) = P5 % 18446744073709551616 := IntKind.wrap_u64 _
  have wT : IntKind.u64.wrap ((P2 : Int) + P4 / 4294967296) = P2 + P4 / 4294967296 := bits_lo (by omega) (by omega)
  have mT := mask_lo ((P2 : Int) + P4 / 4294967296) (by omega) (by omega)
  have wW : IntKind.u64.wrap (((P2 : Int) + P4 / 4294967296) % 4294967296 + P3) = ((P2 : Int) + P4 / 4294967296) % 4294967296 + P3 := bits_lo (by omega) (by omega)
  have wH : IntKind.u64.wrap ((P1 : Int) + (P2 + P4 / 4294967296) / 4294967296) = (P1 : Int) + (P2 + P4 / 4294967296) / 4294967296 := bits_lo (by omega) (by omega)
  have wI : IntKind.u64.wrap ((P1 : Int) + (P2 + P4 / 4294967296) / 4294967296 + (((P2 : Int) + P4 / 4294967296) % 4294967296 + P3) / 4294967296) = P5 / 18446744073709551616 := by rw [bits_lo (by omega) (by omega)]; omega
  simp only [q1, q2, q3, q4, q5, w1, w2, w3, w4, w5, wT, mT, wW, wH, wI]
  go_ret2
  exact ⟨by first | rfl | (rw [q5]), rfl⟩
theorem q9fits_c (a : Int) (a0 : 0 ≤ a) (a1 : a < 18446744073709551616) (w : World) : Calls Try.prog 48 #[.int .u64 a] w fun e w' => e = .returned (.bool (decide (a < 9223372036854775808))) ∧ w = w' := by
  go_enter Try.func48, Try.ntmps48
  go_wp2
  go_ret
  exact ⟨rfl, rfl⟩
theorem q9bel_ok (l : Int) (l0 : 0 ≤ l) (l1 : l < 9223372036854775808) (w : World) : Calls Try.prog 71 #[.int .u64 0, .int .u64 l] w fun e w' => e = .returned (.tuple #[.int .u64 l, .bool true]) ∧ w = w' := by
  have hf := q9fits_c l l0 (by omega)
  rw [decide_eq_true l1] at hf
  have HF := Lib.hid hf
  clear hf
  go_enter Try.func71, Try.ntmps71
  go_wp2_with (first
    | (go_at_call 48; (with_reducible refine (HF.out _).mono ?_); rintro e _ ⟨rfl, rfl⟩))
  go_ret2
  exact ⟨rfl, rfl⟩
theorem q9bel_no (h l : Int) (h0 : 0 ≤ h) (h1 : h < 18446744073709551616) (l0 : 0 ≤ l) (l1 : l < 18446744073709551616) (hno : h = 0 → ¬ l < 9223372036854775808) (w : World) : Calls Try.prog 71 #[.int .u64 h, .int .u64 l] w fun e w' => e = .returned (.tuple #[.int .u64 0, .bool false]) ∧ w = w' := by
  have hf := q9fits_c l l0 l1
  by_cases hz : h = 0
  · subst hz
    rw [decide_eq_false (hno rfl)] at hf
    have HF := Lib.hid hf
    clear hf hno
    go_enter Try.func71, Try.ntmps71
    go_wp2_with (first
      | (go_at_call 48; (with_reducible refine (HF.out _).mono ?_); rintro e _ ⟨rfl, rfl⟩))
    go_ret2
    exact ⟨rfl, rfl⟩
  · have tz : (h == 0) = false := by rw [beq_eq_false_iff_ne]; exact hz
    clear hf hno
    go_enter Try.func71, Try.ntmps71
    go_wp2
    go_ret2
    exact ⟨rfl, rfl⟩
theorem q9add_c (a b : Int) (a0 : 0 ≤ a) (a1 : a < 18446744073709551616) (b0 : 0 ≤ b) (b1 : b < 18446744073709551616) (w : World) : Calls Try.prog 69 #[.int .u64 a, .int .u64 b] w fun e w' => e = .returned (.tuple #[.int .u64 (addV a b), .bool (addO a b)]) ∧ w = w' := by
  have hx := ext_add a b a0 b0
  obtain ⟨s, hs⟩ : ∃ s, (a + b) % 18446744073709551616 = s := ⟨_, rfl⟩
  obtain ⟨c, hc⟩ : ∃ c, (a + b) / 18446744073709551616 = c := ⟨_, rfl⟩
  rw [hs, hc] at hx
  by_cases h : a + b < 9223372036854775808
  · obtain rfl : c = 0 := by omega
    obtain rfl : s = a + b := by omega
    have hb := q9bel_ok (a + b) (by omega) h
    rw [(addV_ok h).1, (addV_ok h).2]
    have HB := Lib.hid hb
    clear hb hs hc h
    go_enter Try.func69, Try.ntmps69
    go_wp2_with (first
      | (go_at_call 71; (with_reducible refine (HB.out _).mono ?_); rintro e _ ⟨rfl, rfl⟩)
      | (simp only [hx]))
    go_ret2
    exact ⟨rfl, rfl⟩
  · have hb := q9bel_no c s (by omega) (by omega) (by omega) (by omega) (by omega)
    rw [(addV_no h).1, (addV_no h).2]
    have HB := Lib.hid hb
    clear hb hs hc h
    go_enter Try.func69, Try.ntmps69
    go_wp2_with (first
      | (go_at_call 71; (with_reducible refine (HB.out _).mono ?_); rintro e _ ⟨rfl, rfl⟩)
      | (simp only [hx]))
    go_ret2
    exact ⟨rfl, rfl⟩
theorem q9mul_c (a b : Int) (a0 : 0 ≤ a) (a1 : a < 18446744073709551616) (b0 : 0 ≤ b) (b1 : b < 18446744073709551616) (w : World) : Calls Try.prog 63 #[.int .u64 a, .int .u64 b] w fun e w' => e = .returned (.tuple #[.int .u64 (mulV a b), .bool (mulO a b)]) ∧ w = w' := by
  have hx := mul_c a b a0 a1 b0 b1
  have hm := Int.mul_nonneg a0 b0
  have hl : a * b ≤ 18446744073709551615 * 18446744073709551615 := Int.mul_le_mul (by omega) (by omega) b0 (by omega)
  by_cases h : a * b < 9223372036854775808
  · rw [(mulV_ok h).1, (mulV_ok h).2]
    generalize a * b = m at *
    obtain ⟨s, hs⟩ : ∃ s, m % 18446744073709551616 = s := ⟨_, rfl⟩
    obtain ⟨c, hc⟩ : ∃ c, m / 18446744073709551616 = c := ⟨_, rfl⟩
    rw [hs, hc] at hx
    obtain rfl : c = 0 := by omega
    obtain rfl : s = m := by omega
    have hb := q9bel_ok s (by omega) h
    have HB := Lib.hid hb
    have HX := Lib.hid hx
    clear hb hx hs hc h hm hl
    go_enter Try.func63, Try.ntmps63
    go_wp2_with (first
      | (go_at_call 71; (with_reducible refine (HB.out _).mono ?_); rintro e _ ⟨rfl, rfl⟩)
      | (go_at_call 70; (with_reducible refine (HX.out _).mono ?_); rintro e _ ⟨rfl, rfl⟩))
    go_ret2
    exact ⟨rfl, rfl⟩
  · rw [(mulV_no h).1, (mulV_no h).2]
    generalize a * b = m at *
    obtain ⟨s, hs⟩ : ∃ s, m % 18446744073709551616 = s := ⟨_, rfl⟩
    obtain ⟨c, hc⟩ : ∃ c, m / 18446744073709551616 = c := ⟨_, rfl⟩
    rw [hs, hc] at hx
    have hb := q9bel_no c s (by omega) (by omega) (by omega) (by omega) (by omega)
    have HB := Lib.hid hb
    have HX := Lib.hid hx
    clear hb hx hs hc h hm hl
    go_enter Try.func63, Try.ntmps63
    go_wp2_with (first
      | (go_at_call 71; (with_reducible refine (HB.out _).mono ?_); rintro e _ ⟨rfl, rfl⟩)
      | (go_at_call 70; (with_reducible refine (HX.out _).mono ?_); rintro e _ ⟨rfl, rfl⟩))
    go_ret2
    exact ⟨rfl, rfl⟩
set_option maxHeartbeats 2000000 in
theorem q9total_c (zs : List Int) (hz : ∀ z ∈ zs, 0 ≤ z ∧ z < 18446744073709551616) (A : Option Addr) (n c : Nat) (hn : n ≤ maxLen) (w : World) (hrd : Rd .u64 w w.heap.size A n zs) : Calls Try.prog 62 #[.slice A n c] w fun e w' => e = .returned (.tuple #[.int .u64 (sumV zs), .bool (sumO zs)]) ∧ w = w' := by
  have HR := Lib.hid hrd
  have HZ := Lib.hid hz
  have hlen := hrd.len
  have hnm : (n : Int) ≤ 9223372036854775807 := by unfold maxLen at hn; omega
  have hle := fun k => sumL_le (l := zs) (fun z h => (hz z h).1) k
  have hst := fun k h => sumL_take (l := zs) (k := k) h
  have htk : zs.take n = zs := by rw [← hlen, List.take_length]
  have HLE := Lib.hid hle
  have HST := Lib.hid hst
  clear hrd hz hn hle hst
  go_enter Try.func62, Try.ntmps62
  go_wp2
  go_loopw [4, 10] (fun s i wr => ∃ k : Nat, k ≤ n ∧ i = .int .i64 (k : Int) ∧ s = .int .u64 (sumL (zs.take k)) ∧ 0 ≤ sumL (zs.take k) ∧ sumL (zs.take k) < 9223372036854775808 ∧ wr = w) (fun _ i _ => n - (intOf i).toNat)
  case atStart => exact ⟨0, by omega, rfl, rfl, Int.le_refl _, (by show (0 : Int) < 9223372036854775808; omega), by first | rfl | trivial⟩
  case round =>
    obtain ⟨k, hk, rfl, rfl, h0, h1, rfl⟩ := hrel
    by_cases hlt : k < n
    · obtain ⟨b, off, rfl, _, hc⟩ := HR.out.at_ (by omega)
      have hck := hc k hlt
      have hzk := HZ.out _ (getD_in (l := zs) (k := k) (by omega))
      have hsk := HST.out k (by omega)
      have hl1 := HLE.out (k + 1)
      have HSK := Lib.hid hsk
      obtain ⟨z, hzz⟩ : ∃ z, zs.getD k 0 = z := ⟨_, rfl⟩
      obtain ⟨S, hS⟩ : ∃ S, sumL (zs.take k) = S := ⟨_, rfl⟩
      obtain ⟨S1, hS1⟩ : ∃ S, sumL (zs.take (k + 1)) = S := ⟨_, rfl⟩
      rw [hzz, hS] at HSK
      rw [hzz] at hck hzk hsk
      rw [hS] at h0 h1 hsk ⊢
      rw [hS1] at hl1 hsk
      have hadd := fun W => q9add_c S z h0 (by omega) hzk.1 hzk.2 W
      by_cases hs : S + z < 9223372036854775808
      · rw [(addV_ok hs).1, (addV_ok hs).2] at hadd
        have HADD := Lib.hid hadd
        clear hadd hc hzz hS hS1 hsk hl1
        go_wp2_with (first
          | (go_at_call 69; (with_reducible refine (HADD.out _).mono ?_); rintro e _ ⟨rfl, rfl⟩))
        go_roundw
        case rel => exact ⟨k + 1, by omega, by go_num, by rw [HSK.out], by rw [HSK.out]; omega, by rw [HSK.out]; exact hs, by first | rfl | trivial⟩
        case measure => simp [intOf]; omega
      · rw [(addV_no hs).1, (addV_no hs).2] at hadd
        have hno : ¬ sumL zs < 9223372036854775808 := by omega
        have HADD := Lib.hid hadd
        have HNO := Lib.hid (sumV_no hno)
        clear hadd hc hzz hS hS1 hsk hl1 hno
        go_wp2_with (first
          | (go_at_call 69; (with_reducible refine (HADD.out _).mono ?_); rintro e _ ⟨rfl, rfl⟩))
        go_ret2
        exact ⟨ret_pair (sym2 HNO.out), by first | rfl | trivial⟩
    · obtain rfl : k = n := by omega
      rw [htk] at h0 h1 ⊢
      have HOK := Lib.hid (sumV_ok h1)
      go_wp2
      go_ret2
      exact ⟨ret_pair (sym2 HOK.out), by first | rfl | trivial⟩
end Go.Proofs.Ytaaahgkpicjnoaa
/-
  What the program's nat returns: Right, trim, Of.
  Conditions: limbs lie in their type's range; the numbers have at most 100,000 limbs.
-/
set_option maxRecDepth 100000
set_option linter.unusedSimpArgs false
namespace Go.Proofs.Ytaaahgkpicjnoaa
open Go.ChangeShapes Go.WideShapes Go.ChangeAt Go.RowKit
set_option linter.unusedVariables false
theorem q10right_c (zs : List Int) (A : Option Addr) (n c : Nat) (hn : n ≤ maxLen) (w : World) (hrd : Rd .u32 w w.heap.size A n zs) : Calls Try.prog 50 #[.slice A n c] w fun e w' => e = .returned (.bool (rightN zs)) ∧ w = w' := by
  have hlen := hrd.len
  have hnm : (n : Int) ≤ 9223372036854775807 := by unfold maxLen at hn; omega
  by_cases hb : 256 < n
  · have HV := Lib.hid (rightN_big (l := zs) (by omega))
    have h1 : (256 : Int) < (n : Int) := by omega
    clear hrd hn
    go_enter Try.func50, Try.ntmps50
    go_wp2
    go_ret
    exact ⟨ret_boolN HV.out.symm, rfl⟩
  · have h1 : (n : Int) ≤ 256 := by omega
    rcases n with _ | m
    · obtain rfl := List.eq_nil_of_length_eq_zero hlen
      have HV := Lib.hid (show rightN [] = true from rfl)
      clear hrd hn hb
      go_enter Try.func50, Try.ntmps50
      go_wp2
      go_ret
      exact ⟨ret_boolN HV.out.symm, rfl⟩
    · obtain ⟨b, off, rfl, _, hc⟩ := hrd.at_ (by omega)
      have hcm := hc m (by omega)
      have hv := rightN_at (l := zs) (m := m) hlen (by omega)
      obtain ⟨z, hz⟩ : ∃ z, zs.getD m 0 = z := ⟨_, rfl⟩
      rw [hz] at hcm hv
      have HV := Lib.hid hv
      have m0 : ((m + 1 : Nat) : Int) = (m : Int) + 1 := by omega
      have m1 : ((m : Int) + 1 == 0) = false := by rw [beq_eq_false_iff_ne]; omega
      have m2 : (m : Int) ≤ 255 := by omega
      have m3 : (m : Int) + 1 - 1 = (m : Int) := by omega
      clear hrd hc hn hb hnm hlen hz hv
      go_enter Try.func50, Try.ntmps50
      go_wp2
      go_ret
      exact ⟨ret_boolN HV.out.symm, rfl⟩
theorem q10trim_c (zs : List Int) (A : Option Addr) (n c : Nat) (hn : n ≤ maxLen) (hnc : n ≤ c) (w : World) (hrd : Rd .u32 w w.heap.size A n zs) : Calls Try.prog 52 #[.slice A n c] w fun e w' => e = .returned (.slice A (trimL zs).length c) ∧ w = w' := by
  have HR := Lib.hid hrd
  have hlen := hrd.len
  have htk : zs.take n = zs := by rw [← hlen, List.take_length]
  have HTZ := Lib.hid (fun k h1 h2 => trimL_zero (l := zs) (k := k) h1 h2)
  have HTS := Lib.hid (fun k h1 h2 => trimL_stop (l := zs) (k := k) h1 h2)
  have hnm : (n : Int) ≤ 9223372036854775807 := by unfold maxLen at hn; omega
  have hnc' : (n : Int) ≤ (c : Int) := by omega
  clear hrd hn
  go_enter Try.func52, Try.ntmps52
  go_wp2
  go_loop [0] (fun v => ∃ k : Nat, k ≤ n ∧ v = .slice A k c ∧ trimL (zs.take k) = trimL zs) (fun v => match v with | .slice _ k _ => k | _ => 0)
  case atStart => exact ⟨n, Nat.le_refl _, rfl, by rw [htk]⟩
  case round =>
    obtain ⟨k, hk, rfl, htr⟩ := hrel
    have HTR := Lib.hid htr
    clear htr
    rcases k with _ | m
    · have HL : Hid ((trimL zs).length = 0) := Lib.hid (by rw [← HTR.out]; rfl)
      go_wp2
      go_ret
      exact ⟨ret_slice HL.out.symm, rfl⟩
    · obtain ⟨b, off, rfl, _, hc⟩ := HR.out.at_ (by omega)
      have hcm := hc m (by omega)
      have m0 : ((m + 1 : Nat) : Int) = (m : Int) + 1 := by omega
      have m3 : (m : Int) + 1 - 1 = (m : Int) := by omega
      have m2 : (m : Int) + 1 ≤ (n : Int) := by omega
      have m4 : (m : Int) ≤ (c : Int) := by omega
      by_cases hz : zs.getD m 0 = 0
      · rw [hz] at hcm
        have HN := Lib.hid ((HTZ.out m (by omega) hz).trans HTR.out)
        clear hc hz
        go_wp2
        go_round
        case rel => exact ⟨m, by omega, rfl, HN.out⟩
        case measure => simp
      · have hl := HTS.out m (by omega) hz
        rw [HTR.out] at hl
        have HL := Lib.hid hl
        obtain ⟨z, hzz⟩ : ∃ z, zs.getD m 0 = z := ⟨_, rfl⟩
        rw [hzz] at hcm hz
        have tz : (z == 0) = false := by rw [beq_eq_false_iff_ne]; exact hz
        clear hc hl hzz
        go_wp2
        go_ret
        exact ⟨ret_slice HL.out.symm, rfl⟩
theorem q10of_c (n : Int) (n0 : 0 ≤ n) (n1 : n < 18446744073709551616) (w : World) : Calls Try.prog 35 #[.int .u64 n] w (RetN w (natL n.toNat)) := by
  have hl : trimL [n % 4294967296, n / 4294967296] = natL n.toNat := by
    rw [trimL_eq (Lim.cons ⟨by omega, by omega⟩ (Lim.cons ⟨by omega, by omega⟩ Lim.nil))]
    congr 1
    show (n % 4294967296).toNat + 4294967296 * ((n / 4294967296).toNat + 4294967296 * 0) = n.toNat
    omega
  have e1 : IntKind.u32.wrap (n % 4294967296) = n % 4294967296 := by rw [IntKind.wrap_u32]; omega
  have e2 : IntKind.u32.wrap (n / 4294967296) = n / 4294967296 := by rw [IntKind.wrap_u32]; omega
  have ht : ∀ (A : Option Addr) W, Rd .u32 W W.heap.size A 2 [n % 4294967296, n / 4294967296] → Calls Try.prog 52 #[.slice A 2 2] W fun e w' => e = .returned (.slice A (trimL [n % 4294967296, n / 4294967296]).length 2) ∧ W = w' := fun A W h => q10trim_c _ A 2 2 (by simp [maxLen]) (Nat.le_refl _) W h
  have hrt := fun A W (h : Rd .u32 W W.heap.size A 2 [n % 4294967296, n / 4294967296]) => rd_trim h
  rw [hl] at ht hrt
  have hlt := trimL_len [n % 4294967296, n / 4294967296]
  rw [hl] at hlt
  have HLT := Lib.hid hlt
  obtain ⟨p, hp⟩ : ∃ p, n % 4294967296 = p := ⟨_, rfl⟩
  obtain ⟨q, hq⟩ : ∃ p, n / 4294967296 = p := ⟨_, rfl⟩
  obtain ⟨R, hR⟩ : ∃ p, natL n.toNat = p := ⟨_, rfl⟩
  rw [hp] at e1
  rw [hq] at e2
  rw [hp, hq, hR] at ht hrt
  rw [hR] at HLT ⊢
  have HT := Lib.hid ht
  have HRT := Lib.hid hrt
  have HRD := Lib.hid (rd_two32 w 46 p q)
  have HBL := Lib.hid ((Below.refl w.heap.size w).alloc (Nat.le_refl _) (.cells #[.int .u32 p, .int .u32 q] 46))
  clear ht hrt hl hlt hR
  go_enter Try.func35, Try.ntmps35
  go_wp2_with (first
    | (go_at_call 52; (with_reducible refine (HT.out _ _ HRD.out).mono ?_); rintro e _ ⟨rfl, rfl⟩))
  go_ret
  exact ⟨_, _, rfl, HLT.out, by simp [maxLen], HRT.out _ _ HRD.out, HBL.out⟩
end Go.Proofs.Ytaaahgkpicjnoaa
/-
  What the program's nat returns: plus.
  Conditions: limbs lie in their type's range; the numbers have at most 100,000 limbs.
-/
set_option maxRecDepth 100000
set_option linter.unusedSimpArgs false
namespace Go.Proofs.Ytaaahgkpicjnoaa
open Go.ChangeShapes Go.WideShapes Go.ChangeAt Go.RowKit
set_option linter.unusedVariables false
/-- Two numbers as slices, the longer one first, whose sum is V. -/
def TwoS (w : World) (V : Nat) (v0 v1 : Value) : Prop := ∃ (xs ys : List Int) (A B : Option Addr) (n m c d : Nat), v0 = .slice A n c ∧ v1 = .slice B m d ∧ Lim xs ∧ Lim ys ∧ Rd .u32 w w.heap.size A n xs ∧ Rd .u32 w w.heap.size B m ys ∧ n ≤ 100000 ∧ m ≤ n ∧ valL xs + valL ys = V
theorem getD_rep0 (n t : Nat) : (List.replicate n (0 : Int)).getD t 0 = 0 := by
  rw [List.getD_eq_getElem?_getD, List.getElem?_replicate]
  split <;> rfl
theorem set_past {l : List Int} {i : Nat} (p : Int) (h : ∀ t, i ≤ t → l.getD t 0 = 0) : ∀ t, i + 1 ≤ t → (l.set i p).getD t 0 = 0 := fun t ht => by
  rw [List.getD_eq_getElem?_getD, List.getElem?_set_ne (by omega), ← List.getD_eq_getElem?_getD]
  exact h t (by omega)
end Go.Proofs.Ytaaahgkpicjnoaa
/-
  What the program's nat returns: times.
  Conditions: limbs lie in their type's range; the numbers have at most 100,000 limbs.
-/
set_option maxRecDepth 100000
set_option linter.unusedSimpArgs false
namespace Go.Proofs.Ytaaahgkpicjnoaa
open Go.ChangeShapes Go.WideShapes Go.ChangeAt Go.RowKit
set_option linter.unusedVariables false
set_option maxHeartbeats 8000000 in
theorem q10times_c (xs ys : List Int) (hx : Lim xs) (hy : Lim ys) (A B : Option Addr) (n m c d : Nat) (hn : n ≤ 100000) (hm : m ≤ 100000) (w : World) (hra : Rd .u32 w w.heap.size A n xs) (hrb : Rd .u32 w w.heap.size B m ys) : Calls Try.prog 61 #[.slice A n c, .slice B m d] w (RetN w (natL (valL xs * valL ys))) := by
  have hlx := hra.len
  have hly := hrb.len
  have HRA := Lib.hid hra
  have HRB := Lib.hid hrb
  obtain ⟨i0, hi0, hz0, hz1, hzb⟩ := info_parts info_u32d
  have HXG := Lib.hid (fun i => hx.getD i)
  have HYG := Lib.hid (fun i => hy.getD i)
  have HYD := Lib.hid (fun i => valL_drop_getD ys i)
  have HXT := Lib.hid (fun i (h : i < n) => valL_take_succ xs i (by omega))
  have HDY := Lib.hid (show valL (ys.drop m) = 0 by rw [List.drop_eq_nil_of_le (by omega)]; rfl)
  have hyl := valL_lt hy
  have hxl := fun i => valL_lt (hx.take i)
  rw [hly] at hyl
  have HYL := Lib.hid hyl
  have HXL := Lib.hid hxl
  obtain ⟨L, hL⟩ : ∃ L, n + m = L := ⟨_, rfl⟩
  have hLI : (n : Int) + (m : Int) = (L : Int) := by omega
  have hL2 : (L : Int) ≤ 200000 := by omega
  have hmk : ∀ W, (Instr.makeSlice 25 (.int .i64 (L : Int)) (.int .i64 (L : Int))).run Try.prog W = .ok (.slice (some ⟨W.heap.size, 0, none⟩) L L) (W.alloc (.cells (intsA .u32 (List.replicate L 0)) 46)) := fun W => run_make_ints (P := Try.prog) 25 46 i0 .u32 Try.underlying25 hi0 hz0 hz1 .i64 .i64 L (by rw [hzb]; omega) (by omega) W
  have HS0 : Hid (NatS w w.heap.size (List.replicate L 0) (w.alloc (.cells (intsA .u32 (List.replicate L 0)) 46))) := Lib.hid ⟨Blk.new _ _ _, Nat.le_refl _, (Below.refl _ _).alloc (Nat.le_refl _) _⟩
  have hst : valL (List.replicate L 0) = valL (xs.take 0) * valL ys := by rw [valL_rep, List.take_zero]; show 0 = 0 * _; omega
  have HST := Lib.hid hst
  have htk : xs.take n = xs := by rw [← hlx, List.take_length]
  have HTK := Lib.hid htk
  obtain ⟨Y, hY⟩ : ∃ Y, valL ys = Y := ⟨_, rfl⟩
  rw [hY] at HYL HST ⊢
  have hY0 : valL (ys.drop 0) = Y := by rw [List.drop_zero]; exact hY
  have HY0 := Lib.hid hY0
  have nI : (n : Int) ≤ 100000 := by omega
  have mI : (m : Int) ≤ 100000 := by omega
  have HNM : Hid (n + m = L) := Lib.hid hL
  clear hra hrb hx hy hst hly hyl hxl hY hY0 hlx hi0 hz0 hz1 hzb htk
  go_enter Try.func61, Try.ntmps61
  go_wp2
  clear hmk hLI
  obtain ⟨g, hg⟩ : ∃ g, w.heap.size = g := ⟨_, rfl⟩
  have HS1 : Hid (NatS w g (List.replicate L 0) (w.alloc (.cells (intsA .u32 (List.replicate L 0)) 46))) := by rw [← hg]; exact HS0
  rw [hg]
  clear hg HS0
  obtain ⟨w1, hw1⟩ : ∃ w1, w.alloc (.cells (intsA .u32 (List.replicate L 0)) 46) = w1 := ⟨_, rfl⟩
  rw [hw1] at HS1
  rw [hw1]
  clear hw1
  go_loopw [20] (fun ii wr => ∃ (i : Nat) (out : List Int), i ≤ n ∧ ii = .int .i64 (i : Int) ∧ out.length = L ∧ Lim out ∧ valL out = valL (xs.take i) * Y ∧ NatS w g out wr) (fun ii _ => n - (intOf ii).toNat)
  case atStart => exact ⟨0, _, by omega, rfl, List.length_replicate, Lim.rep _, HST.out, HS1.out⟩
  case round =>
    clear HST HS1
    obtain ⟨i, out0, hi, rfl, hol, hlo, hval, hns⟩ := hrel
    by_cases hin : i < n
    · have HNS := Lib.hid hns
      have hxi := HXG.out i
      have hxt := HXT.out i hin
      obtain ⟨b, off, rfl, hblt, hxc⟩ := (HRA.out.below hns.bel).at_ (by omega)
      have hxci := hxc i hin
      obtain ⟨x, hxx⟩ : ∃ x, xs.getD i 0 = x := ⟨_, rfl⟩
      rw [hxx] at hxi hxci hxt
      have hzt : out0.getD (i + m) 0 = 0 := limb_zero hlo (by
        rw [hval, Nat.pow_add]
        have h1 := HXL.out i
        have h2 := HYL.out
        have h3 : (xs.take i).length = i := by rw [List.length_take, HRA.out.len]; omega
        rw [h3] at h1
        exact Nat.mul_lt_mul'' h1 h2)
      obtain ⟨V, hV⟩ : ∃ V, valL out0 + 4294967296 ^ i * (0 + x.toNat * Y) = V := ⟨_, rfl⟩
      have HST : Hid (valL out0 + 4294967296 ^ (i + 0) * (0 + x.toNat * valL (ys.drop 0)) = V) := Lib.hid (by rw [HY0.out, Nat.add_zero]; exact hV)
      have HVV : Hid (V = valL (xs.take (i + 1)) * Y) := Lib.hid (by
        rw [← hV, hval, hxt, Nat.zero_add, Nat.add_mul, Nat.mul_assoc])
      have HZT := Lib.hid hzt
      have HOL := Lib.hid hol
      have HLO := Lib.hid hlo
      have hiI : (i : Int) < (n : Int) := by omega
      have HI1 : Hid (i + 1 ≤ n) := Lib.hid (by omega)
      obtain ⟨x0, x1⟩ := hxi
      have HXB : Hid (x.toNat < 4294967296) := Lib.hid (by omega)
      have HXN := Lib.hid (Int.toNat_of_nonneg x0)
      have hxw : IntKind.u64.wrap x = x := by rw [IntKind.wrap_u64]; omega
      clear hns hol hlo hval hxt hxc hxx hzt hV hblt hi
      go_wp2
      obtain ⟨wo, hwo⟩ : ∃ wo : World, wo = wr := ⟨_, rfl⟩
      rw [← hwo] at HNS
      rw [← hwo]
      clear hwo hxci wr
      go_loopw [8, 27] (fun cc kk wr => ∃ (k r : Nat) (out : List Int), k ≤ m ∧ r < 4294967296 ∧ cc = .int .u64 (r : Int) ∧ kk = .int .i64 (k : Int) ∧ out.length = L ∧ Lim out ∧ valL out + 4294967296 ^ (i + k) * (r + x.toNat * valL (ys.drop k)) = V ∧ out.getD (i + m) 0 = 0 ∧ NatS w g out wr) (fun _ kk _ => m - (intOf kk).toNat)
      case atStart => exact ⟨0, 0, out0, by omega, by omega, rfl, rfl, HOL.out, HLO.out, HST.out, HZT.out, HNS.out⟩
      case round =>
        clear HST HNS HOL HLO HZT
        obtain ⟨k, r, out, hk, hr1, rfl, rfl, hol, hlo, hval, hzt, hns⟩ := hrel
        by_cases hkm : k < m
        · have hyi := HYG.out k
          obtain ⟨b2, off2, rfl, _, hyc⟩ := (HRB.out.below hns.bel).at_ (by omega)
          have hyci := hyc k hkm
          rw [HYD.out k] at hval
          obtain ⟨y, hyy⟩ : ∃ x, ys.getD k 0 = x := ⟨_, rfl⟩
          rw [hyy] at hyi hyci hval
          obtain ⟨j, hj⟩ : ∃ j, i + k = j := ⟨_, rfl⟩
          have hjL : j < L := by have := HI1.out; have := HNM.out; omega
          have hoi := hlo.getD j
          obtain ⟨o, hoo⟩ : ∃ o, out.getD j 0 = o := ⟨_, rfl⟩
          have hoc := hns.at_ (j := j) (by omega)
          rw [hoo] at hoi hoc
          have hxb := mul_bound HXB.out (show y.toNat < 4294967296 by omega)
          obtain ⟨t, ht⟩ : ∃ t, x.toNat * y.toNat = t := ⟨_, rfl⟩
          have htI : x * y = (t : Int) := by
            rw [← ht, Int.natCast_mul, HXN.out, Int.toNat_of_nonneg hyi.1]
          rw [ht] at hxb
          obtain ⟨s, hs⟩ : ∃ s : Nat, s = o.toNat + t + r := ⟨_, rfl⟩
          have hsb : s < 18446744073709551616 := by omega
          obtain ⟨p, hp⟩ : ∃ p, s % 4294967296 = p := ⟨_, rfl⟩
          obtain ⟨q, hq⟩ : ∃ p, s / 4294967296 = p := ⟨_, rfl⟩
          have hpq : p + 4294967296 * q = s := by omega
          have hset := valL_set out j (p : Int) (by omega)
          rw [hoo, Int.toNat_natCast] at hset
          rw [hj] at hval
          have hnew := mul_step (4294967296 ^ j) p q r o.toNat x.toNat y.toNat (valL (ys.drop (k + 1))) (valL out) (valL (out.set j (p : Int))) V (by rw [ht]; omega) hset hval
          have HV2 : Hid (valL (out.set j (p : Int)) + 4294967296 ^ (i + (k + 1)) * (q + x.toNat * valL (ys.drop (k + 1))) = V) := Lib.hid (by rw [← Nat.add_assoc, hj, Nat.pow_succ]; exact hnew)
          have HLM2 := Lib.hid (hlo.set j (x := (p : Int)) ⟨by omega, by omega⟩)
          have HL2 : Hid ((out.set j (p : Int)).length = L) := Lib.hid (by rw [List.length_set]; exact hol)
          have HK2 : Hid (k + 1 ≤ m) := Lib.hid (by omega)
          have HQ1 : Hid (q < 4294967296) := Lib.hid (by omega)
          have HZ2 : Hid ((out.set j (p : Int)).getD (i + m) 0 = 0) := Lib.hid (by
            rw [List.getD_eq_getElem?_getD] at hzt ⊢
            rw [List.getElem?_set_ne (by omega)]
            exact hzt)
          have f0 : (i : Int) + (k : Int) = (j : Int) := by omega
          have f1 : IntKind.i64.wrap (j : Int) = (j : Int) := by rw [IntKind.wrap_i64]; omega
          have f2 : (j : Int) < (L : Int) := by omega
          have f3 : IntKind.u64.wrap o = o := by rw [IntKind.wrap_u64]; omega
          have f4 : IntKind.u64.wrap y = y := by rw [IntKind.wrap_u64]; omega
          have f5 : IntKind.u64.wrap (t : Int) = (t : Int) := by rw [IntKind.wrap_u64]; omega
          obtain ⟨u, hu⟩ : ∃ u : Int, (t : Int) + o = u := ⟨_, rfl⟩
          have f6 : IntKind.u64.wrap u = u := by rw [IntKind.wrap_u64]; omega
          have f7 : u + (r : Int) = (s : Int) := by omega
          have f8 : IntKind.u64.wrap (s : Int) = (s : Int) := by rw [IntKind.wrap_u64]; omega
          have f9 : IntKind.u32.wrap (s : Int) = (p : Int) := by rw [IntKind.wrap_u32]; omega
          have f10 : (s : Int) / 4294967296 = (q : Int) := by omega
          have f11 : IntKind.u64.wrap (q : Int) = (q : Int) := by rw [IntKind.wrap_u64]; omega
          have k1 : (k : Int) < (m : Int) := by omega
          have HJS := Lib.hid (nat_lt (out := out) (j := j) (by omega))
          have HNS := Lib.hid hns
          obtain ⟨y0, y1⟩ := hyi
          clear hns hol hlo hval hzt hyc hyy hj hjL hoi hoo hxb ht hs hsb hp hq hpq hset hnew hk hkm hr1
          go_wp2_with (first
            | (with_reducible refine at_any ?_; refine at_store 55 rfl ?_; refine wpList_store_cell rfl 46 (.tmp 55) (.tmp 52) rfl g j rfl 46 (intsA .u32 out) (NatS.blk HNS.out) (.int .u32 (p : Int)) rfl HJS.out size_u32s rfl rfl ?_; intro w90 hk90 ho90; have HF9 := Lib.hid (NatS.set HNS.out hk90.out ho90); clear hk90 ho90))
          go_roundw
          case rel => exact ⟨k + 1, q, _, HK2.out, HQ1.out, rfl, by go_num, HL2.out, HLM2.out, HV2.out, HZ2.out, HF9.out⟩
          case measure => have := HK2.out; simp [intOf]; omega
        · obtain rfl : k = m := by omega
          obtain ⟨j, hj⟩ : ∃ j, i + k = j := ⟨_, rfl⟩
          rw [hj, HDY.out, Nat.mul_zero, Nat.add_zero] at hval
          rw [hj] at hzt
          have hjL : j < L := by have := HI1.out; have := HNM.out; omega
          have hset := valL_set out j (r : Int) (by omega)
          rw [hzt, Int.toNat_natCast] at hset
          have hfin : valL (out.set j (r : Int)) = V := by
            have h0 : 4294967296 ^ j * (0 : Int).toNat = 0 := Nat.mul_zero _
            rw [h0] at hset
            omega
          have HVT := Lib.hid (hfin.trans HVV.out)
          have HLM2 := Lib.hid (hlo.set j (x := (r : Int)) ⟨by omega, by omega⟩)
          have HL2 : Hid ((out.set j (r : Int)).length = L) := Lib.hid (by rw [List.length_set]; exact hol)
          have f0 : (i : Int) + (k : Int) = (j : Int) := by omega
          have f1 : IntKind.i64.wrap (j : Int) = (j : Int) := by rw [IntKind.wrap_i64]; omega
          have f2 : (j : Int) < (L : Int) := by omega
          have f3 : IntKind.u32.wrap (r : Int) = (r : Int) := by rw [IntKind.wrap_u32]; omega
          have HJS := Lib.hid (nat_lt (out := out) (j := j) (by omega))
          have HNS := Lib.hid hns
          clear hk hr1 hol hlo hval hzt hns hkm hset hfin hj hjL
          go_wp2_with (first
            | (with_reducible refine at_any ?_; refine at_store 64 rfl ?_; refine wpList_store_cell rfl 46 (.tmp 64) (.tmp 63) rfl g j rfl 46 (intsA .u32 out) (NatS.blk HNS.out) (.int .u32 (r : Int)) rfl HJS.out size_u32s rfl rfl ?_; intro w90 hk90 ho90; have HF9 := Lib.hid (NatS.set HNS.out hk90.out ho90); clear hk90 ho90))
          go_roundw
          case rel => exact ⟨i + 1, _, HI1.out, by go_num, HL2.out, HLM2.out, HVT.out, HF9.out⟩
          case measure => have := HI1.out; simp [intOf]; omega
    · obtain rfl : i = n := by omega
      rw [HTK.out] at hval
      have hrd7 := hns.rd
      have htr := q10trim_c out0 (some ⟨g, 0, none⟩) out0.length L (by unfold maxLen; omega) (by omega) wr hrd7
      have hrt := rd_trim hrd7
      have htl := trimL_len out0
      rw [trimL_eq hlo, hval] at htr hrt htl
      rw [hol] at htr htl
      have HTR := Lib.hid htr
      have HRT := Lib.hid hrt
      have HTL := Lib.hid htl
      have HBL := Lib.hid hns.bel
      have HML : Hid (L ≤ maxLen) := Lib.hid (by unfold maxLen; omega)
      clear htr hrt htl hrd7 hval hlo hol hns
      go_wp2_with (first
        | (go_at_call 52; (with_reducible refine HTR.out.mono ?_); rintro e _ ⟨rfl, rfl⟩))
      go_ret
      exact ⟨_, _, rfl, HTL.out, HML.out, HRT.out, HBL.out⟩
end Go.Proofs.Ytaaahgkpicjnoaa

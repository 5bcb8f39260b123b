/-
  Slices of integers in memory: what one reads as, that reading kept, cut, made a string, and appended to a row of the call's own.
  Conditions: those that each theorem names.
-/
import Derived.Handy
import Derived.Lib.Hide
import Derived.Below
import Derived.Deep.Draws
import Derived.Maps.AppendAt
import Derived.Deep.AppendLies
import Derived.OwnWalk
import Derived.Laws.BytesString
import Derived.Deep.MidRow
import Derived.Great.BuildSlice
import Derived.Deep.QuietTactic
import Derived.BigQuiet
set_option maxRecDepth 100000
namespace Go.Proofs.Ytkgajcifanobnaa
open Go.ChangeShapes Go.WideShapes Go.ChangeAt Go.RowKit

/-- The slice (A, n, ..) reads as the numbers zs, and lies below block B; nil and empty ones let in. -/
def Rd (k : IntKind) (w : World) (B : Nat) (A : Option Addr) (n : Nat) (zs : List Int) : Prop :=
  zs.length = n ∧ (0 < n → ∃ b off, A = some ⟨b, off, none⟩ ∧ b < B ∧ ∀ j, j < n → w.cell? ⟨b, off + j, none⟩ = some (.int k (zs.getD j 0)))

theorem add_flat (b off j : Nat) : (⟨b, off, none⟩ : Addr).add j = ⟨b, off + j, none⟩ := by
  unfold Addr.add
  split
  · rename_i h; rw [h]; rfl
  · rfl

section
variable {k : IntKind} {w w' : World} {B B' n : Nat} {A : Option Addr} {zs ys : List Int}
theorem Rd.len (h : Rd k w B A n zs) : zs.length = n := h.1
theorem Rd.none_ : Rd k w B A 0 [] := ⟨rfl, fun h => absurd h (by omega)⟩
theorem Rd.at_ (h : Rd k w B A n zs) (hn : 0 < n) : ∃ b off, A = some ⟨b, off, none⟩ ∧ b < B ∧ ∀ j, j < n → w.cell? ⟨b, off + j, none⟩ = some (.int k (zs.getD j 0)) := h.2 hn
theorem Rd.keep (h : Rd k w B A n zs) (hk : ∀ p : Addr, p.block < B → w'.cell? p = w.cell? p) : Rd k w' B A n zs :=
  ⟨h.1, fun hn => by
    obtain ⟨b, off, e, hb, hc⟩ := h.2 hn
    exact ⟨b, off, e, hb, fun j hj => (hk ⟨b, off + j, none⟩ hb).trans (hc j hj)⟩⟩
theorem Rd.mono (h : Rd k w B A n zs) (hB : B ≤ B') : Rd k w B' A n zs :=
  ⟨h.1, fun hn => by
    obtain ⟨b, off, e, hb, hc⟩ := h.2 hn
    exact ⟨b, off, e, by omega, hc⟩⟩
theorem Rd.below (h : Rd k w B A n zs) (hb : Below B w w') : Rd k w' B A n zs := h.keep fun _ hp => hb.cell hp
theorem Rd.drew (h : Rd k w B A n zs) : Rd k w.drew B A n zs := h
theorem Rd.drewN (h : Rd k w B A n zs) (m : Nat) : Rd k (w.drewN m) B A n zs := h
theorem Rd.alloc (h : Rd k w B A n zs) (hB : B ≤ w.heap.size) (o : Obj) : Rd k (w.alloc o) B A n zs := h.keep fun p hp => World.cell?_alloc_lt w o p (by omega)
/-- Within the world's own size. -/
theorem Rd.fit (h : Rd k w B A n zs) : Rd k w w.heap.size A n zs :=
  ⟨h.1, fun hn => by
    obtain ⟨b, off, e, hb, hc⟩ := h.2 hn
    exact ⟨b, off, e, World.block_lt_of_cell? w _ (hc 0 hn), hc⟩⟩
/-- What a row of the call's own reads as. -/
theorem Rd.of_own {base c : Nat} {e : TypeId} (h : w.ownsRow base e 1 (.slice A n c) n (zs.map (Value.int k))) : Rd k w w.heap.size A n zs := by
  refine ⟨by have := h.1; simpa using this, fun hn => ?_⟩
  obtain ⟨g, cap, hv, _, hlt⟩ := h.form hn
  have hA : A = some ⟨g, 0, none⟩ := by injection hv
  subst hA
  refine ⟨g, 0, rfl, hlt, fun j hj => ?_⟩
  have hl : j < zs.length := by have := h.1; simp at this; omega
  have hc := h.cells (g := g) rfl j (.int k (zs.getD j 0)) (by simp [hl])
  rw [add_flat] at hc
  exact hc
/-- Cut: from i on, up to j. -/
theorem Rd.cut (h : Rd k w B A n zs) {i j cap : Nat} (hi : i ≤ j) (hj : j ≤ n) (hc : n ≤ cap) :
    Rd k w B (if cap = i then A else A.map (·.add (i * 1))) (j - i) ((zs.take j).drop i) := by
  refine ⟨by rw [List.length_drop, List.length_take, h.1]; omega, fun hn => ?_⟩
  obtain ⟨b, off, rfl, hb, hcell⟩ := h.2 (by omega)
  rw [if_neg (by omega)]
  refine ⟨b, off + i, by rw [Option.map_some, Nat.mul_one, add_flat], hb, fun m hm => ?_⟩
  rw [Nat.add_assoc, hcell (i + m) (by omega)]
  congr 2
  simp only [List.getD_eq_getElem?_getD, List.getElem?_drop, List.getElem?_take]
  rw [if_pos (by omega)]
theorem Rd.from_ (h : Rd k w B A n zs) {i cap : Nat} (hi : i ≤ n) (hc : n ≤ cap) :
    Rd k w B (if cap = i then A else A.map (·.add (i * 1))) (n - i) (zs.drop i) := by
  have := h.cut hi (Nat.le_refl n) hc
  rwa [List.take_of_length_le (by rw [h.1]; exact Nat.le_refl _)] at this
theorem Rd.upto (h : Rd k w B A n zs) {j : Nat} (hj : j ≤ n) : Rd k w B A j (zs.take j) := by
  refine ⟨by rw [List.length_take, h.1]; omega, fun hn => ?_⟩
  obtain ⟨b, off, rfl, hb, hcell⟩ := h.2 (by omega)
  refine ⟨b, off, rfl, hb, fun m hm => ?_⟩
  rw [hcell m (by omega)]
  congr 2
  simp only [List.getD_eq_getElem?_getD, List.getElem?_take]
  rw [if_pos (by omega)]
/-- As the cells that an append takes. -/
theorem Rd.news {ad : Addr} (h : Rd k w B (some ad) n zs) : ∀ j u, (zs.map (Value.int k))[j]? = some u → w.cell? (ad.add j) = some u := by
  intro j u hu
  have hj : j < zs.length := by
    rcases Nat.lt_or_ge j zs.length with h1 | h1
    · exact h1
    · rw [List.getElem?_eq_none (by simpa using h1)] at hu; cases hu
  obtain ⟨b, off, e, _, hc⟩ := h.2 (by rw [← h.1]; omega)
  injection e with e
  subst e
  rw [add_flat, hc j (by rw [← h.1]; exact hj)]
  rw [← hu]
  simp [hj]
end

theorem ints_one (k : IntKind) (zs : List Int) : ∀ u ∈ zs.map (Value.int k), u.oneCell' = true := by
  intro u hu
  obtain ⟨z, _, rfl⟩ := List.mem_map.1 hu
  rfl

/-! ### append onto a row of the call's own -/
section
variable {P : Program} (w : World)
/-- A row of the call's own that holds the numbers zs. -/
def OwnI (w : World) (base : Nat) (e : TypeId) (k : IntKind) (v : Value) (zs : List Int) : Prop := w.ownsRow base e 1 v zs.length (zs.map (Value.int k))
theorem OwnI.form {w : World} {base : Nat} {e : TypeId} {k : IntKind} {v : Value} {zs : List Int} (h : OwnI w base e k v zs) : ∃ A c, v = .slice A zs.length c ∧ zs.length ≤ c ∧ c ≤ maxLen := by
  rcases h.2 with ⟨rfl, hn⟩ | ⟨g, cap, cur, rfl, _, _, h1, h2, _⟩
  · exact ⟨none, 0, by rw [hn], by omega, by simp [maxLen]⟩
  · exact ⟨_, _, rfl, h1, h2⟩
theorem OwnI.rd {w : World} {base : Nat} {e : TypeId} {k : IntKind} {A : Option Addr} {n c : Nat} {zs : List Int} (h : OwnI w base e k (.slice A n c) zs) (hn : zs.length = n) : Rd k w w.heap.size A n zs := by
  subst hn
  exact Rd.of_own h
theorem OwnI.block_ge {w : World} {base : Nat} {e : TypeId} {k : IntKind} {v : Value} {zs : List Int} (h : OwnI w base e k v zs) : ∀ g, v.ownBlock = some g → base ≤ g := by
  intro g hg
  rcases h.2 with ⟨rfl, _⟩ | ⟨g', cap, cur, rfl, hb, _⟩
  · simp [Value.ownBlock] at hg
  · simp [Value.ownBlock] at hg
    omega
theorem OwnI.drew {w : World} {base : Nat} {e : TypeId} {k : IntKind} {v : Value} {zs : List Int} (h : OwnI w base e k v zs) : OwnI w.drew base e k v zs := h

theorem run_append_nothing (base : Nat) (t ty e : TypeId) (i : TypeInfo) (ht : P.underlying t = some (.slice e)) (hi : P.info? e = some i)
    (v : Value) (n : Nat) (xs : List Value) (hown : w.ownsRow base e 1 v n xs) (c : Nat) : (Builtin.append_ #[t, t] ty #[v, .slice none 0 c]).run P w = .ok v w := by
  rcases hown.2 with ⟨rfl, rfl⟩ | ⟨g, cap, cur, rfl, _, _, hnc, _⟩
  · simp [Builtin.append_, run_underlying ht, sizeOf, typeInfo, hi, Builtin.lenOf, Builtin.firstCells]
  · simp [Builtin.append_, run_underlying ht, sizeOf, typeInfo, hi, Builtin.lenOf, Builtin.firstCells, hnc, storeCells]

theorem run_append_ints (base : Nat) (t ty e : TypeId) (i : TypeInfo) (z : Value) (bytes : Nat) (k : IntKind) (ht : P.underlying t = some (.slice e)) (hi : P.info? e = some i) (hz : i.zero = some z)
    (hsize : i.size = 1) (hby : i.bytes = bytes) (hzs : z.cells.size = 1) (v : Value) (zs : List Int) (hown : OwnI w base e k v zs)
    (B : Nat) (A : Option Addr) (m c : Nat) (ys : List Int) (hr : Rd k w B A m ys)
    (h63 : zs.length + m ≤ maxLen) (hbytes : (zs.length + m) * bytes ≤ 140737488355328) (hbase : base ≤ w.heap.size) :
    ∃ v' w', (Builtin.append_ #[t, t] ty #[v, .slice A m c]).run P w = .ok v' w' ∧ OwnI w' base e k v' (zs ++ ys) ∧ w.grownBy w' v.ownBlock ∧
      (v'.ownBlock = v.ownBlock ∨ v'.ownBlock = some w.heap.size) := by
  rcases A with _ | ad
  · have hm : m = 0 := by
      rcases Nat.eq_zero_or_pos m with h0 | h0
      · exact h0
      · obtain ⟨b, off, e, _⟩ := hr.2 h0
        cases e
    subst hm
    have hn : ys = [] := List.eq_nil_of_length_eq_zero hr.1
    subst hn
    exact ⟨v, w, run_append_nothing w base t ty e i ht hi v _ _ hown c, by simpa using hown, World.grownBy.refl w _, .inl rfl⟩
  · obtain ⟨v', w', hrun, h2, h3, _, h5⟩ := run_append_own_at (P := P) w base t ty e i z 1 bytes ht hi hz hsize hby hzs (by omega) v zs.length _ hown ad m c (ys.map (Value.int k)) (by simpa using hr.1) hr.news (ints_one k ys) h63 hbytes hbase
    refine ⟨v', w', hrun, ?_, h3, h5⟩
    unfold OwnI
    rw [List.length_append, hr.1, List.map_append]
    exact h2

theorem wp_append_ints {o : Oper} {a : Act} {K : Act → World → Prop} {Q : Exit → Act → World → Prop} (s x : Operand) (t : TypeId)
    (ho : o.op = .call { callee := .builtin .append, args := #[s, x], argTypes := #[t, t] })
    (base : Nat) (e : TypeId) (i : TypeInfo) (z : Value) (bytes : Nat) (k : IntKind) (ht : P.underlying t = some (.slice e)) (hi : P.info? e = some i) (hz : i.zero = some z)
    (hsize : i.size = 1) (hby : i.bytes = bytes) (hzs : z.cells.size = 1) (v : Value) (zs : List Int) (hs : a.eval s = v) (hown : OwnI w base e k v zs)
    (B : Nat) (A : Option Addr) (m c : Nat) (ys : List Int) (hx : a.eval x = .slice A m c) (hr : Rd k w B A m ys)
    (h63 : zs.length + m ≤ maxLen) (hbytes : (zs.length + m) * bytes ≤ 140737488355328) (hbase : base ≤ w.heap.size)
    (h : ∀ v' w', OwnI w' base e k v' (zs ++ ys) → w.grownBy w' v.ownBlock → (v'.ownBlock = v.ownBlock ∨ v'.ownBlock = some w.heap.size) → K (a.put o.dst v') w') : o.wp P a w K Q := by
  obtain ⟨v', w', hrun, h2, h3, h4⟩ := run_append_ints (P := P) w base t o.type e i z bytes k ht hi hz hsize hby hzs v zs hown B A m c ys hr h63 hbytes hbase
  unfold Oper.wp execOp
  simp only [ho, resolve, invoke, builtin, Sem.run_bind, Sem.run_pure, Result.andThen_ok, List.map_toArray, List.map_cons, List.map_nil, hs, hx, hrun]
  exact h v' w' h2 h3 h4

theorem wpList_append_ints {ops : Array Oper} {rest : List Oper} {o : Oper} {a : Act} {Q : Exit → Act → World → Prop} (hgd : o.guard = none) (s x : Operand) (t : TypeId)
    (ho : o.op = .call { callee := .builtin .append, args := #[s, x], argTypes := #[t, t] })
    (base : Nat) (e : TypeId) (i : TypeInfo) (z : Value) (bytes : Nat) (k : IntKind) (ht : P.underlying t = some (.slice e)) (hi : P.info? e = some i) (hz : i.zero = some z)
    (hsize : i.size = 1) (hby : i.bytes = bytes) (hzs : z.cells.size = 1) (v : Value) (zs : List Int) (hs : a.eval s = v) (hown : OwnI w base e k v zs)
    (B : Nat) (A : Option Addr) (m c : Nat) (ys : List Int) (hx : a.eval x = .slice A m c) (hr : Rd k w B A m ys)
    (h63 : zs.length + m ≤ maxLen) (hbytes : (zs.length + m) * bytes ≤ 140737488355328) (hbase : base ≤ w.heap.size)
    (h : ∀ v' w', OwnI w' base e k v' (zs ++ ys) → w.grownBy w' v.ownBlock → (v'.ownBlock = v.ownBlock ∨ v'.ownBlock = some w.heap.size) → wpList P ops Q rest (a.put o.dst v') w') : wpList P ops Q (o :: rest) a w :=
  wpList_plain hgd fun _ hK => wp_append_ints w s x t ho base e i z bytes k ht hi hz hsize hby hzs v zs hs hown B A m c ys hx hr h63 hbytes hbase fun v' w' h2 h3 h4 => hK _ _ (h v' w' h2 h3 h4)
end

theorem step_append_ints {P : Program} (w : World) {ops : Array Oper} {o : Oper} {a : Act} {K : Act → World → Prop} {Q : Exit → Act → World → Prop} {E : Prop} (hgd : o.guard = none) (s x : Operand) (t : TypeId)
    (ho : o.op = .call { callee := .builtin .append, args := #[s, x], argTypes := #[t, t] })
    (base : Nat) (e : TypeId) (i : TypeInfo) (z : Value) (bytes : Nat) (k : IntKind) (ht : P.underlying t = some (.slice e)) (hi : P.info? e = some i) (hz : i.zero = some z)
    (hsize : i.size = 1) (hby : i.bytes = bytes) (hzs : z.cells.size = 1) (v : Value) (zs : List Int) (hs : a.eval s = v) (hown : OwnI w base e k v zs)
    (B : Nat) (A : Option Addr) (m c : Nat) (ys : List Int) (hx : a.eval x = .slice A m c) (hr : Rd k w B A m ys)
    (h63 : zs.length + m ≤ maxLen) (hbytes : (zs.length + m) * bytes ≤ 140737488355328) (hbase : base ≤ w.heap.size)
    (h : ∀ v' w', OwnI w' base e k v' (zs ++ ys) → w.grownBy w' v.ownBlock → (v'.ownBlock = v.ownBlock ∨ v'.ownBlock = some w.heap.size) → K (a.put o.dst v') w') :
    if Region.wanted o (yielded ops a.tmps) = true then Oper.wp P o a w K Q else E := by
  rw [if_pos (by simp [Region.wanted, hgd])]
  exact wp_append_ints w s x t ho base e i z bytes k ht hi hz hsize hby hzs v zs hs hown B A m c ys hx hr h63 hbytes hbase h

/-! ### bytes as a string -/
def strB (zs : List Int) : ByteArray := zs.foldl (fun r n => r.push (UInt8.ofNat n.toNat)) ByteArray.empty
theorem run_str {P : Program} {w : World} {src dst e : TypeId} {B : Nat} {A : Option Addr} {n c : Nat} {zs : List Int}
    (hs : P.underlying src = some (.slice e)) (he : P.underlying e = some (.int .u8)) (hd : P.underlying dst = some .string) (h : Rd .u8 w B A n zs) (hA : A = none → n = 0) :
    (convert src dst (.slice A n c)).run P w = .ok (.string (strB zs)) w := by
  rw [run_convert_bytes_string w src dst e A n c hs he hd]
  rcases A with _ | ad
  · have hn := hA rfl
    subst hn
    have : zs = [] := List.eq_nil_of_length_eq_zero h.1
    subst this
    simp [Conv.bytesToString, strB, go_sem]
  · have hl := run_loadCells_list (P := P) (w := w) ad (zs.map (Value.int .u8)) h.news
    rw [List.length_map, h.1] at hl
    exact run_bytesToString w ad n c zs hl
theorem strB_foldl (zs : List Int) : ∀ r : ByteArray, (zs.foldl (fun r n => r.push (UInt8.ofNat n.toNat)) r).data.toList = r.data.toList ++ zs.map fun n => UInt8.ofNat n.toNat := by
  induction zs with
  | nil => intro r; simp
  | cons z zs ih =>
    intro r
    rw [List.foldl_cons, ih]
    simp
theorem strB_list (zs : List Int) : (strB zs).data.toList = zs.map fun n => UInt8.ofNat n.toNat := by
  unfold strB
  rw [strB_foldl]
  simp
theorem strB_inj {zs ys : List Int} (hz : ∀ z ∈ zs, 0 ≤ z ∧ z < 256) (hy : ∀ z ∈ ys, 0 ≤ z ∧ z < 256) (h : strB zs = strB ys) : zs = ys := by
  have h1 : zs.map (fun n => UInt8.ofNat n.toNat) = ys.map fun n => UInt8.ofNat n.toNat := by rw [← strB_list, ← strB_list, h]
  have back : ∀ l : List Int, (∀ z ∈ l, 0 ≤ z ∧ z < 256) → (l.map fun n => UInt8.ofNat n.toNat).map (fun u => (u.toNat : Int)) = l := by
    intro l hl
    rw [List.map_map]
    conv => rhs; rw [← List.map_id l]
    apply List.map_congr_left
    intro z hz
    have := hl z hz
    simp only [Function.comp_def, UInt8.toNat_ofNat', id]
    omega
  rw [← back zs hz, ← back ys hy, h1]
theorem strB_eq {zs ys : List Int} (hz : ∀ z ∈ zs, 0 ≤ z ∧ z < 256) (hy : ∀ z ∈ ys, 0 ≤ z ∧ z < 256) : (strB zs = strB ys) ↔ zs = ys := ⟨strB_inj hz hy, fun h => by rw [h]⟩

theorem below_of_drew {B : Nat} {w w' : World} (h : Below B w.drew w') : Below B w w' := ⟨h.os, h.tape, h.output, h.size, h.block⟩
theorem belNext {W w1 w2 : World} (hb : Below w1.heap.size w1 w2) (h : Below W.heap.size W w1) : Below W.heap.size W w2 := h.trans (hb.mono h.size)
theorem below_drewN {B : Nat} {a w : World} (h : Below B a w) (n : Nat) : Below B a (w.drewN n) := ⟨h.os, h.tape, h.output, h.size, h.block⟩

/-! ### blocks that are known whole; what an append leaves -/
def Blk (w : World) (g : Nat) (t : TypeId) (cs : Array Value) : Prop := w.heap[g]? = some (.cells cs t (0, 0))
section
variable {w w' : World} {g base : Nat} {t e : TypeId} {cs : Array Value} {k : IntKind} {v : Value} {zs : List Int}
theorem Blk.lt (h : Blk w g t cs) : g < w.heap.size := by
  rcases Nat.lt_or_ge g w.heap.size with hlt | hge
  · exact hlt
  · unfold Blk at h; rw [Array.getElem?_eq_none hge] at h; cases h
theorem Blk.cell (h : Blk w g t cs) (i : Nat) : w.cell? ⟨g, i, none⟩ = cs[i]? := cell_of_row w g i cs t (0, 0) h
theorem Blk.new (w : World) (t : TypeId) (cs : Array Value) : Blk (w.alloc (.cells cs t)) w.heap.size t cs := heap_alloc_new w _
theorem Blk.frozen (h : Blk w g t cs) (i : Nat) : w.frozen? ⟨g, i, none⟩ = false := by
  unfold Blk at h
  simp [World.frozen?, h]
theorem Blk.set_ (h : Blk w g t cs) (i : Nat) (u : Value) : Blk (w.setCell ⟨g, i, none⟩ u) g t (cs.setIfInBounds i u) := by
  unfold Blk at h ⊢
  simp [World.setCell, Array.getElem?_modify, h]
theorem Blk.far (h : Blk w g t cs) {p : Addr} (hp : g ≠ p.block) (u : Value) : Blk (w.setCell p u) g t cs := (Below.heap_setCell w p u g hp).trans h
theorem Blk.range (h : Blk w g t cs) : w.rangeAt g 0 cs.toList := by
  intro j v hv
  rw [Nat.zero_add, h.cell j]
  simpa using hv
theorem Blk.drew (h : Blk w g t cs) : Blk w.drew g t cs := h
theorem Blk.alloc (h : Blk w g t cs) (o : Obj) : Blk (w.alloc o) g t cs := (Below.heap_alloc w o g h.lt).trans h
theorem Blk.below {B : Nat} (h : Blk w g t cs) (hb : Below B w w') (hg : g < B) : Blk w' g t cs := (hb.block g hg).trans h
/-- An append onto a row of another element type leaves it. -/
theorem Blk.grown (h : Blk w g t cs) (ho : OwnI w base e k v zs) (hne : e ≠ t) (hb : w.grownBy w' v.ownBlock) : Blk w' g t cs := by
  refine (hb.block g h.lt ?_).trans h
  rcases ho.2 with ⟨rfl, _⟩ | ⟨g', cap, cur, rfl, _, hh, _⟩
  · simp [Value.ownBlock]
  · intro he
    have hgg : g = g' := by simpa [Value.ownBlock] using he
    subst hgg
    unfold Blk at h
    rw [hh] at h
    injection h with h
    injection h with _ ht
    exact hne ht
theorem OwnI.alloc (h : OwnI w base e k v zs) (o : Obj) : OwnI (w.alloc o) base e k v zs := World.ownsRow.alloc h o
theorem OwnI.below_ (h : OwnI w base e k v zs) {w0 : World} (hb : Below base w0 w) (hbase : base ≤ w.heap.size) (hg : w.grownBy w' v.ownBlock) : Below base w0 w' :=
  hb.grown hg hbase (fun _ hk => h.block_ge _ hk)
/-- What a callee leaves of it. -/
theorem OwnI.below (h : OwnI w base e k v zs) (hb : Below w.heap.size w w') : OwnI w' base e k v zs := by
  refine ⟨h.1, ?_⟩
  rcases h.2 with h1 | ⟨g, cap, cur, h1, h2, h3, h4⟩
  · exact .inl h1
  · have hlt : g < w.heap.size := by
      rcases Nat.lt_or_ge g w.heap.size with h5 | h5
      · exact h5
      · rw [Array.getElem?_eq_none h5] at h3; cases h3
    exact .inr ⟨g, cap, cur, h1, h2, (hb.block g hlt).trans h3, h4⟩
/-- An empty slice of the call's own. -/
theorem own_empty (w : World) (e : TypeId) (k : IntKind) (hB : base ≤ w.heap.size) : OwnI (w.alloc (.cells #[] e)) base e k (.slice (some ⟨w.heap.size, 0, none⟩) 0 0) [] :=
  ⟨rfl, .inr ⟨w.heap.size, 0, #[], rfl, hB, heap_alloc_new w _, Nat.le_refl _, by simp [maxLen], rfl, rfl⟩⟩
theorem own_nil (w : World) (e : TypeId) (k : IntKind) : OwnI w base e k (.slice none 0 0) [] := ⟨rfl, .inl ⟨rfl, rfl⟩⟩
/-- The one element that is about to be appended. -/
theorem rd_one (w : World) (e : TypeId) (k : IntKind) (z : Int) : Rd k (w.alloc (.cells #[.int k z] e)) (w.heap.size + 1) (some ⟨w.heap.size, 0, none⟩) 1 [z] := by
  refine ⟨rfl, fun _ => ⟨w.heap.size, 0, rfl, by omega, fun j hj => ?_⟩⟩
  obtain rfl : j = 0 := by omega
  rw [(Blk.new w e #[.int k z]).cell]
  rfl
end
/-- The slice's cells lie apart from the row. -/
def Apart (n : Nat) (A : Option Addr) (v : Value) : Prop := ∀ b off, 0 < n → A = some ⟨b, off, none⟩ → v.ownBlock ≠ some b
theorem Rd.grownA {k : IntKind} {w w' : World} {B n : Nat} {A : Option Addr} {zs : List Int} {v : Value} (h : Rd k w B A n zs) (ha : Apart n A v) (hB : B ≤ w.heap.size) (hg : w.grownBy w' v.ownBlock) : Rd k w' B A n zs :=
  ⟨h.1, fun hn => by
    obtain ⟨b, off, e, hb, hc⟩ := h.2 hn
    refine ⟨b, off, e, hb, fun j hj => ?_⟩
    rw [← hc j hj]
    exact World.cell?_of_block (hg.block b (by omega) (fun h1 => ha b off hn e h1.symm))⟩
/-- A row without room lies apart from whatever has cells; so does what an append makes of it. -/
theorem keep_empty {k k' : IntKind} {w w' : World} {B n base g : Nat} {e : TypeId} {A : Option Addr} {zs : List Int} {v' : Value} (h : Rd k w B A n zs) (hB : B ≤ w.heap.size) (ho : OwnI w base e k' (.slice (some ⟨g, 0, none⟩) 0 0) [])
    (hg : w.grownBy w' (some g)) (hat : v'.ownBlock = some g ∨ v'.ownBlock = some w.heap.size) : Rd k w' B A n zs ∧ Apart n A v' := by
  have hne : ∀ b off, 0 < n → A = some ⟨b, off, none⟩ → b ≠ g ∧ b < w.heap.size := by
    intro b off hn eA
    obtain ⟨b1, off1, e1, hb1, hc1⟩ := h.2 hn
    rw [eA] at e1
    injection e1 with e1
    injection e1 with e2 e3
    subst e2
    subst e3
    refine ⟨?_, by omega⟩
    intro hbg
    subst hbg
    rcases ho.2 with ⟨h1, _⟩ | ⟨g', cap, cur, h1, _, h3, _, _, h6, _⟩
    · cases h1
    · injection h1 with h1 _ h2
      injection h1 with h1
      injection h1 with h1
      subst h1
      subst h2
      have h0 := hc1 0 hn
      rw [Nat.add_zero, cell_of_row w b off cur e (0, 0) h3, Array.getElem?_eq_none (by omega)] at h0
      cases h0
  refine ⟨h.grownA (v := .slice (some ⟨g, 0, none⟩) 0 0) (fun b off hn e h1 => ?_) hB hg, fun b off hn e h1 => ?_⟩
  · have := (hne b off hn e).1
    simp [Value.ownBlock] at h1
    exact this h1.symm
  · obtain ⟨h2, h3⟩ := hne b off hn e
    rcases hat with h4 | h4 <;> rw [h1] at h4 <;> injection h4 <;> omega
def lenV : Value → Nat
  | .slice _ n _ => n
  | _ => 0


/-! ### slices of arrays of integers -/
/-- A row of the call's own that holds arrays of s numbers each. -/
def OwnA (w : World) (base : Nat) (e : TypeId) (s : Nat) (k : IntKind) (v : Value) (bs : List (List Int)) : Prop :=
  w.ownsRow base e s v bs.length (bs.flatten.map (Value.int k)) ∧ ∀ x ∈ bs, x.length = s
/-- The slice reads as the arrays bs. -/
def RdA (k : IntKind) (s : Nat) (w : World) (B : Nat) (A : Option Addr) (n : Nat) (bs : List (List Int)) : Prop :=
  bs.length = n ∧ (∀ x ∈ bs, x.length = s) ∧ (0 < n → ∃ b off, A = some ⟨b, off, none⟩ ∧ b < B ∧ w.rangeAt b off (bs.flatten.map (Value.int k)))
theorem flatten_len {s : Nat} : ∀ {bs : List (List Int)}, (∀ x ∈ bs, x.length = s) → bs.flatten.length = bs.length * s
  | [], _ => by simp
  | x :: bs, h => by
    rw [List.flatten_cons, List.length_append, h x (by simp), flatten_len (bs := bs) fun y hy => h y (by simp [hy]), List.length_cons, Nat.add_mul]
    omega
theorem flatten_at {s : Nat} : ∀ {bs : List (List Int)}, (∀ x ∈ bs, x.length = s) → ∀ {i j : Nat}, i < bs.length → j < s → bs.flatten[i * s + j]? = (bs.getD i [])[j]?
  | [], _, i, j, hi, _ => by simp at hi
  | x :: bs, h, i, j, hi, hj => by
    have hx := h x (by simp)
    rw [List.flatten_cons]
    rcases i with _ | i
    · rw [Nat.zero_mul, Nat.zero_add, List.getElem?_append_left (by omega)]
      rfl
    · rw [List.getElem?_append_right (by rw [hx, Nat.add_mul]; omega), hx, show (i + 1) * s + j - s = i * s + j by rw [Nat.add_mul]; omega,
        flatten_at (bs := bs) (fun y hy => h y (by simp [hy])) (by simpa using hi) hj]
      rfl
section
variable {k : IntKind} {s : Nat} {w w' : World} {B B' n base : Nat} {A : Option Addr} {bs : List (List Int)} {e : TypeId} {v : Value}
theorem RdA.below (h : RdA k s w B A n bs) (hb : Below B w w') : RdA k s w' B A n bs :=
  ⟨h.1, h.2.1, fun hn => by
    obtain ⟨b, off, e, hlt, hc⟩ := h.2.2 hn
    exact ⟨b, off, e, hlt, fun j u hu => (hb.cell (p := ⟨b, off + j, none⟩) hlt).trans (hc j u hu)⟩⟩
theorem RdA.mono (h : RdA k s w B A n bs) (hB : B ≤ B') : RdA k s w B' A n bs :=
  ⟨h.1, h.2.1, fun hn => by
    obtain ⟨b, off, e, hlt, hc⟩ := h.2.2 hn
    exact ⟨b, off, e, by omega, hc⟩⟩
/-- One of its arrays. -/
theorem RdA.at_ (h : RdA k s w B A n bs) {i : Nat} (hi : i < n) : ∃ b off, A = some ⟨b, off, none⟩ ∧ b < B ∧ w.rangeAt b (off + i * s) ((bs.getD i []).map (Value.int k)) := by
  obtain ⟨b, off, e, hlt, hc⟩ := h.2.2 (by omega)
  refine ⟨b, off, e, hlt, fun j u hu => ?_⟩
  have hi' : i < bs.length := by rw [h.1]; exact hi
  have hl : (bs.getD i []).length = s := h.2.1 _ (by simp [List.getD, List.getElem?_eq_getElem hi'])
  have hj : j < s := by
    rcases Nat.lt_or_ge j s with h1 | h1
    · exact h1
    · rw [List.getElem?_eq_none (by rw [List.length_map, hl]; exact h1)] at hu; cases hu
  rw [Nat.add_assoc]
  apply hc
  rw [List.getElem?_map] at hu ⊢
  rw [flatten_at h.2.1 hi' hj]
  exact hu
theorem OwnA.below (h : OwnA w base e s k v bs) (hb : Below w.heap.size w w') : OwnA w' base e s k v bs := by
  refine ⟨⟨h.1.1, ?_⟩, h.2⟩
  rcases h.1.2 with h1 | ⟨g, cap, cur, h1, h2, h3, h4⟩
  · exact .inl h1
  · have hlt : g < w.heap.size := by
      rcases Nat.lt_or_ge g w.heap.size with h5 | h5
      · exact h5
      · rw [Array.getElem?_eq_none h5] at h3; cases h3
    exact .inr ⟨g, cap, cur, h1, h2, (hb.block g hlt).trans h3, h4⟩
theorem OwnA.alloc (h : OwnA w base e s k v bs) (o : Obj) : OwnA (w.alloc o) base e s k v bs := ⟨World.ownsRow.alloc h.1 o, h.2⟩
theorem OwnA.form (h : OwnA w base e s k v bs) : ∃ A c, v = .slice A bs.length c ∧ bs.length ≤ c ∧ c ≤ maxLen := by
  rcases h.1.2 with ⟨rfl, hn⟩ | ⟨g, cap, cur, rfl, _, _, h1, h2, _⟩
  · exact ⟨none, 0, by rw [hn], by omega, by simp [maxLen]⟩
  · exact ⟨_, _, rfl, h1, h2⟩
theorem OwnA.block_ge (h : OwnA w base e s k v bs) : ∀ g, v.ownBlock = some g → base ≤ g := by
  intro g hg
  rcases h.1.2 with ⟨rfl, _⟩ | ⟨g', cap, cur, rfl, hb, _⟩
  · simp [Value.ownBlock] at hg
  · simp [Value.ownBlock] at hg
    omega
theorem OwnA.below_ (h : OwnA w base e s k v bs) {w0 : World} (hb : Below base w0 w) (hbase : base ≤ w.heap.size) (hg : w.grownBy w' v.ownBlock) : Below base w0 w' :=
  hb.grown hg hbase (fun _ hk => h.block_ge _ hk)
theorem OwnA.rd {c : Nat} (h : OwnA w base e s k (.slice A n c) bs) (hn : bs.length = n) : RdA k s w w.heap.size A n bs := by
  subst hn
  refine ⟨rfl, h.2, fun hn => ?_⟩
  obtain ⟨g, cap, hv, _, hlt⟩ := h.1.form hn
  have hA : A = some ⟨g, 0, none⟩ := by injection hv
  subst hA
  refine ⟨g, 0, rfl, hlt, fun j u hu => ?_⟩
  have hc := h.1.cells (g := g) rfl j u hu
  rw [add_flat] at hc
  exact hc
theorem ownA_nil (w : World) (e : TypeId) (k : IntKind) (base s : Nat) : OwnA w base e s k (.slice none 0 0) [] := ⟨⟨by simp, .inl ⟨rfl, rfl⟩⟩, fun _ h => by cases h⟩
theorem OwnA.more {v' : Value} {x : List Int} (h : OwnA w base e s k v bs) (hx : x.length = s) (h2 : w'.ownsRow base e s v' (bs.length + 1) (bs.flatten.map (Value.int k) ++ x.map (Value.int k))) : OwnA w' base e s k v' (bs ++ [x]) := by
  refine ⟨?_, fun y hy => ?_⟩
  · rw [List.length_append, List.flatten_append, List.map_append]
    simpa using h2
  · rcases List.mem_append.1 hy with h3 | h3
    · exact h.2 y h3
    · rw [List.mem_singleton.1 h3]; exact hx
end

/-! ### the one array that is about to be appended -/
theorem fill_one (s : Nat) (hs : 0 < s) (xs cells : Array Value) (hx : xs.size = s) (hc : cells.size = s) : Instr.fill (fun i => some (i * s, s)) cells [(0, .agg xs)] = some xs := by
  obtain ⟨r, hr, hsz, hk⟩ := Great.fill_dense hs [.agg xs] 0 cells (fun v hv => by rw [List.mem_singleton.1 hv]; exact hx) (by simp [hc])
  rw [show ([Value.agg xs].zipIdx 0).map (fun x => (x.2, x.1)) = [(0, .agg xs)] from rfl] at hr
  rw [hr]
  congr 1
  apply Array.ext_getElem?
  intro k
  rw [hk k]
  by_cases h : k < s
  · rw [if_pos (by simp; exact h), Nat.div_eq_of_lt h, Nat.mod_eq_of_lt h]
    rfl
  · rw [if_neg (by simp; omega), Array.getElem?_eq_none (by omega), Array.getElem?_eq_none (by omega)]
theorem wpList_build_one {P : Program} {ops : Array Oper} {rest : List Oper} {o : Oper} {a : Act} {w : World} {Q : Exit → Act → World → Prop} (hg : o.guard = none) (t e : TypeId) (x : Operand) (ho : o.op = .buildSlice t 1 #[(0, x)])
    (ie : TypeInfo) (z : Value) (hu : P.underlying t = some (.slice e)) (hie : P.info? e = some ie) (hz : ie.zero = some z) (s : Nat) (hs : ie.size = s) (h0 : 0 < s) (h1 : s ≤ 65536)
    (xs : Array Value) (hx : a.eval x = .agg xs) (hxs : xs.size = s)
    (h : wpList P ops Q rest (a.put o.dst (.slice (some ⟨w.heap.size, 0, none⟩) 1 1)) (w.alloc (.cells xs e))) : wpList P ops Q (o :: rest) a w := by
  refine wpList_buildSlice hg t e 1 #[(0, x)] ho xs ie z hu hie hz (by rw [hs]; omega) (by rw [hs]; omega) ?_ h
  rw [hs]
  simp only [List.map_toArray, List.map_cons, List.map_nil, hx]
  exact fill_one s h0 xs _ hxs (by simp)

/-- A long array, loaded in a region that only reads. -/
theorem wpQuiet_load_mid {P : Program} {ops : Array Oper} {Q : Act → Prop} {a : Act} {o : Oper} {rest : List Oper} {w : World} (hgd : o.guard = none) (ty : TypeId) (x : Operand) (ho : o.op = .load ty x)
    (b off : Nat) (hx : a.eval x = .pointer (some ⟨b, off, none⟩)) (cs : List Value) (d : TypeDesc) (hc : w.rangeAt b off cs)
    (hu : P.underlying ty = some d) (hd : d.isRow = true) (hi : (P.info? ty).map (·.size) = some cs.length)
    (h : wpQuiet P ops (fun w' => ∃ n, w' = w.drewN n) Q rest (a.put o.dst (.agg cs.toArray))) : wpQuiet P ops (fun w' => ∃ n, w' = w.drewN n) Q (o :: rest) a := by
  refine wpQuiet_step fun K hK => ?_
  rw [if_pos (by simp [Region.wanted, hgd])]
  refine ⟨.agg cs.toArray, ?_, hK _ h⟩
  rintro w' ⟨n, rfl⟩
  unfold Oper.quietAt execOp
  simp only [ho, hx, Instr.loadAt, Instr.sureAddr, Sem.run_bind, Sem.run_pure, Result.andThen_ok, run_loadVar_mid (w.drewN n) b off ty cs d hc hu hd hi]
  exact ⟨rfl, rfl⟩

end Go.Proofs.Ytkgajcifanobnaa

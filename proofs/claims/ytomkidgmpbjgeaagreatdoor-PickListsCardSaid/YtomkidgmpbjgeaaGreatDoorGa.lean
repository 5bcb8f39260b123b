/-
  Texts of this claim, joined: MemA, CopyA, ArrM, HeldA, HeldB, RegA, RowP, Fact, FxM, FxP, OwnD, LitL, PairM, SafP, TabP, TabM, TabN, TabQ. What each shows, and its conditions, stand at its own head.
-/
import Derived.Handy
import Derived.Lib.Hide
import Derived.Below
import Derived.Deep.Draws
import Derived.Maps.AppendAt
import Derived.Deep.AppendLies
import Derived.OwnWalk
import Derived.Laws.BytesString
import Derived.Deep.MidRow
import Derived.Great.BuildSlice
import Derived.Deep.QuietTactic
import Derived.BigQuiet
import Derived.Laws.CopyOwn
import Derived.Laws.MakeOwn
import Derived.Deep.WholeRow
import Derived.Deep.RegionHeld3
import Derived.Test.YtomkidgmpbjgeaaGreatDoorRows
/-
  Slices of integers in memory: what one reads as, that reading kept, cut, made a string, and appended to a row of the call's own.
  Conditions: those that each theorem names.
-/
set_option maxRecDepth 100000
namespace Go.Proofs.YtomkidgmpbjgeaaGreatDoor
open Go.ChangeShapes Go.WideShapes Go.ChangeAt Go.RowKit

/-- The slice (A, n, ..) reads as the numbers zs, and lies below block B; nil and empty ones let in. -/
def Rd (k : IntKind) (w : World) (B : Nat) (A : Option Addr) (n : Nat) (zs : List Int) : Prop :=
  zs.length = n ∧ (0 < n → ∃ b off, A = some ⟨b, off, none⟩ ∧ b < B ∧ ∀ j, j < n → w.cell? ⟨b, off + j, none⟩ = some (.int k (zs.getD j 0)))

theorem add_flat (b off j : Nat) : (⟨b, off, none⟩ : Addr).add j = ⟨b, off + j, none⟩ := by
  unfold Addr.add
  split
  · rename_i h; rw [h]; rfl
  · rfl

section
variable {k : IntKind} {w w' : World} {B B' n : Nat} {A : Option Addr} {zs ys : List Int}
theorem Rd.len (h : Rd k w B A n zs) : zs.length = n := h.1
theorem Rd.none_ : Rd k w B A 0 [] := ⟨rfl, fun h => absurd h (by omega)⟩
theorem Rd.at_ (h : Rd k w B A n zs) (hn : 0 < n) : ∃ b off, A = some ⟨b, off, none⟩ ∧ b < B ∧ ∀ j, j < n → w.cell? ⟨b, off + j, none⟩ = some (.int k (zs.getD j 0)) := h.2 hn
theorem Rd.keep (h : Rd k w B A n zs) (hk : ∀ p : Addr, p.block < B → w'.cell? p = w.cell? p) : Rd k w' B A n zs :=
  ⟨h.1, fun hn => by
    obtain ⟨b, off, e, hb, hc⟩ := h.2 hn
    exact ⟨b, off, e, hb, fun j hj => (hk ⟨b, off + j, none⟩ hb).trans (hc j hj)⟩⟩
theorem Rd.mono (h : Rd k w B A n zs) (hB : B ≤ B') : Rd k w B' A n zs :=
  ⟨h.1, fun hn => by
    obtain ⟨b, off, e, hb, hc⟩ := h.2 hn
    exact ⟨b, off, e, by omega, hc⟩⟩
theorem Rd.below (h : Rd k w B A n zs) (hb : Below B w w') : Rd k w' B A n zs := h.keep fun _ hp => hb.cell hp
theorem Rd.drew (h : Rd k w B A n zs) : Rd k w.drew B A n zs := h
theorem Rd.drewN (h : Rd k w B A n zs) (m : Nat) : Rd k (w.drewN m) B A n zs := h
theorem Rd.alloc (h : Rd k w B A n zs) (hB : B ≤ w.heap.size) (o : Obj) : Rd k (w.alloc o) B A n zs := h.keep fun p hp => World.cell?_alloc_lt w o p (by omega)
/-- Within the world's own size. -/
theorem Rd.fit (h : Rd k w B A n zs) : Rd k w w.heap.size A n zs :=
  ⟨h.1, fun hn => by
    obtain ⟨b, off, e, hb, hc⟩ := h.2 hn
    exact ⟨b, off, e, World.block_lt_of_cell? w _ (hc 0 hn), hc⟩⟩
/-- What a row of the call's own reads as. -/
theorem Rd.of_own {base c : Nat} {e : TypeId} (h : w.ownsRow base e 1 (.slice A n c) n (zs.map (Value.int k))) : Rd k w w.heap.size A n zs := by
  refine ⟨by have := h.1; simpa using this, fun hn => ?_⟩
  obtain ⟨g, cap, hv, _, hlt⟩ := h.form hn
  have hA : A = some ⟨g, 0, none⟩ := by injection hv
  subst hA
  refine ⟨g, 0, rfl, hlt, fun j hj => ?_⟩
  have hl : j < zs.length := by have := h.1; simp at this; omega
  have hc := h.cells (g := g) rfl j (.int k (zs.getD j 0)) (by simp [hl])
  rw [add_flat] at hc
  exact hc
/-- Cut: from i on, up to j. -/
theorem Rd.cut (h : Rd k w B A n zs) {i j cap : Nat} (hi : i ≤ j) (hj : j ≤ n) (hc : n ≤ cap) :
    Rd k w B (if cap = i then A else A.map (·.add (i * 1))) (j - i) ((zs.take j).drop i) := by
  refine ⟨by rw [List.length_drop, List.length_take, h.1]; omega, fun hn => ?_⟩
  obtain ⟨b, off, rfl, hb, hcell⟩ := h.2 (by omega)
  rw [if_neg (by omega)]
  refine ⟨b, off + i, by rw [Option.map_some, Nat.mul_one, add_flat], hb, fun m hm => ?_⟩
  rw [Nat.add_assoc, hcell (i + m) (by omega)]
  congr 2
  simp only [List.getD_eq_getElem?_getD, List.getElem?_drop, List.getElem?_take]
  rw [if_pos (by omega)]
theorem Rd.from_ (h : Rd k w B A n zs) {i cap : Nat} (hi : i ≤ n) (hc : n ≤ cap) :
    Rd k w B (if cap = i then A else A.map (·.add (i * 1))) (n - i) (zs.drop i) := by
  have := h.cut hi (Nat.le_refl n) hc
  rwa [List.take_of_length_le (by rw [h.1]; exact Nat.le_refl _)] at this
theorem Rd.upto (h : Rd k w B A n zs) {j : Nat} (hj : j ≤ n) : Rd k w B A j (zs.take j) := by
  refine ⟨by rw [List.length_take, h.1]; omega, fun hn => ?_⟩
  obtain ⟨b, off, rfl, hb, hcell⟩ := h.2 (by omega)
  refine ⟨b, off, rfl, hb, fun m hm => ?_⟩
  rw [hcell m (by omega)]
  congr 2
  simp only [List.getD_eq_getElem?_getD, List.getElem?_take]
  rw [if_pos (by omega)]
/-- As the cells that an append takes. -/
theorem Rd.news {ad : Addr} (h : Rd k w B (some ad) n zs) : ∀ j u, (zs.map (Value.int k))[j]? = some u → w.cell? (ad.add j) = some u := by
  intro j u hu
  have hj : j < zs.length := by
    rcases Nat.lt_or_ge j zs.length with h1 | h1
    · exact h1
    · rw [List.getElem?_eq_none (by simpa using h1)] at hu; cases hu
  obtain ⟨b, off, e, _, hc⟩ := h.2 (by rw [← h.1]; omega)
  injection e with e
  subst e
  rw [add_flat, hc j (by rw [← h.1]; exact hj)]
  rw [← hu]
  simp [hj]
end

theorem ints_one (k : IntKind) (zs : List Int) : ∀ u ∈ zs.map (Value.int k), u.oneCell' = true := by
  intro u hu
  obtain ⟨z, _, rfl⟩ := List.mem_map.1 hu
  rfl

/-! ### append onto a row of the call's own -/
section
variable {P : Program} (w : World)
/-- A row of the call's own that holds the numbers zs. -/
def OwnI (w : World) (base : Nat) (e : TypeId) (k : IntKind) (v : Value) (zs : List Int) : Prop := w.ownsRow base e 1 v zs.length (zs.map (Value.int k))
theorem OwnI.form {w : World} {base : Nat} {e : TypeId} {k : IntKind} {v : Value} {zs : List Int} (h : OwnI w base e k v zs) : ∃ A c, v = .slice A zs.length c ∧ zs.length ≤ c ∧ c ≤ maxLen := by
  rcases h.2 with ⟨rfl, hn⟩ | ⟨g, cap, cur, rfl, _, _, h1, h2, _⟩
  · exact ⟨none, 0, by rw [hn], by omega, by simp [maxLen]⟩
  · exact ⟨_, _, rfl, h1, h2⟩
theorem OwnI.rd {w : World} {base : Nat} {e : TypeId} {k : IntKind} {A : Option Addr} {n c : Nat} {zs : List Int} (h : OwnI w base e k (.slice A n c) zs) (hn : zs.length = n) : Rd k w w.heap.size A n zs := by
  subst hn
  exact Rd.of_own h
theorem OwnI.block_ge {w : World} {base : Nat} {e : TypeId} {k : IntKind} {v : Value} {zs : List Int} (h : OwnI w base e k v zs) : ∀ g, v.ownBlock = some g → base ≤ g := by
  intro g hg
  rcases h.2 with ⟨rfl, _⟩ | ⟨g', cap, cur, rfl, hb, _⟩
  · simp [Value.ownBlock] at hg
  · simp [Value.ownBlock] at hg
    omega
theorem OwnI.drew {w : World} {base : Nat} {e : TypeId} {k : IntKind} {v : Value} {zs : List Int} (h : OwnI w base e k v zs) : OwnI w.drew base e k v zs := h

theorem run_append_nothing (base : Nat) (t ty e : TypeId) (i : TypeInfo) (ht : P.underlying t = some (.slice e)) (hi : P.info? e = some i)
    (v : Value) (n : Nat) (xs : List Value) (hown : w.ownsRow base e 1 v n xs) (c : Nat) : (Builtin.append_ #[t, t] ty #[v, .slice none 0 c]).run P w = .ok v w := by
  rcases hown.2 with ⟨rfl, rfl⟩ | ⟨g, cap, cur, rfl, _, _, hnc, _⟩
  · simp [Builtin.append_, run_underlying ht, sizeOf, typeInfo, hi, Builtin.lenOf, Builtin.firstCells]
  · simp [Builtin.append_, run_underlying ht, sizeOf, typeInfo, hi, Builtin.lenOf, Builtin.firstCells, hnc, storeCells]

theorem run_append_ints (base : Nat) (t ty e : TypeId) (i : TypeInfo) (z : Value) (bytes : Nat) (k : IntKind) (ht : P.underlying t = some (.slice e)) (hi : P.info? e = some i) (hz : i.zero = some z)
    (hsize : i.size = 1) (hby : i.bytes = bytes) (hzs : z.cells.size = 1) (v : Value) (zs : List Int) (hown : OwnI w base e k v zs)
    (B : Nat) (A : Option Addr) (m c : Nat) (ys : List Int) (hr : Rd k w B A m ys)
    (h63 : zs.length + m ≤ maxLen) (hbytes : (zs.length + m) * bytes ≤ 140737488355328) (hbase : base ≤ w.heap.size) :
    ∃ v' w', (Builtin.append_ #[t, t] ty #[v, .slice A m c]).run P w = .ok v' w' ∧ OwnI w' base e k v' (zs ++ ys) ∧ w.grownBy w' v.ownBlock ∧
      (v'.ownBlock = v.ownBlock ∨ v'.ownBlock = some w.heap.size) := by
  rcases A with _ | ad
  · have hm : m = 0 := by
      rcases Nat.eq_zero_or_pos m with h0 | h0
      · exact h0
      · obtain ⟨b, off, e, _⟩ := hr.2 h0
        cases e
    subst hm
    have hn : ys = [] := List.eq_nil_of_length_eq_zero hr.1
    subst hn
    exact ⟨v, w, run_append_nothing w base t ty e i ht hi v _ _ hown c, by simpa using hown, World.grownBy.refl w _, .inl rfl⟩
  · obtain ⟨v', w', hrun, h2, h3, _, h5⟩ := run_append_own_at (P := P) w base t ty e i z 1 bytes ht hi hz hsize hby hzs (by omega) v zs.length _ hown ad m c (ys.map (Value.int k)) (by simpa using hr.1) hr.news (ints_one k ys) h63 hbytes hbase
    refine ⟨v', w', hrun, ?_, h3, h5⟩
    unfold OwnI
    rw [List.length_append, hr.1, List.map_append]
    exact h2

theorem wp_append_ints {o : Oper} {a : Act} {K : Act → World → Prop} {Q : Exit → Act → World → Prop} (s x : Operand) (t : TypeId)
    (ho : o.op = .call { callee := .builtin .append, args := #[s, x], argTypes := #[t, t] })
    (base : Nat) (e : TypeId) (i : TypeInfo) (z : Value) (bytes : Nat) (k : IntKind) (ht : P.underlying t = some (.slice e)) (hi : P.info? e = some i) (hz : i.zero = some z)
    (hsize : i.size = 1) (hby : i.bytes = bytes) (hzs : z.cells.size = 1) (v : Value) (zs : List Int) (hs : a.eval s = v) (hown : OwnI w base e k v zs)
    (B : Nat) (A : Option Addr) (m c : Nat) (ys : List Int) (hx : a.eval x = .slice A m c) (hr : Rd k w B A m ys)
    (h63 : zs.length + m ≤ maxLen) (hbytes : (zs.length + m) * bytes ≤ 140737488355328) (hbase : base ≤ w.heap.size)
    (h : ∀ v' w', OwnI w' base e k v' (zs ++ ys) → w.grownBy w' v.ownBlock → (v'.ownBlock = v.ownBlock ∨ v'.ownBlock = some w.heap.size) → K (a.put o.dst v') w') : o.wp P a w K Q := by
  obtain ⟨v', w', hrun, h2, h3, h4⟩ := run_append_ints (P := P) w base t o.type e i z bytes k ht hi hz hsize hby hzs v zs hown B A m c ys hr h63 hbytes hbase
  unfold Oper.wp execOp
  simp only [ho, resolve, invoke, builtin, Sem.run_bind, Sem.run_pure, Result.andThen_ok, List.map_toArray, List.map_cons, List.map_nil, hs, hx, hrun]
  exact h v' w' h2 h3 h4

theorem wpList_append_ints {ops : Array Oper} {rest : List Oper} {o : Oper} {a : Act} {Q : Exit → Act → World → Prop} (hgd : o.guard = none) (s x : Operand) (t : TypeId)
    (ho : o.op = .call { callee := .builtin .append, args := #[s, x], argTypes := #[t, t] })
    (base : Nat) (e : TypeId) (i : TypeInfo) (z : Value) (bytes : Nat) (k : IntKind) (ht : P.underlying t = some (.slice e)) (hi : P.info? e = some i) (hz : i.zero = some z)
    (hsize : i.size = 1) (hby : i.bytes = bytes) (hzs : z.cells.size = 1) (v : Value) (zs : List Int) (hs : a.eval s = v) (hown : OwnI w base e k v zs)
    (B : Nat) (A : Option Addr) (m c : Nat) (ys : List Int) (hx : a.eval x = .slice A m c) (hr : Rd k w B A m ys)
    (h63 : zs.length + m ≤ maxLen) (hbytes : (zs.length + m) * bytes ≤ 140737488355328) (hbase : base ≤ w.heap.size)
    (h : ∀ v' w', OwnI w' base e k v' (zs ++ ys) → w.grownBy w' v.ownBlock → (v'.ownBlock = v.ownBlock ∨ v'.ownBlock = some w.heap.size) → wpList P ops Q rest (a.put o.dst v') w') : wpList P ops Q (o :: rest) a w :=
  wpList_plain hgd fun _ hK => wp_append_ints w s x t ho base e i z bytes k ht hi hz hsize hby hzs v zs hs hown B A m c ys hx hr h63 hbytes hbase fun v' w' h2 h3 h4 => hK _ _ (h v' w' h2 h3 h4)
end

theorem step_append_ints {P : Program} (w : World) {ops : Array Oper} {o : Oper} {a : Act} {K : Act → World → Prop} {Q : Exit → Act → World → Prop} {E : Prop} (hgd : o.guard = none) (s x : Operand) (t : TypeId)
    (ho : o.op = .call { callee := .builtin .append, args := #[s, x], argTypes := #[t, t] })
    (base : Nat) (e : TypeId) (i : TypeInfo) (z : Value) (bytes : Nat) (k : IntKind) (ht : P.underlying t = some (.slice e)) (hi : P.info? e = some i) (hz : i.zero = some z)
    (hsize : i.size = 1) (hby : i.bytes = bytes) (hzs : z.cells.size = 1) (v : Value) (zs : List Int) (hs : a.eval s = v) (hown : OwnI w base e k v zs)
    (B : Nat) (A : Option Addr) (m c : Nat) (ys : List Int) (hx : a.eval x = .slice A m c) (hr : Rd k w B A m ys)
    (h63 : zs.length + m ≤ maxLen) (hbytes : (zs.length + m) * bytes ≤ 140737488355328) (hbase : base ≤ w.heap.size)
    (h : ∀ v' w', OwnI w' base e k v' (zs ++ ys) → w.grownBy w' v.ownBlock → (v'.ownBlock = v.ownBlock ∨ v'.ownBlock = some w.heap.size) → K (a.put o.dst v') w') :
    if Region.wanted o (yielded ops a.tmps) = true then Oper.wp P o a w K Q else E := by
  rw [if_pos (by simp [Region.wanted, hgd])]
  exact wp_append_ints w s x t ho base e i z bytes k ht hi hz hsize hby hzs v zs hs hown B A m c ys hx hr h63 hbytes hbase h

/-! ### bytes as a string -/
def strB (zs : List Int) : ByteArray := zs.foldl (fun r n => r.push (UInt8.ofNat n.toNat)) ByteArray.empty
theorem run_str {P : Program} {w : World} {src dst e : TypeId} {B : Nat} {A : Option Addr} {n c : Nat} {zs : List Int}
    (hs : P.underlying src = some (.slice e)) (he : P.underlying e = some (.int .u8)) (hd : P.underlying dst = some .string) (h : Rd .u8 w B A n zs) (hA : A = none → n = 0) :
    (convert src dst (.slice A n c)).run P w = .ok (.string (strB zs)) w := by
  rw [run_convert_bytes_string w src dst e A n c hs he hd]
  rcases A with _ | ad
  · have hn := hA rfl
    subst hn
    have : zs = [] := List.eq_nil_of_length_eq_zero h.1
    subst this
    simp [Conv.bytesToString, strB, go_sem]
  · have hl := run_loadCells_list (P := P) (w := w) ad (zs.map (Value.int .u8)) h.news
    rw [List.length_map, h.1] at hl
    exact run_bytesToString w ad n c zs hl
theorem strB_foldl (zs : List Int) : ∀ r : ByteArray, (zs.foldl (fun r n => r.push (UInt8.ofNat n.toNat)) r).data.toList = r.data.toList ++ zs.map fun n => UInt8.ofNat n.toNat := by
  induction zs with
  | nil => intro r; simp
  | cons z zs ih =>
    intro r
    rw [List.foldl_cons, ih]
    simp
theorem strB_list (zs : List Int) : (strB zs).data.toList = zs.map fun n => UInt8.ofNat n.toNat := by
  unfold strB
  rw [strB_foldl]
  simp
theorem strB_inj {zs ys : List Int} (hz : ∀ z ∈ zs, 0 ≤ z ∧ z < 256) (hy : ∀ z ∈ ys, 0 ≤ z ∧ z < 256) (h : strB zs = strB ys) : zs = ys := by
  have h1 : zs.map (fun n => UInt8.ofNat n.toNat) = ys.map fun n => UInt8.ofNat n.toNat := by rw [← strB_list, ← strB_list, h]
  have back : ∀ l : List Int, (∀ z ∈ l, 0 ≤ z ∧ z < 256) → (l.map fun n => UInt8.ofNat n.toNat).map (fun u => (u.toNat : Int)) = l := by
    intro l hl
    rw [List.map_map]
    conv => rhs; rw [← List.map_id l]
    apply List.map_congr_left
    intro z hz
    have := hl z hz
    simp only [Function.comp_def, UInt8.toNat_ofNat', id]
    omega
  rw [← back zs hz, ← back ys hy, h1]
theorem strB_eq {zs ys : List Int} (hz : ∀ z ∈ zs, 0 ≤ z ∧ z < 256) (hy : ∀ z ∈ ys, 0 ≤ z ∧ z < 256) : (strB zs = strB ys) ↔ zs = ys := ⟨strB_inj hz hy, fun h => by rw [h]⟩

theorem below_of_drew {B : Nat} {w w' : World} (h : Below B w.drew w') : Below B w w' := ⟨h.os, h.tape, h.output, h.size, h.block⟩
theorem belNext {W w1 w2 : World} (hb : Below w1.heap.size w1 w2) (h : Below W.heap.size W w1) : Below W.heap.size W w2 := h.trans (hb.mono h.size)
theorem below_drewN {B : Nat} {a w : World} (h : Below B a w) (n : Nat) : Below B a (w.drewN n) := ⟨h.os, h.tape, h.output, h.size, h.block⟩

/-! ### blocks that are known whole; what an append leaves -/
def Blk (w : World) (g : Nat) (t : TypeId) (cs : Array Value) : Prop := w.heap[g]? = some (.cells cs t (0, 0))
section
variable {w w' : World} {g base : Nat} {t e : TypeId} {cs : Array Value} {k : IntKind} {v : Value} {zs : List Int}
theorem Blk.lt (h : Blk w g t cs) : g < w.heap.size := by
  rcases Nat.lt_or_ge g w.heap.size with hlt | hge
  · exact hlt
  · unfold Blk at h; rw [Array.getElem?_eq_none hge] at h; cases h
theorem Blk.cell (h : Blk w g t cs) (i : Nat) : w.cell? ⟨g, i, none⟩ = cs[i]? := cell_of_row w g i cs t (0, 0) h
theorem Blk.new (w : World) (t : TypeId) (cs : Array Value) : Blk (w.alloc (.cells cs t)) w.heap.size t cs := heap_alloc_new w _
theorem Blk.frozen (h : Blk w g t cs) (i : Nat) : w.frozen? ⟨g, i, none⟩ = false := by
  unfold Blk at h
  simp [World.frozen?, h]
theorem Blk.set_ (h : Blk w g t cs) (i : Nat) (u : Value) : Blk (w.setCell ⟨g, i, none⟩ u) g t (cs.setIfInBounds i u) := by
  unfold Blk at h ⊢
  simp [World.setCell, Array.getElem?_modify, h]
theorem Blk.far (h : Blk w g t cs) {p : Addr} (hp : g ≠ p.block) (u : Value) : Blk (w.setCell p u) g t cs := (Below.heap_setCell w p u g hp).trans h
theorem Blk.range (h : Blk w g t cs) : w.rangeAt g 0 cs.toList := by
  intro j v hv
  rw [Nat.zero_add, h.cell j]
  simpa using hv
theorem Blk.drew (h : Blk w g t cs) : Blk w.drew g t cs := h
theorem Blk.alloc (h : Blk w g t cs) (o : Obj) : Blk (w.alloc o) g t cs := (Below.heap_alloc w o g h.lt).trans h
theorem Blk.below {B : Nat} (h : Blk w g t cs) (hb : Below B w w') (hg : g < B) : Blk w' g t cs := (hb.block g hg).trans h
/-- An append onto a row of another element type leaves it. -/
theorem Blk.grown (h : Blk w g t cs) (ho : OwnI w base e k v zs) (hne : e ≠ t) (hb : w.grownBy w' v.ownBlock) : Blk w' g t cs := by
  refine (hb.block g h.lt ?_).trans h
  rcases ho.2 with ⟨rfl, _⟩ | ⟨g', cap, cur, rfl, _, hh, _⟩
  · simp [Value.ownBlock]
  · intro he
    have hgg : g = g' := by simpa [Value.ownBlock] using he
    subst hgg
    unfold Blk at h
    rw [hh] at h
    injection h with h
    injection h with _ ht
    exact hne ht
theorem OwnI.alloc (h : OwnI w base e k v zs) (o : Obj) : OwnI (w.alloc o) base e k v zs := World.ownsRow.alloc h o
theorem OwnI.below_ (h : OwnI w base e k v zs) {w0 : World} (hb : Below base w0 w) (hbase : base ≤ w.heap.size) (hg : w.grownBy w' v.ownBlock) : Below base w0 w' :=
  hb.grown hg hbase (fun _ hk => h.block_ge _ hk)
/-- What a callee leaves of it. -/
theorem OwnI.below (h : OwnI w base e k v zs) (hb : Below w.heap.size w w') : OwnI w' base e k v zs := by
  refine ⟨h.1, ?_⟩
  rcases h.2 with h1 | ⟨g, cap, cur, h1, h2, h3, h4⟩
  · exact .inl h1
  · have hlt : g < w.heap.size := by
      rcases Nat.lt_or_ge g w.heap.size with h5 | h5
      · exact h5
      · rw [Array.getElem?_eq_none h5] at h3; cases h3
    exact .inr ⟨g, cap, cur, h1, h2, (hb.block g hlt).trans h3, h4⟩
/-- An empty slice of the call's own. -/
theorem own_empty (w : World) (e : TypeId) (k : IntKind) (hB : base ≤ w.heap.size) : OwnI (w.alloc (.cells #[] e)) base e k (.slice (some ⟨w.heap.size, 0, none⟩) 0 0) [] :=
  ⟨rfl, .inr ⟨w.heap.size, 0, #[], rfl, hB, heap_alloc_new w _, Nat.le_refl _, by simp [maxLen], rfl, rfl⟩⟩
theorem own_nil (w : World) (e : TypeId) (k : IntKind) : OwnI w base e k (.slice none 0 0) [] := ⟨rfl, .inl ⟨rfl, rfl⟩⟩
/-- The one element that is about to be appended. -/
theorem rd_one (w : World) (e : TypeId) (k : IntKind) (z : Int) : Rd k (w.alloc (.cells #[.int k z] e)) (w.heap.size + 1) (some ⟨w.heap.size, 0, none⟩) 1 [z] := by
  refine ⟨rfl, fun _ => ⟨w.heap.size, 0, rfl, by omega, fun j hj => ?_⟩⟩
  obtain rfl : j = 0 := by omega
  rw [(Blk.new w e #[.int k z]).cell]
  rfl
end
/-- The slice's cells lie apart from the row. -/
def Apart (n : Nat) (A : Option Addr) (v : Value) : Prop := ∀ b off, 0 < n → A = some ⟨b, off, none⟩ → v.ownBlock ≠ some b
theorem Rd.grownA {k : IntKind} {w w' : World} {B n : Nat} {A : Option Addr} {zs : List Int} {v : Value} (h : Rd k w B A n zs) (ha : Apart n A v) (hB : B ≤ w.heap.size) (hg : w.grownBy w' v.ownBlock) : Rd k w' B A n zs :=
  ⟨h.1, fun hn => by
    obtain ⟨b, off, e, hb, hc⟩ := h.2 hn
    refine ⟨b, off, e, hb, fun j hj => ?_⟩
    rw [← hc j hj]
    exact World.cell?_of_block (hg.block b (by omega) (fun h1 => ha b off hn e h1.symm))⟩
/-- A row without room lies apart from whatever has cells; so does what an append makes of it. -/
theorem keep_empty {k k' : IntKind} {w w' : World} {B n base g : Nat} {e : TypeId} {A : Option Addr} {zs : List Int} {v' : Value} (h : Rd k w B A n zs) (hB : B ≤ w.heap.size) (ho : OwnI w base e k' (.slice (some ⟨g, 0, none⟩) 0 0) [])
    (hg : w.grownBy w' (some g)) (hat : v'.ownBlock = some g ∨ v'.ownBlock = some w.heap.size) : Rd k w' B A n zs ∧ Apart n A v' := by
  have hne : ∀ b off, 0 < n → A = some ⟨b, off, none⟩ → b ≠ g ∧ b < w.heap.size := by
    intro b off hn eA
    obtain ⟨b1, off1, e1, hb1, hc1⟩ := h.2 hn
    rw [eA] at e1
    injection e1 with e1
    injection e1 with e2 e3
    subst e2
    subst e3
    refine ⟨?_, by omega⟩
    intro hbg
    subst hbg
    rcases ho.2 with ⟨h1, _⟩ | ⟨g', cap, cur, h1, _, h3, _, _, h6, _⟩
    · cases h1
    · injection h1 with h1 _ h2
      injection h1 with h1
      injection h1 with h1
      subst h1
      subst h2
      have h0 := hc1 0 hn
      rw [Nat.add_zero, cell_of_row w b off cur e (0, 0) h3, Array.getElem?_eq_none (by omega)] at h0
      cases h0
  refine ⟨h.grownA (v := .slice (some ⟨g, 0, none⟩) 0 0) (fun b off hn e h1 => ?_) hB hg, fun b off hn e h1 => ?_⟩
  · have := (hne b off hn e).1
    simp [Value.ownBlock] at h1
    exact this h1.symm
  · obtain ⟨h2, h3⟩ := hne b off hn e
    rcases hat with h4 | h4 <;> rw [h1] at h4 <;> injection h4 <;> omega
def lenV : Value → Nat
  | .slice _ n _ => n
  | _ => 0


/-! ### slices of arrays of integers -/
/-- A row of the call's own that holds arrays of s numbers each. -/
def OwnA (w : World) (base : Nat) (e : TypeId) (s : Nat) (k : IntKind) (v : Value) (bs : List (List Int)) : Prop :=
  w.ownsRow base e s v bs.length (bs.flatten.map (Value.int k)) ∧ ∀ x ∈ bs, x.length = s
/-- The slice reads as the arrays bs. -/
def RdA (k : IntKind) (s : Nat) (w : World) (B : Nat) (A : Option Addr) (n : Nat) (bs : List (List Int)) : Prop :=
  bs.length = n ∧ (∀ x ∈ bs, x.length = s) ∧ (0 < n → ∃ b off, A = some ⟨b, off, none⟩ ∧ b < B ∧ w.rangeAt b off (bs.flatten.map (Value.int k)))
theorem flatten_len {s : Nat} : ∀ {bs : List (List Int)}, (∀ x ∈ bs, x.length = s) → bs.flatten.length = bs.length * s
  | [], _ => by simp
  | x :: bs, h => by
    rw [List.flatten_cons, List.length_append, h x (by simp), flatten_len (bs := bs) fun y hy => h y (by simp [hy]), List.length_cons, Nat.add_mul]
    omega
theorem flatten_at {s : Nat} : ∀ {bs : List (List Int)}, (∀ x ∈ bs, x.length = s) → ∀ {i j : Nat}, i < bs.length → j < s → bs.flatten[i * s + j]? = (bs.getD i [])[j]?
  | [], _, i, j, hi, _ => by simp at hi
  | x :: bs, h, i, j, hi, hj => by
    have hx := h x (by simp)
    rw [List.flatten_cons]
    rcases i with _ | i
    · rw [Nat.zero_mul, Nat.zero_add, List.getElem?_append_left (by omega)]
      rfl
    · rw [List.getElem?_append_right (by rw [hx, Nat.add_mul]; omega), hx, show (i + 1) * s + j - s = i * s + j by rw [Nat.add_mul]; omega,
        flatten_at (bs := bs) (fun y hy => h y (by simp [hy])) (by simpa using hi) hj]
      rfl
section
variable {k : IntKind} {s : Nat} {w w' : World} {B B' n base : Nat} {A : Option Addr} {bs : List (List Int)} {e : TypeId} {v : Value}
theorem RdA.below (h : RdA k s w B A n bs) (hb : Below B w w') : RdA k s w' B A n bs :=
  ⟨h.1, h.2.1, fun hn => by
    obtain ⟨b, off, e, hlt, hc⟩ := h.2.2 hn
    exact ⟨b, off, e, hlt, fun j u hu => (hb.cell (p := ⟨b, off + j, none⟩) hlt).trans (hc j u hu)⟩⟩
theorem RdA.mono (h : RdA k s w B A n bs) (hB : B ≤ B') : RdA k s w B' A n bs :=
  ⟨h.1, h.2.1, fun hn => by
    obtain ⟨b, off, e, hlt, hc⟩ := h.2.2 hn
    exact ⟨b, off, e, by omega, hc⟩⟩
/-- One of its arrays. -/
theorem RdA.at_ (h : RdA k s w B A n bs) {i : Nat} (hi : i < n) : ∃ b off, A = some ⟨b, off, none⟩ ∧ b < B ∧ w.rangeAt b (off + i * s) ((bs.getD i []).map (Value.int k)) := by
  obtain ⟨b, off, e, hlt, hc⟩ := h.2.2 (by omega)
  refine ⟨b, off, e, hlt, fun j u hu => ?_⟩
  have hi' : i < bs.length := by rw [h.1]; exact hi
  have hl : (bs.getD i []).length = s := h.2.1 _ (by simp [List.getD, List.getElem?_eq_getElem hi'])
  have hj : j < s := by
    rcases Nat.lt_or_ge j s with h1 | h1
    · exact h1
    · rw [List.getElem?_eq_none (by rw [List.length_map, hl]; exact h1)] at hu; cases hu
  rw [Nat.add_assoc]
  apply hc
  rw [List.getElem?_map] at hu ⊢
  rw [flatten_at h.2.1 hi' hj]
  exact hu
theorem OwnA.below (h : OwnA w base e s k v bs) (hb : Below w.heap.size w w') : OwnA w' base e s k v bs := by
  refine ⟨⟨h.1.1, ?_⟩, h.2⟩
  rcases h.1.2 with h1 | ⟨g, cap, cur, h1, h2, h3, h4⟩
  · exact .inl h1
  · have hlt : g < w.heap.size := by
      rcases Nat.lt_or_ge g w.heap.size with h5 | h5
      · exact h5
      · rw [Array.getElem?_eq_none h5] at h3; cases h3
    exact .inr ⟨g, cap, cur, h1, h2, (hb.block g hlt).trans h3, h4⟩
theorem OwnA.alloc (h : OwnA w base e s k v bs) (o : Obj) : OwnA (w.alloc o) base e s k v bs := ⟨World.ownsRow.alloc h.1 o, h.2⟩
theorem OwnA.form (h : OwnA w base e s k v bs) : ∃ A c, v = .slice A bs.length c ∧ bs.length ≤ c ∧ c ≤ maxLen := by
  rcases h.1.2 with ⟨rfl, hn⟩ | ⟨g, cap, cur, rfl, _, _, h1, h2, _⟩
  · exact ⟨none, 0, by rw [hn], by omega, by simp [maxLen]⟩
  · exact ⟨_, _, rfl, h1, h2⟩
theorem OwnA.block_ge (h : OwnA w base e s k v bs) : ∀ g, v.ownBlock = some g → base ≤ g := by
  intro g hg
  rcases h.1.2 with ⟨rfl, _⟩ | ⟨g', cap, cur, rfl, hb, _⟩
  · simp [Value.ownBlock] at hg
  · simp [Value.ownBlock] at hg
    omega
theorem OwnA.below_ (h : OwnA w base e s k v bs) {w0 : World} (hb : Below base w0 w) (hbase : base ≤ w.heap.size) (hg : w.grownBy w' v.ownBlock) : Below base w0 w' :=
  hb.grown hg hbase (fun _ hk => h.block_ge _ hk)
theorem OwnA.rd {c : Nat} (h : OwnA w base e s k (.slice A n c) bs) (hn : bs.length = n) : RdA k s w w.heap.size A n bs := by
  subst hn
  refine ⟨rfl, h.2, fun hn => ?_⟩
  obtain ⟨g, cap, hv, _, hlt⟩ := h.1.form hn
  have hA : A = some ⟨g, 0, none⟩ := by injection hv
  subst hA
  refine ⟨g, 0, rfl, hlt, fun j u hu => ?_⟩
  have hc := h.1.cells (g := g) rfl j u hu
  rw [add_flat] at hc
  exact hc
theorem ownA_nil (w : World) (e : TypeId) (k : IntKind) (base s : Nat) : OwnA w base e s k (.slice none 0 0) [] := ⟨⟨by simp, .inl ⟨rfl, rfl⟩⟩, fun _ h => by cases h⟩
theorem OwnA.more {v' : Value} {x : List Int} (h : OwnA w base e s k v bs) (hx : x.length = s) (h2 : w'.ownsRow base e s v' (bs.length + 1) (bs.flatten.map (Value.int k) ++ x.map (Value.int k))) : OwnA w' base e s k v' (bs ++ [x]) := by
  refine ⟨?_, fun y hy => ?_⟩
  · rw [List.length_append, List.flatten_append, List.map_append]
    simpa using h2
  · rcases List.mem_append.1 hy with h3 | h3
    · exact h.2 y h3
    · rw [List.mem_singleton.1 h3]; exact hx
end

/-! ### the one array that is about to be appended -/
theorem fill_one (s : Nat) (hs : 0 < s) (xs cells : Array Value) (hx : xs.size = s) (hc : cells.size = s) : Instr.fill (fun i => some (i * s, s)) cells [(0, .agg xs)] = some xs := by
  obtain ⟨r, hr, hsz, hk⟩ := Great.fill_dense hs [.agg xs] 0 cells (fun v hv => by rw [List.mem_singleton.1 hv]; exact hx) (by simp [hc])
  rw [show ([Value.agg xs].zipIdx 0).map (fun x => (x.2, x.1)) = [(0, .agg xs)] from rfl] at hr
  rw [hr]
  congr 1
  apply Array.ext_getElem?
  intro k
  rw [hk k]
  by_cases h : k < s
  · rw [if_pos (by simp; exact h), Nat.div_eq_of_lt h, Nat.mod_eq_of_lt h]
    rfl
  · rw [if_neg (by simp; omega), Array.getElem?_eq_none (by omega), Array.getElem?_eq_none (by omega)]
theorem wpList_build_one {P : Program} {ops : Array Oper} {rest : List Oper} {o : Oper} {a : Act} {w : World} {Q : Exit → Act → World → Prop} (hg : o.guard = none) (t e : TypeId) (x : Operand) (ho : o.op = .buildSlice t 1 #[(0, x)])
    (ie : TypeInfo) (z : Value) (hu : P.underlying t = some (.slice e)) (hie : P.info? e = some ie) (hz : ie.zero = some z) (s : Nat) (hs : ie.size = s) (h0 : 0 < s) (h1 : s ≤ 65536)
    (xs : Array Value) (hx : a.eval x = .agg xs) (hxs : xs.size = s)
    (h : wpList P ops Q rest (a.put o.dst (.slice (some ⟨w.heap.size, 0, none⟩) 1 1)) (w.alloc (.cells xs e))) : wpList P ops Q (o :: rest) a w := by
  refine wpList_buildSlice hg t e 1 #[(0, x)] ho xs ie z hu hie hz (by rw [hs]; omega) (by rw [hs]; omega) ?_ h
  rw [hs]
  simp only [List.map_toArray, List.map_cons, List.map_nil, hx]
  exact fill_one s h0 xs _ hxs (by simp)

/-- A long array, loaded in a region that only reads. -/
theorem wpQuiet_load_mid {P : Program} {ops : Array Oper} {Q : Act → Prop} {a : Act} {o : Oper} {rest : List Oper} {w : World} (hgd : o.guard = none) (ty : TypeId) (x : Operand) (ho : o.op = .load ty x)
    (b off : Nat) (hx : a.eval x = .pointer (some ⟨b, off, none⟩)) (cs : List Value) (d : TypeDesc) (hc : w.rangeAt b off cs)
    (hu : P.underlying ty = some d) (hd : d.isRow = true) (hi : (P.info? ty).map (·.size) = some cs.length)
    (h : wpQuiet P ops (fun w' => ∃ n, w' = w.drewN n) Q rest (a.put o.dst (.agg cs.toArray))) : wpQuiet P ops (fun w' => ∃ n, w' = w.drewN n) Q (o :: rest) a := by
  refine wpQuiet_step fun K hK => ?_
  rw [if_pos (by simp [Region.wanted, hgd])]
  refine ⟨.agg cs.toArray, ?_, hK _ h⟩
  rintro w' ⟨n, rfl⟩
  unfold Oper.quietAt execOp
  simp only [ho, hx, Instr.loadAt, Instr.sureAddr, Sem.run_bind, Sem.run_pure, Result.andThen_ok, run_loadVar_mid (w.drewN n) b off ty cs d hc hu hd hi]
  exact ⟨rfl, rfl⟩

end Go.Proofs.YtomkidgmpbjgeaaGreatDoor
/-
  make and copy, for slices of integers: a block that the call itself made, known whole as a list of numbers.
  Conditions: those that each theorem names.
-/
set_option maxRecDepth 100000
namespace Go.Proofs.YtomkidgmpbjgeaaGreatDoor
open Go.ChangeShapes Go.WideShapes Go.ChangeAt Go.RowKit

def intsA (k : IntKind) (zs : List Int) : Array Value := (zs.map (Value.int k)).toArray
theorem intsA_size (k : IntKind) (zs : List Int) : (intsA k zs).size = zs.length := by simp [intsA]
theorem intsA_at (k : IntKind) (zs : List Int) (j : Nat) (hj : j < zs.length) : (intsA k zs)[j]? = some (.int k (zs.getD j 0)) := by simp [intsA, hj]
/-- The block g holds the numbers zs, and nothing else. -/
def BlkI (w : World) (g : Nat) (t : TypeId) (k : IntKind) (zs : List Int) : Prop := Blk w g t (intsA k zs)

theorem splice_map {α β : Type} (f : α → β) (L : List α) (off : Nat) (cs : List α) : splice (L.map f) off (cs.map f) = (splice L off cs).map f := by simp [splice]
theorem madeCells_same (v : Value) (m n : Nat) (hm : 0 < m) : madeCells (List.replicate m v).toArray n = (List.replicate n v).toArray := by
  unfold madeCells
  apply Array.ext
  · simp
  · intro i h1 h2
    have h3 : i % m < m := Nat.mod_lt _ hm
    simp [h3]

section
variable {w w' : World} {g B : Nat} {t : TypeId} {k : IntKind} {zs : List Int}
theorem BlkI.lt (h : BlkI w g t k zs) : g < w.heap.size := Blk.lt h
theorem BlkI.cell (h : BlkI w g t k zs) {j : Nat} (hj : j < zs.length) : w.cell? ⟨g, j, none⟩ = some (.int k (zs.getD j 0)) := by rw [Blk.cell h, intsA_at k zs j hj]
theorem BlkI.new (w : World) (t : TypeId) (k : IntKind) (zs : List Int) : BlkI (w.alloc (.cells (intsA k zs) t)) w.heap.size t k zs := Blk.new _ _ _
theorem BlkI.frozen (h : BlkI w g t k zs) (j : Nat) : w.frozen? ⟨g, j, none⟩ = false := Blk.frozen h j
theorem BlkI.set_ (h : BlkI w g t k zs) (j : Nat) (z : Int) : BlkI (w.setCell ⟨g, j, none⟩ (.int k z)) g t k (zs.set j z) := by
  have h1 := Blk.set_ h j (.int k z)
  unfold BlkI
  rw [show intsA k (zs.set j z) = (intsA k zs).setIfInBounds j (.int k z) by simp [intsA, List.map_set]]
  exact h1
theorem BlkI.drew (h : BlkI w g t k zs) : BlkI w.drew g t k zs := h
theorem BlkI.alloc (h : BlkI w g t k zs) (o : Obj) : BlkI (w.alloc o) g t k zs := Blk.alloc h o
theorem BlkI.below (h : BlkI w g t k zs) (hb : Below B w w') (hg : g < B) : BlkI w' g t k zs := Blk.below h hb hg
theorem BlkI.far (h : BlkI w g t k zs) {p : Addr} (hp : g ≠ p.block) (u : Value) : BlkI (w.setCell p u) g t k zs := Blk.far h hp u
theorem BlkI.other (h : BlkI w g t k zs) {r : Nat} (ho : ∀ j, j ≠ r → w'.heap[j]? = w.heap[j]?) (hg : g ≠ r) : BlkI w' g t k zs := (ho g hg).trans h
theorem BlkI.rdAt (h : BlkI w g t k zs) {off n : Nat} (hn : off + n ≤ zs.length) : Rd k w w.heap.size (some ⟨g, off, none⟩) n ((zs.drop off).take n) := by
  refine ⟨by rw [List.length_take, List.length_drop]; omega, fun _ => ⟨g, off, rfl, h.lt, fun j hj => ?_⟩⟩
  rw [h.cell (by omega)]
  congr 2
  simp only [List.getD_eq_getElem?_getD, List.getElem?_take, List.getElem?_drop]
  rw [if_pos hj]
theorem BlkI.rd (h : BlkI w g t k zs) : Rd k w w.heap.size (some ⟨g, 0, none⟩) zs.length zs := by
  have := h.rdAt (off := 0) (n := zs.length) (by omega)
  rwa [List.drop_zero, List.take_of_length_le (Nat.le_refl _)] at this
theorem BlkI.rdA (h : BlkI w g t k zs) {s : Nat} {bs : List (List Int)} (hz : zs = bs.flatten) (hs : ∀ x ∈ bs, x.length = s) : RdA k s w w.heap.size (some ⟨g, 0, none⟩) bs.length bs := by
  refine ⟨rfl, hs, fun _ => ⟨g, 0, rfl, h.lt, fun j u hu => ?_⟩⟩
  rw [Nat.zero_add, Blk.cell h, hz]
  simpa [intsA] using hu
end

section
variable {P : Program}
theorem run_make_ints (t e : TypeId) (i : TypeInfo) (k : IntKind) (ht : P.underlying t = some (.slice e)) (hi : P.info? e = some i) (hz : i.zero = some (.int k 0)) (hs : i.size = 1)
    (kl kc : IntKind) (n : Nat) (hb : i.bytes * n ≤ 281474976710656) (h63 : n ≤ 9223372036854775807) (w : World) :
    (Instr.makeSlice t (.int kl (n : Int)) (.int kc (n : Int))).run P w = .ok (.slice (some ⟨w.heap.size, 0, none⟩) n n) (w.alloc (.cells (intsA k (List.replicate n 0)) e)) := by
  have hb' : (i.bytes : Int) * (n : Int) ≤ 281474976710656 := by
    have h : ((i.bytes * n : Nat) : Int) ≤ 281474976710656 := by omega
    rwa [Int.natCast_mul] at h
  have hr := run_make (P := P) w t e i _ ht hi hz kl kc n n (by omega) (by omega) hb' (by omega)
  simp only [Int.toNat_natCast, hs, Nat.mul_one] at hr
  rw [hr, show madeCells (Value.int k 0).cells n = intsA k (List.replicate n 0) from ?_]
  have h1 := madeCells_same (.int k 0) 1 n (by omega)
  simpa [intsA, Value.cells] using h1
theorem run_make_arrs (t e : TypeId) (i : TypeInfo) (k : IntKind) (s : Nat) (hs0 : 0 < s) (ht : P.underlying t = some (.slice e)) (hi : P.info? e = some i) (hz : i.zero = some (.agg (List.replicate s (Value.int k 0)).toArray)) (hs : i.size = s)
    (kl kc : IntKind) (n : Nat) (hb : i.bytes * n ≤ 281474976710656) (h63 : n ≤ 9223372036854775807) (w : World) :
    (Instr.makeSlice t (.int kl (n : Int)) (.int kc (n : Int))).run P w = .ok (.slice (some ⟨w.heap.size, 0, none⟩) n n) (w.alloc (.cells (intsA k (List.replicate (n * s) 0)) e)) := by
  have hb' : (i.bytes : Int) * (n : Int) ≤ 281474976710656 := by
    have h : ((i.bytes * n : Nat) : Int) ≤ 281474976710656 := by omega
    rwa [Int.natCast_mul] at h
  have hr := run_make (P := P) w t e i _ ht hi hz kl kc n n (by omega) (by omega) hb' (by omega)
  simp only [Int.toNat_natCast, hs] at hr
  rw [hr, show madeCells (Value.agg (List.replicate s (Value.int k 0)).toArray).cells (n * s) = intsA k (List.replicate (n * s) 0) from ?_]
  have h1 := madeCells_same (.int k 0) s (n * s) hs0
  simpa [intsA, Value.cells] using h1

/-- Guards for an arm of a walk: only at an operation; only at the one that writes slot d. -/
theorem at_any {w : World} {ops : Array Oper} {rest : List Oper} {a : Act} {Q : Exit → Act → World → Prop} {o : Oper} (h : wpList P ops Q (o :: rest) a w) : wpList P ops Q (o :: rest) a w := h
theorem at_dst {w : World} {ops : Array Oper} {rest : List Oper} {a : Act} {Q : Exit → Act → World → Prop} {o : Oper} (d : Tmp) (_ : o.dst = some d) (h : wpList P ops Q (o :: rest) a w) : wpList P ops Q (o :: rest) a w := h
/-- Only at a store through slot d. -/
theorem at_store {w : World} {ops : Array Oper} {rest : List Oper} {a : Act} {Q : Exit → Act → World → Prop} {o : Oper} (d : Tmp) {t : TypeId} {x : Operand} (_ : o.op = .store t (.tmp d) x) (h : wpList P ops Q (o :: rest) a w) : wpList P ops Q (o :: rest) a w := h
/-- An operation whose value is known. -/
theorem wpList_val {w : World} {ops : Array Oper} {rest : List Oper} {o : Oper} {a : Act} {Q : Exit → Act → World → Prop} (hgd : o.guard = none) (v : Value) (hv : (execOp a.eval o).run P w = .ok (.value v) w)
    (h : wpList P ops Q rest (a.put o.dst v) w) : wpList P ops Q (o :: rest) a w := by
  refine wpList_plain hgd fun K hK => ?_
  unfold Oper.wp
  simp only [hv]
  exact hK _ _ h
theorem step_dst {w : World} {ops : Array Oper} {a : Act} {o : Oper} {K : Act → World → Prop} {Q : Exit → Act → World → Prop} {E : Prop} (d : Tmp) (_ : o.dst = some d)
    (h : if Region.wanted o (yielded ops a.tmps) = true then Oper.wp P o a w K Q else E) : if Region.wanted o (yielded ops a.tmps) = true then Oper.wp P o a w K Q else E := h
/-- copy onto a block that is known whole: n numbers go over. -/
theorem wpList_copy_ints {w : World} {ops : Array Oper} {rest : List Oper} {o : Oper} {a : Act} {Q : Exit → Act → World → Prop} (hgd : o.guard = none) (d s : Operand) (dT sT : TypeId)
    (ho : o.op = .call { callee := .builtin .copy, args := #[d, s], argTypes := #[dT, sT] }) (elem : TypeId) (hu : P.underlying dT = some (.slice elem)) (hsz : (P.info? elem).map (·.size) = some 1)
    (dp sp : Option Addr) (dLen dCap sLen sCap : Nat) (hd : a.eval d = .slice dp dLen dCap) (hs : a.eval s = .slice sp sLen sCap)
    (g off : Nat) (k : IntKind) (zs : List Int) (t : TypeId) (hg : BlkI w g t k zs) (n : Nat) (hn : n ≤ sLen ∧ n ≤ dLen ∧ (n = sLen ∨ n = dLen)) (B' : Nat) (ys : List Int) (hr : Rd k w B' sp n ys)
    (hdp : 0 < n → dp = some ⟨g, off, none⟩) (hfit : off + n ≤ zs.length) (B : Nat) (w0 : World) (hb : Below B w0 w) (hBg : B ≤ g)
    (h : ∀ w', Hid (BlkI w' g t k (splice zs off ys)) → Below B w0 w' → wpList P ops Q rest (a.put o.dst (.int .i64 (n : Int))) w') :
    wpList P ops Q (o :: rest) a w := by
  have hl := hr.len
  refine wpList_copy_splice hgd d s dT sT ho elem hu hsz dp sp dLen dCap sLen sCap hd hs g off (zs.map (Value.int k)) t hg (ys.map (Value.int k)) (show (ys.map (Value.int k)).length = min sLen dLen by rw [List.length_map, hl]; omega) ?_ (by simp [hl]; exact hfit) (ints_one k ys) B w0 hb hBg ?_
  · intro h0
    have h1 : 0 < n := by simpa [hl] using h0
    obtain ⟨b, o', e, _, _⟩ := hr.at_ h1
    subst e
    exact ⟨hdp h1, _, rfl, hr.news⟩
  · intro w' h1 h2
    have h3 := h w' (show _ from by rw [splice_map] at h1; exact h1) h2
    rwa [show goInt (ys.map (Value.int k)).length = Value.int .i64 (n : Int) by simp [goInt, hl]]
theorem step_copy_ints {ops : Array Oper} {o : Oper} {a : Act} {w : World} {K : Act → World → Prop} {Q : Exit → Act → World → Prop} {E : Prop} (hgd : o.guard = none) (d s : Operand) (dT sT : TypeId)
    (ho : o.op = .call { callee := .builtin .copy, args := #[d, s], argTypes := #[dT, sT] }) (elem : TypeId) (hu : P.underlying dT = some (.slice elem)) (hsz : (P.info? elem).map (·.size) = some 1)
    (dp sp : Option Addr) (dLen dCap sLen sCap : Nat) (hd : a.eval d = .slice dp dLen dCap) (hs : a.eval s = .slice sp sLen sCap)
    (g off : Nat) (k : IntKind) (zs : List Int) (t : TypeId) (hg : BlkI w g t k zs) (n : Nat) (hn : n ≤ sLen ∧ n ≤ dLen ∧ (n = sLen ∨ n = dLen)) (B' : Nat) (ys : List Int) (hr : Rd k w B' sp n ys)
    (hdp : 0 < n → dp = some ⟨g, off, none⟩) (hfit : off + n ≤ zs.length) (B : Nat) (w0 : World) (hb : Below B w0 w) (hBg : B ≤ g)
    (h : ∀ w', Hid (BlkI w' g t k (splice zs off ys)) → Below B w0 w' → K (a.put o.dst (.int .i64 (n : Int))) w') :
    if Region.wanted o (yielded ops a.tmps) = true then Oper.wp P o a w K Q else E := by
  have hl := hr.len
  refine step_copy_splice hgd d s dT sT ho elem hu hsz dp sp dLen dCap sLen sCap hd hs g off (zs.map (Value.int k)) t hg (ys.map (Value.int k)) (show (ys.map (Value.int k)).length = min sLen dLen by rw [List.length_map, hl]; omega) ?_ (by simp [hl]; exact hfit) (ints_one k ys) B w0 hb hBg ?_
  · intro h0
    have h1 : 0 < n := by simpa [hl] using h0
    obtain ⟨b, o', e, _, _⟩ := hr.at_ h1
    subst e
    exact ⟨hdp h1, _, rfl, hr.news⟩
  · intro w' h1 h2
    have h3 := h w' (show _ from by rw [splice_map] at h1; exact h1) h2
    rwa [show goInt (ys.map (Value.int k)).length = Value.int .i64 (n : Int) by simp [goInt, hl]]
end
end Go.Proofs.YtomkidgmpbjgeaaGreatDoor
/-
  Arrays of integers in blocks of their own: boxed, allocated, loaded and stored whole, handed back as a result that lies in memory.
  Conditions: those that each theorem names.
-/
set_option maxRecDepth 100000
namespace Go.Proofs.YtomkidgmpbjgeaaGreatDoor
open Go.ChangeShapes Go.WideShapes Go.ChangeAt Go.RowKit

section
variable {P : Program} {w : World} {ops : Array Oper} {rest : List Oper} {o : Oper} {a : Act} {Q : Exit → Act → World → Prop}
/-- A value boxed. -/
theorem wpList_box_ints (hgd : o.guard = none) (ty : TypeId) (x : Operand) (ho : o.op = .box ty x) (k : IntKind) (zs : List Int) (hx : a.eval x = .agg (intsA k zs))
    (h : ∀ w', Hid (BlkI w' w.heap.size ty k zs) → Hid (w'.heap.size = w.heap.size + 1) → Below w.heap.size w w' → wpList P ops Q rest (a.put o.dst (.pointer (some ⟨w.heap.size, 0, none⟩))) w') : wpList P ops Q (o :: rest) a w := by
  refine wpList_plain hgd fun K hK => ?_
  unfold Oper.wp execOp
  simp only [ho, hx, Instr.box, newVar, newRow, Value.cells]
  exact hK _ _ (h _ (BlkI.new w ty k zs) (show _ = _ by simp) ((Below.refl _ _).alloc (Nat.le_refl _) _))
/-- A new array. -/
theorem wpList_alloc_ints (hgd : o.guard = none) (ty : TypeId) (ho : o.op = .alloc ty) (k : IntKind) (zs : List Int) (hz : ∀ W, (zeroValue ty).run P W = .ok (.agg (intsA k zs)) W)
    (h : ∀ w', Hid (BlkI w' w.heap.size ty k zs) → Hid (w'.heap.size = w.heap.size + 1) → Below w.heap.size w w' → wpList P ops Q rest (a.put o.dst (.pointer (some ⟨w.heap.size, 0, none⟩))) w') : wpList P ops Q (o :: rest) a w := by
  refine wpList_plain hgd fun K hK => ?_
  unfold Oper.wp execOp
  simp only [ho, Instr.alloc, Sem.run_bind, hz, Result.andThen_ok, newVar, newRow, Value.cells]
  exact hK _ _ (h _ (BlkI.new w ty k _) (show _ = _ by simp) ((Below.refl _ _).alloc (Nat.le_refl _) _))
theorem blk_range {g : Nat} {t : TypeId} {k : IntKind} {zs : List Int} (h : BlkI w g t k zs) : w.rangeAt g 0 (zs.map (Value.int k)) := Blk.range h
/-- The whole array loaded. -/
theorem wpList_load_ints (hgd : o.guard = none) (ty : TypeId) (x : Operand) (ho : o.op = .load ty x) (g : Nat) (hx : a.eval x = .pointer (some ⟨g, 0, none⟩)) (t : TypeId) (k : IntKind) (zs : List Int) (hb : BlkI w g t k zs)
    (d : TypeDesc) (hu : P.underlying ty = some d) (hd : d.isRow = true) (hi : (P.info? ty).map (·.size) = some zs.length)
    (h : wpList P ops Q rest (a.put o.dst (.agg (intsA k zs))) w) : wpList P ops Q (o :: rest) a w :=
  wpList_load_mid hgd ty x ho g 0 hx (zs.map (Value.int k)) d (blk_range hb) hu hd (by rw [List.length_map]; exact hi) h
/-- The same behind a guard that holds. -/
theorem wpList_load_gd (hw : Region.wanted o (yielded ops a.tmps) = true) (ty : TypeId) (x : Operand) (ho : o.op = .load ty x) (g : Nat) (hx : a.eval x = .pointer (some ⟨g, 0, none⟩)) (t : TypeId) (k : IntKind) (zs : List Int) (hb : BlkI w g t k zs)
    (d : TypeDesc) (hu : P.underlying ty = some d) (hd : d.isRow = true) (hi : (P.info? ty).map (·.size) = some zs.length)
    (h : wpList P ops Q rest (a.put o.dst (.agg (intsA k zs))) w) : wpList P ops Q (o :: rest) a w :=
  wpList_step fun K hK => by
    rw [if_pos hw]
    exact wp_load_mid ty x ho g 0 hx (zs.map (Value.int k)) d (blk_range hb) hu hd (by rw [List.length_map]; exact hi) (hK _ _ h)
/-- The whole array stored. -/
theorem wpList_store_ints (hgd : o.guard = none) (ty : TypeId) (x y : Operand) (ho : o.op = .store ty x y) (g : Nat) (hx : a.eval x = .pointer (some ⟨g, 0, none⟩)) (t : TypeId) (k : IntKind) (zs ys : List Int) (hb : BlkI w g t k zs)
    (hy : a.eval y = .agg (intsA k ys)) (hl : zs.length = ys.length) (hi : (P.info? ty).map (·.size) = some ys.length)
    (h : ∀ w', Hid (BlkI w' g t k ys) → Hid (w'.heap.size = w.heap.size) → (∀ B, B ≤ g → Below B w w') → (∀ j, j ≠ g → w'.heap[j]? = w.heap[j]?) → wpList P ops Q rest (a.put o.dst undef) w') : wpList P ops Q (o :: rest) a w := by
  refine wpList_plain hgd fun K hK => ?_
  have hrun := run_storeVar_row (P := P) w g t ty (intsA k zs) (intsA k ys) hb (by rw [intsA_size]; exact hi) (by rw [intsA_size, intsA_size]; exact hl) (all_oneCell_toArray (ints_one k ys))
  unfold Oper.wp execOp
  simp only [ho, hx, hy, Instr.storeAt, Instr.sureAddr, Sem.run_bind, Sem.run_pure, Result.andThen_ok, hrun]
  exact hK _ _ (h _ (setRow_heap w g _ _ t _ hb) (show _ = _ by simp) (fun B hB => below_setRow (Below.refl _ _) hB _) (fun j hj => setRow_other w g j _ hj))
/-- What is handed back out of memory. -/
theorem bodyPost_cell {fn : Func} {R : Ending → World → Prop} (p : Tmp) (ty : TypeId) (h : fn.results = #[.cell p ty]) (g : Nat) (ht : a.tmps.getD p undef = .pointer (some ⟨g, 0, none⟩)) (t : TypeId) (k : IntKind) (zs : List Int) (hb : BlkI w g t k zs)
    (d : TypeDesc) (hu : P.underlying ty = some d) (hd : d.isRow = true) (hi : (P.info? ty).map (·.size) = some zs.length) (hdf : a.defers = []) (hR : R (.returned (.agg (intsA k zs))) w) : bodyPost P fn R .ret a w := by
  refine bodyPost_ret (v := .agg (intsA k zs)) ?_ hdf hR
  have hl := run_loadVar_mid (P := P) w g 0 ty (zs.map (Value.int k)) d (blk_range hb) hu hd (by rw [List.length_map]; exact hi)
  have ht' : a.tmps[p]?.getD undef = .pointer (some ⟨g, 0, none⟩) := by rw [← ht, Array.getD_eq_getD_getElem?]
  simp only [results, h]
  simp [ht', asAddr, hl, intsA]
end

/-! ### three blocks at a time -/
/-- The blocks g1, g2 and g3 hold these numbers; what lay there when the call came is as it was. -/
def In3 (w : World) (g1 g2 g3 : Nat) (t1 t2 t3 : TypeId) (k1 k2 k3 : IntKind) (l1 l2 l3 : List Int) (w' : World) : Prop :=
  BlkI w' g1 t1 k1 l1 ∧ BlkI w' g2 t2 k2 l2 ∧ BlkI w' g3 t3 k3 l3 ∧ Below w.heap.size w w' ∧ w.heap.size ≤ g3 ∧ g1 ≠ g3 ∧ g2 ≠ g3
section
variable {w w' w'' : World} {g1 g2 g3 : Nat} {t1 t2 t3 : TypeId} {k1 k2 k3 : IntKind} {l1 l2 l3 : List Int}
theorem In3.below (h : In3 w g1 g2 g3 t1 t2 t3 k1 k2 k3 l1 l2 l3 w') (hb : Below w'.heap.size w' w'') : In3 w g1 g2 g3 t1 t2 t3 k1 k2 k3 l1 l2 l3 w'' := by
  obtain ⟨h1, h2, h3, h4, h5, h6, h7⟩ := h
  exact ⟨h1.below hb h1.lt, h2.below hb h2.lt, h3.below hb h3.lt, h4.trans (hb.mono h4.size), h5, h6, h7⟩
theorem In3.set_ (h : In3 w g1 g2 g3 t1 t2 t3 k1 k2 k3 l1 l2 l3 w') (i : Nat) (z : Int) : In3 w g1 g2 g3 t1 t2 t3 k1 k2 k3 l1 l2 (l3.set i z) (w'.setCell ⟨g3, i, none⟩ (.int k3 z)) := by
  obtain ⟨h1, h2, h3, h4, h5, h6, h7⟩ := h
  exact ⟨h1.far h6 _, h2.far h7 _, h3.set_ i z, h4.setCell (p := ⟨g3, i, none⟩) h5 _, h5, h6, h7⟩
theorem In3.drew (h : In3 w g1 g2 g3 t1 t2 t3 k1 k2 k3 l1 l2 l3 w') : In3 w g1 g2 g3 t1 t2 t3 k1 k2 k3 l1 l2 l3 w'.drew := by
  obtain ⟨h1, h2, h3, h4, h5, h6, h7⟩ := h
  exact ⟨h1, h2, h3, h4.drew, h5, h6, h7⟩
theorem In3.fst (h : In3 w g1 g2 g3 t1 t2 t3 k1 k2 k3 l1 l2 l3 w') : BlkI w' g1 t1 k1 l1 := h.1
theorem In3.snd (h : In3 w g1 g2 g3 t1 t2 t3 k1 k2 k3 l1 l2 l3 w') : BlkI w' g2 t2 k2 l2 := h.2.1
theorem In3.trd (h : In3 w g1 g2 g3 t1 t2 t3 k1 k2 k3 l1 l2 l3 w') : BlkI w' g3 t3 k3 l3 := h.2.2.1
theorem In3.bel (h : In3 w g1 g2 g3 t1 t2 t3 k1 k2 k3 l1 l2 l3 w') : Below w.heap.size w w' := h.2.2.2.1
/-- With place i of the third written or not. -/
def In3W (w : World) (g1 g2 g3 : Nat) (t1 t2 t3 : TypeId) (k1 k2 k3 : IntKind) (l1 l2 l3 : List Int) (i : Nat) (w' : World) : Prop := ∃ u, In3 w g1 g2 g3 t1 t2 t3 k1 k2 k3 l1 l2 (l3.set i u) w'
theorem In3.open_ (h : In3 w g1 g2 g3 t1 t2 t3 k1 k2 k3 l1 l2 l3 w') {i : Nat} (hi : i < l3.length) : In3W w g1 g2 g3 t1 t2 t3 k1 k2 k3 l1 l2 l3 i w' := ⟨l3.getD i 0, by
  have e : l3.set i (l3.getD i 0) = l3 := by
    apply List.ext_getElem?
    intro j
    rw [List.getElem?_set]
    by_cases hj : i = j
    · subst hj; simp [hi]
    · simp [hj]
  rw [e]; exact h⟩
theorem In3W.below {i : Nat} (h : In3W w g1 g2 g3 t1 t2 t3 k1 k2 k3 l1 l2 l3 i w') (hb : Below w'.heap.size w' w'') : In3W w g1 g2 g3 t1 t2 t3 k1 k2 k3 l1 l2 l3 i w'' := by
  obtain ⟨u, hu⟩ := h
  exact ⟨u, hu.below hb⟩
theorem In3W.set_ {i : Nat} (h : In3W w g1 g2 g3 t1 t2 t3 k1 k2 k3 l1 l2 l3 i w') (z : Int) : In3 w g1 g2 g3 t1 t2 t3 k1 k2 k3 l1 l2 (l3.set i z) (w'.setCell ⟨g3, i, none⟩ (.int k3 z)) := by
  obtain ⟨u, hu⟩ := h
  have h1 := hu.set_ i z
  rwa [List.set_set] at h1
theorem In3W.again {i : Nat} (h : In3W w g1 g2 g3 t1 t2 t3 k1 k2 k3 l1 l2 l3 i w') (z : Int) : In3W w g1 g2 g3 t1 t2 t3 k1 k2 k3 l1 l2 l3 i (w'.setCell ⟨g3, i, none⟩ (.int k3 z)) := ⟨z, h.set_ z⟩
theorem In3W.cell1 {i j : Nat} (h : In3W w g1 g2 g3 t1 t2 t3 k1 k2 k3 l1 l2 l3 i w') (hj : j < l1.length) : w'.cell? ⟨g1, j, none⟩ = some (.int k1 (l1.getD j 0)) := by
  obtain ⟨u, hu⟩ := h
  exact hu.1.cell hj
theorem In3W.cell3 {i j : Nat} (h : In3W w g1 g2 g3 t1 t2 t3 k1 k2 k3 l1 l2 l3 i w') (hj : j < l3.length) (hij : j ≠ i) : w'.cell? ⟨g3, j, none⟩ = some (.int k3 (l3.getD j 0)) := by
  obtain ⟨u, hu⟩ := h
  have h1 := hu.2.2.1.cell (j := j) (by rw [List.length_set]; exact hj)
  rw [h1]
  congr 2
  simp [List.getD_eq_getElem?_getD, Ne.symm hij]
theorem In3W.at_ {i : Nat} (h : In3W w g1 g2 g3 t1 t2 t3 k1 k2 k3 l1 l2 l3 i w') (hi : i < l3.length) : (∃ u, w'.cell? ⟨g3, i, none⟩ = some (.int k3 u)) ∧ w'.frozen? ⟨g3, i, none⟩ = false := by
  obtain ⟨u, hu⟩ := h
  exact ⟨⟨_, hu.2.2.1.cell (j := i) (by rw [List.length_set]; exact hi)⟩, hu.2.2.1.frozen i⟩
end
end Go.Proofs.YtomkidgmpbjgeaaGreatDoor
/-
  Steps by hand through a region that draws its order: a long array loaded, a value that is the same in every world that meets S, a call.
  Conditions: those that each theorem names.
-/
set_option maxRecDepth 100000
namespace Go.Proofs.YtomkidgmpbjgeaaGreatDoor
open Go.ChangeShapes Go.WideShapes Go.ChangeAt Go.RowKit
section
variable {P : Program} {ops : Array Oper} {Q : Exit → Act → World → Prop} {md : Region.Mode} {S : World → Prop} {fuel : Nat} {listed : Array Bool} {a : Act} {w : World}
/-- A long array is loaded: taken first. -/
theorem held_load {oi : Oper} (i : Nat) (hi : ops[i]? = some oi) (hs : Region.noSelect ops = true) (hf : Region.free md ops listed i = true) (hr : (Region.ready md ops listed).contains i = true)
    (hQ2 : ∀ c a v w, Q (.panic c) (a.put oi.dst v) w → Q (.panic c) a w) (hw : Region.wanted oi (yielded ops a.tmps) = true)
    (ty : TypeId) (x : Operand) (ho : oi.op = .load ty x) (g : Nat) (hx : a.eval x = .pointer (some ⟨g, 0, none⟩)) (t : TypeId) (k : IntKind) (zs : List Int) (hS : ∀ w, S w → BlkI w g t k zs)
    (d : TypeDesc) (hu : P.underlying ty = some d) (hd : d.isRow = true) (hz : (P.info? ty).map (·.size) = some zs.length) (hSw : S w)
    (h : wpAnyH P md ops Q S fuel (listed.setIfInBounds i true) (a.put oi.dst (.agg (intsA k zs))) w) : wpAnyH P md ops Q S (fuel + 1) listed a w :=
  wpAnyH_take hi hs hf hr (fun c a w => hQ2 c a _ w) (yieldsIf_load_mid hw ty x ho g 0 hx (zs.map (Value.int k)) d (fun w h => blk_range (hS w h)) hu hd (by rw [List.length_map]; exact hz)) hSw h
/-- A value that is the same in every world that meets S: taken first. -/
theorem held_val {oi : Oper} (i : Nat) (hi : ops[i]? = some oi) (hs : Region.noSelect ops = true) (hf : Region.free md ops listed i = true) (hr : (Region.ready md ops listed).contains i = true)
    (hQ2 : ∀ c a v w, Q (.panic c) (a.put oi.dst v) w → Q (.panic c) a w) (hw : Region.wanted oi (yielded ops a.tmps) = true) (v : Value) (hv : ∀ w, S w → (execOp a.eval oi).run P w = .ok (.value v) w) (hSw : S w)
    (h : wpAnyH P md ops Q S fuel (listed.setIfInBounds i true) (a.put oi.dst v) w) : wpAnyH P md ops Q S (fuel + 1) listed a w :=
  wpAnyH_take hi hs hf hr (fun c a w => hQ2 c a _ w) (.inl ⟨hw, hv⟩) hSw h
/-- A whole array is stored, when nothing else may come up. -/
theorem held_store {oi : Oper} (i : Nat) (hi : ops[i]? = some oi) (hr : Region.ready md ops listed = [i]) (hw : Region.wanted oi (yielded ops a.tmps) = true)
    (ty : TypeId) (x y : Operand) (ho : oi.op = .store ty x y) (g : Nat) (hx : a.eval x = .pointer (some ⟨g, 0, none⟩)) (t : TypeId) (k : IntKind) (zs ys : List Int) (hb : BlkI w g t k zs)
    (hy : a.eval y = .agg (intsA k ys)) (hl : zs.length = ys.length) (hz : (P.info? ty).map (·.size) = some ys.length)
    (h : ∀ w', Hid (BlkI w' g t k ys) → (∀ B, B ≤ g → Below B w w') → (∀ j, j ≠ g → w'.heap[j]? = w.heap[j]?) → S w' ∧ wpAnyH P md ops Q S fuel (listed.setIfInBounds i true) (a.put oi.dst undef) w') : wpAnyH P md ops Q S (fuel + 1) listed a w := by
  refine wpAnyH_ready (rs := [i]) hr (by simp) (AllReadyH.cons hi (fun K hK => ?_) AllReadyH.nil)
  rw [if_pos hw]
  have hrun := run_storeVar_row (P := P) w g t ty (intsA k zs) (intsA k ys) hb (by rw [intsA_size]; exact hz) (by rw [intsA_size, intsA_size]; exact hl) (all_oneCell_toArray (ints_one k ys))
  unfold Oper.wp execOp
  simp only [ho, hx, hy, Instr.storeAt, Instr.sureAddr, Sem.run_bind, Sem.run_pure, Result.andThen_ok, hrun]
  obtain ⟨h1, h2⟩ := h _ (setRow_heap w g _ _ t _ hb) (fun B hB => below_setRow (Below.refl _ _) hB _) (fun j hj => setRow_other w g j _ hj)
  exact hK.out _ _ h1 (fun _ => h2)
/-- A whole array is loaded, where it comes up. -/
theorem step_load_ints {o : Oper} {K : Act → World → Prop} {E : Prop} (hw : Region.wanted o (yielded ops a.tmps) = true) (ty : TypeId) (x : Operand) (ho : o.op = .load ty x) (g : Nat) (hx : a.eval x = .pointer (some ⟨g, 0, none⟩)) (t : TypeId) (k : IntKind) (zs : List Int)
    (hb : BlkI w g t k zs) (d : TypeDesc) (hu : P.underlying ty = some d) (hd : d.isRow = true) (hz : (P.info? ty).map (·.size) = some zs.length) (h : K (a.put o.dst (.agg (intsA k zs))) w) :
    if Region.wanted o (yielded ops a.tmps) = true then Oper.wp P o a w K Q else E := by
  rw [if_pos hw]
  exact wp_load_mid ty x ho g 0 hx (zs.map (Value.int k)) d (blk_range hb) hu hd (by rw [List.length_map]; exact hz) h
end
end Go.Proofs.YtomkidgmpbjgeaaGreatDoor
/-
  Rows of cells of any kind (structs) in memory: boxed, made, loaded, stored, handed back; the same inside a region that draws its order.
  Conditions: those that each theorem names.
-/
set_option maxRecDepth 100000
namespace Go.Proofs.YtomkidgmpbjgeaaGreatDoor
open Go.ChangeShapes Go.WideShapes Go.ChangeAt Go.RowKit
/-- Each value takes one cell. -/
def Ones (cs : Array Value) : Prop := ∀ u ∈ cs.toList, u.oneCell' = true
theorem Ones.all {cs : Array Value} (h : Ones cs) : cs.all Value.oneCell' = true := by
  have := all_oneCell_toArray h
  simpa using this
section
variable {P : Program} {w w' : World} {ops : Array Oper} {rest : List Oper} {o : Oper} {a : Act} {Q : Exit → Act → World → Prop}
theorem Blk.other {g r : Nat} {t : TypeId} {cs : Array Value} (h : Blk w g t cs) (ho : ∀ j, j ≠ r → w'.heap[j]? = w.heap[j]?) (hg : g ≠ r) : Blk w' g t cs := (ho g hg).trans h
theorem wpList_box_any (hgd : o.guard = none) (ty : TypeId) (x : Operand) (ho : o.op = .box ty x) (cs : Array Value) (hx : a.eval x = .agg cs)
    (h : ∀ w', Hid (Blk w' w.heap.size ty cs) → Hid (w'.heap.size = w.heap.size + 1) → Below w.heap.size w w' → wpList P ops Q rest (a.put o.dst (.pointer (some ⟨w.heap.size, 0, none⟩))) w') : wpList P ops Q (o :: rest) a w := by
  refine wpList_plain hgd fun K hK => ?_
  unfold Oper.wp execOp
  simp only [ho, hx, Instr.box, newVar, newRow, Value.cells]
  exact hK _ _ (h _ (Blk.new w ty cs) (show _ = _ by simp) ((Below.refl _ _).alloc (Nat.le_refl _) _))
theorem wpList_alloc_any (hgd : o.guard = none) (ty : TypeId) (ho : o.op = .alloc ty) (cs : Array Value) (hz : ∀ W, (zeroValue ty).run P W = .ok (.agg cs) W)
    (h : ∀ w', Hid (Blk w' w.heap.size ty cs) → Hid (w'.heap.size = w.heap.size + 1) → Below w.heap.size w w' → wpList P ops Q rest (a.put o.dst (.pointer (some ⟨w.heap.size, 0, none⟩))) w') : wpList P ops Q (o :: rest) a w := by
  refine wpList_plain hgd fun K hK => ?_
  unfold Oper.wp execOp
  simp only [ho, Instr.alloc, Sem.run_bind, hz, Result.andThen_ok, newVar, newRow, Value.cells]
  exact hK _ _ (h _ (Blk.new w ty _) (show _ = _ by simp) ((Below.refl _ _).alloc (Nat.le_refl _) _))
theorem wpList_load_any (hgd : o.guard = none) (ty : TypeId) (x : Operand) (ho : o.op = .load ty x) (g off : Nat) (hx : a.eval x = .pointer (some ⟨g, off, none⟩)) (cs : List Value) (hb : w.rangeAt g off cs)
    (d : TypeDesc) (hu : P.underlying ty = some d) (hd : d.isRow = true) (hi : (P.info? ty).map (·.size) = some cs.length)
    (h : wpList P ops Q rest (a.put o.dst (.agg cs.toArray)) w) : wpList P ops Q (o :: rest) a w :=
  wpList_load_mid hgd ty x ho g off hx cs d hb hu hd hi h
theorem wpList_store_any (hgd : o.guard = none) (ty : TypeId) (x y : Operand) (ho : o.op = .store ty x y) (g : Nat) (hx : a.eval x = .pointer (some ⟨g, 0, none⟩)) (t : TypeId) (zs ys : Array Value) (hb : Blk w g t zs)
    (hy : a.eval y = .agg ys) (hl : zs.size = ys.size) (hi : (P.info? ty).map (·.size) = some ys.size) (h1 : ys.all (·.oneCell') = true)
    (h : ∀ w', Hid (Blk w' g t ys) → Hid (w'.heap.size = w.heap.size) → (∀ B, B ≤ g → Below B w w') → (∀ j, j ≠ g → w'.heap[j]? = w.heap[j]?) → wpList P ops Q rest (a.put o.dst undef) w') : wpList P ops Q (o :: rest) a w := by
  refine wpList_plain hgd fun K hK => ?_
  have hrun := run_storeVar_row (P := P) w g t ty zs ys hb hi hl h1
  unfold Oper.wp execOp
  simp only [ho, hx, hy, Instr.storeAt, Instr.sureAddr, Sem.run_bind, Sem.run_pure, Result.andThen_ok, hrun]
  exact hK _ _ (h _ (setRow_heap w g _ _ t _ hb) (show _ = _ by simp) (fun B hB => below_setRow (Below.refl _ _) hB _) (fun j hj => setRow_other w g j _ hj))
theorem bodyPost_any {fn : Func} {R : Ending → World → Prop} (p : Tmp) (ty : TypeId) (h : fn.results = #[.cell p ty]) (g : Nat) (ht : a.tmps.getD p undef = .pointer (some ⟨g, 0, none⟩)) (t : TypeId) (cs : Array Value) (hb : Blk w g t cs)
    (d : TypeDesc) (hu : P.underlying ty = some d) (hd : d.isRow = true) (hi : (P.info? ty).map (·.size) = some cs.size) (hdf : a.defers = []) (hR : R (.returned (.agg cs)) w) : bodyPost P fn R .ret a w := by
  refine bodyPost_ret (v := .agg cs) ?_ hdf hR
  have hl := run_loadVar_mid (P := P) w g 0 ty cs.toList d hb.range hu hd (by rw [Array.length_toList]; exact hi)
  have ht' : a.tmps[p]?.getD undef = .pointer (some ⟨g, 0, none⟩) := by rw [← ht, Array.getD_eq_getD_getElem?]
  simp only [results, h]
  simp [ht', asAddr, hl]
/-- A row out of memory, and a value beside it. -/
theorem bodyPost_any2 {fn : Func} {R : Ending → World → Prop} (p q : Tmp) (ty : TypeId) (h : fn.results = #[.cell p ty, .tmp q]) (g : Nat) (ht : a.tmps.getD p undef = .pointer (some ⟨g, 0, none⟩)) (v : Value) (hq : a.tmps.getD q undef = v) (t : TypeId) (cs : Array Value) (hb : Blk w g t cs)
    (d : TypeDesc) (hu : P.underlying ty = some d) (hd : d.isRow = true) (hi : (P.info? ty).map (·.size) = some cs.size) (hdf : a.defers = []) (hR : R (.returned (.tuple #[.agg cs, v])) w) : bodyPost P fn R .ret a w := by
  refine bodyPost_ret (v := .tuple #[.agg cs, v]) ?_ hdf hR
  have hl := run_loadVar_mid (P := P) w g 0 ty cs.toList d hb.range hu hd (by rw [Array.length_toList]; exact hi)
  have ht' : a.tmps[p]?.getD undef = .pointer (some ⟨g, 0, none⟩) := by rw [← ht, Array.getD_eq_getD_getElem?]
  have hq' : a.tmps[q]?.getD undef = v := by rw [← hq, Array.getD_eq_getD_getElem?]
  simp only [results, h]
  simp [ht', hq', asAddr, hl]
end
section
variable {P : Program} {ops : Array Oper} {Q : Exit → Act → World → Prop} {md : Region.Mode} {S : World → Prop} {fuel : Nat} {listed : Array Bool} {a : Act} {w : World}
/-- A row is loaded, wherever it lies: taken first. -/
theorem held_load_mid {oi : Oper} (i : Nat) (hi : ops[i]? = some oi) (hs : Region.noSelect ops = true) (hf : Region.free md ops listed i = true) (hr : (Region.ready md ops listed).contains i = true)
    (hQ2 : ∀ c a v w, Q (.panic c) (a.put oi.dst v) w → Q (.panic c) a w) (hw : Region.wanted oi (yielded ops a.tmps) = true)
    (ty : TypeId) (x : Operand) (ho : oi.op = .load ty x) (g off : Nat) (hx : a.eval x = .pointer (some ⟨g, off, none⟩)) (cs : List Value) (hS : ∀ w, S w → w.rangeAt g off cs)
    (d : TypeDesc) (hu : P.underlying ty = some d) (hd : d.isRow = true) (hz : (P.info? ty).map (·.size) = some cs.length) (hSw : S w)
    (h : wpAnyH P md ops Q S fuel (listed.setIfInBounds i true) (a.put oi.dst (.agg cs.toArray)) w) : wpAnyH P md ops Q S (fuel + 1) listed a w :=
  wpAnyH_take hi hs hf hr (fun c a w => hQ2 c a _ w) (yieldsIf_load_mid hw ty x ho g off hx cs d hS hu hd hz) hSw h
theorem held_store_any {oi : Oper} (i : Nat) (hi : ops[i]? = some oi) (hr : Region.ready md ops listed = [i]) (hw : Region.wanted oi (yielded ops a.tmps) = true)
    (ty : TypeId) (x y : Operand) (ho : oi.op = .store ty x y) (g : Nat) (hx : a.eval x = .pointer (some ⟨g, 0, none⟩)) (t : TypeId) (zs ys : Array Value) (hb : Blk w g t zs)
    (hy : a.eval y = .agg ys) (hl : zs.size = ys.size) (hz : (P.info? ty).map (·.size) = some ys.size) (h1 : ys.all (·.oneCell') = true)
    (h : ∀ w', Hid (Blk w' g t ys) → (∀ B, B ≤ g → Below B w w') → (∀ j, j ≠ g → w'.heap[j]? = w.heap[j]?) → S w' ∧ wpAnyH P md ops Q S fuel (listed.setIfInBounds i true) (a.put oi.dst undef) w') : wpAnyH P md ops Q S (fuel + 1) listed a w := by
  refine wpAnyH_ready (rs := [i]) hr (by simp) (AllReadyH.cons hi (fun K hK => ?_) AllReadyH.nil)
  rw [if_pos hw]
  have hrun := run_storeVar_row (P := P) w g t ty zs ys hb hz hl h1
  unfold Oper.wp execOp
  simp only [ho, hx, hy, Instr.storeAt, Instr.sureAddr, Sem.run_bind, Sem.run_pure, Result.andThen_ok, hrun]
  obtain ⟨h1, h2⟩ := h _ (setRow_heap w g _ _ t _ hb) (fun B hB => below_setRow (Below.refl _ _) hB _) (fun j hj => setRow_other w g j _ hj)
  exact hK.out _ _ h1 (fun _ => h2)
end
/-! ### loaded whole; reads beside a store elsewhere -/
section
variable {P : Program} {w w' : World} {ops : Array Oper} {rest : List Oper} {o : Oper} {a : Act} {Q : Exit → Act → World → Prop}
theorem wpList_load_blk (hgd : o.guard = none) (ty : TypeId) (x : Operand) (ho : o.op = .load ty x) (g : Nat) (hx : a.eval x = .pointer (some ⟨g, 0, none⟩)) (t : TypeId) (cs : Array Value) (hb : Blk w g t cs)
    (d : TypeDesc) (hu : P.underlying ty = some d) (hd : d.isRow = true) (hi : (P.info? ty).map (·.size) = some cs.size)
    (h : wpList P ops Q rest (a.put o.dst (.agg cs)) w) : wpList P ops Q (o :: rest) a w :=
  wpList_load_mid hgd ty x ho g 0 hx cs.toList d hb.range hu hd (by rw [Array.length_toList]; exact hi) (by rw [Array.toArray_toList]; exact h)
end
theorem Rd.other {k : IntKind} {w w' : World} {B n r : Nat} {A : Option Addr} {zs : List Int} (h : Rd k w B A n zs) (ho : ∀ j, j ≠ r → w'.heap[j]? = w.heap[j]?) (hne : ∀ b off, 0 < n → A = some ⟨b, off, none⟩ → b ≠ r) : Rd k w' B A n zs :=
  ⟨h.1, fun hn => by
    obtain ⟨b, off, e, hb, hc⟩ := h.2 hn
    refine ⟨b, off, e, hb, fun j hj => ?_⟩
    rw [← hc j hj]
    simp only [World.cell?, ho b (hne b off hn e)]⟩
end Go.Proofs.YtomkidgmpbjgeaaGreatDoor
/-
  Steps by hand inside a region that draws its order; cells of a block set one by one; worlds that differ in one block alone.
  Conditions: those that each theorem names.
-/
set_option maxRecDepth 100000
set_option linter.unusedVariables false
set_option linter.unusedSimpArgs false
namespace Go.Proofs.YtomkidgmpbjgeaaGreatDoor
open Go.ChangeShapes Go.WideShapes Go.ChangeAt Go.RowKit
section
variable {P : Program} {ops : Array Oper} {Q : Exit → Act → World → Prop} {md : Region.Mode} {S : World → Prop} {fuel : Nat} {listed : Array Bool} {a : Act} {w : World}
/-- A row is loaded whole: taken first. -/
theorem held_row {oi : Oper} (i : Nat) (d : Option Tmp) (hi : ops[i]? = some oi) (hd : oi.dst = d) (hs : Region.noSelect ops = true) (hf : Region.free md ops listed i = true) (hr : (Region.ready md ops listed).contains i = true)
    (hQ2 : ∀ c a v w, Q (.panic c) (a.put oi.dst v) w → Q (.panic c) a w) (hw : Region.wanted oi (yielded ops a.tmps) = true)
    (ty : TypeId) (x : Operand) (ho : oi.op = .load ty x) (g : Nat) (hx : a.eval x = .pointer (some ⟨g, 0, none⟩)) (t : TypeId) (cs : Array Value) (hS : ∀ w, S w → Blk w g t cs)
    (ds : TypeDesc) (hu : P.underlying ty = some ds) (hdr : ds.isRow = true) (hz : (P.info? ty).map (·.size) = some cs.size) (hSw : S w)
    (h : wpAnyH P md ops Q S fuel (listed.setIfInBounds i true) (a.put d (.agg cs)) w) : wpAnyH P md ops Q S (fuel + 1) listed a w :=
  held_load_mid i hi hs hf hr hQ2 hw ty x ho g 0 hx cs.toList (fun w h => (hS w h).range) ds hu hdr (by rw [Array.length_toList]; exact hz) hSw (by rw [Array.toArray_toList, hd]; exact h)
/-- An operation that is not wanted: taken first. -/
theorem held_not {oi : Oper} (i : Nat) (d : Option Tmp) (hi : ops[i]? = some oi) (hd : oi.dst = d) (hs : Region.noSelect ops = true) (hf : Region.free md ops listed i = true) (hr : (Region.ready md ops listed).contains i = true)
    (hQ2 : ∀ c a v w, Q (.panic c) (a.put oi.dst v) w → Q (.panic c) a w) (hw : Region.wanted oi (yielded ops a.tmps) = false) (hSw : S w)
    (h : wpAnyH P md ops Q S fuel (listed.setIfInBounds i true) (a.put d undef) w) : wpAnyH P md ops Q S (fuel + 1) listed a w :=
  wpAnyH_take hi hs hf hr (fun c a w => hQ2 c a _ w) (.inr ⟨hw, rfl⟩) hSw (by rw [hd]; exact h)
/-- A value that is the same in every world that meets S: taken first. -/
theorem held_v {oi : Oper} (i : Nat) (d : Option Tmp) (hi : ops[i]? = some oi) (hd : oi.dst = d) (hs : Region.noSelect ops = true) (hf : Region.free md ops listed i = true) (hr : (Region.ready md ops listed).contains i = true)
    (hQ2 : ∀ c a v w, Q (.panic c) (a.put oi.dst v) w → Q (.panic c) a w) (hw : Region.wanted oi (yielded ops a.tmps) = true) (v : Value) (hv : ∀ w, S w → (execOp a.eval oi).run P w = .ok (.value v) w) (hSw : S w)
    (h : wpAnyH P md ops Q S fuel (listed.setIfInBounds i true) (a.put d v) w) : wpAnyH P md ops Q S (fuel + 1) listed a w :=
  wpAnyH_take hi hs hf hr (fun c a w => hQ2 c a _ w) (.inl ⟨hw, hv⟩) hSw (by rw [hd]; exact h)
/-- A new row, where it comes up. -/
theorem step_alloc {o : Oper} {K : Act → World → Prop} {E : Prop} (d : Option Tmp) (hd : o.dst = d) (hw : Region.wanted o (yielded ops a.tmps) = true) (ty : TypeId) (ho : o.op = .alloc ty) (cs : Array Value) (hz : ∀ W, (zeroValue ty).run P W = .ok (.agg cs) W)
    (h : ∀ w', Hid (Blk w' w.heap.size ty cs) → Hid (w'.heap.size = w.heap.size + 1) → Below w.heap.size w w' → K (a.put d (.pointer (some ⟨w.heap.size, 0, none⟩))) w') :
    if Region.wanted o (yielded ops a.tmps) = true then Oper.wp P o a w K Q else E := by
  subst hd
  rw [if_pos hw]
  unfold Oper.wp execOp
  simp only [ho, Instr.alloc, Sem.run_bind, hz, Result.andThen_ok, newVar, newRow, Value.cells]
  exact h _ (Blk.new w ty _) (show _ = _ by simp) ((Below.refl _ _).alloc (Nat.le_refl _) _)
/-- A row is stored whole, where it comes up. -/
theorem step_store {o : Oper} {K : Act → World → Prop} {E : Prop} (d : Option Tmp) (hd : o.dst = d) (hw : Region.wanted o (yielded ops a.tmps) = true) (ty : TypeId) (x y : Operand) (ho : o.op = .store ty x y) (g : Nat) (hx : a.eval x = .pointer (some ⟨g, 0, none⟩)) (t : TypeId) (zs ys : Array Value) (hb : Blk w g t zs)
    (hy : a.eval y = .agg ys) (hl : zs.size = ys.size) (hz : (P.info? ty).map (·.size) = some ys.size) (h1 : ys.all (·.oneCell') = true)
    (h : ∀ w', Hid (Blk w' g t ys) → Hid (w'.heap.size = w.heap.size) → (∀ B, B ≤ g → Below B w w') → (∀ j, j ≠ g → w'.heap[j]? = w.heap[j]?) → K (a.put d undef) w') :
    if Region.wanted o (yielded ops a.tmps) = true then Oper.wp P o a w K Q else E := by
  subst hd
  rw [if_pos hw]
  have hrun := run_storeVar_row (P := P) w g t ty zs ys hb hz hl h1
  unfold Oper.wp execOp
  simp only [ho, hx, hy, Instr.storeAt, Instr.sureAddr, Sem.run_bind, Sem.run_pure, Result.andThen_ok, hrun]
  exact h _ (setRow_heap w g _ _ t _ hb) (show _ = _ by simp) (fun B hB => below_setRow (Below.refl _ _) hB _) (fun j hj => setRow_other w g j _ hj)
/-- A call, where it comes up. -/
theorem step_call {o : Oper} {K : Act → World → Prop} {E : Prop} (d : Option Tmp) (hd : o.dst = d) (hw : Region.wanted o (yielded ops a.tmps) = true) (f : FuncId) (vs : Array Value) (he : (execOp a.eval o).run P w = .ok (.enter f vs) w) (R : Ending → World → Prop) (hc : Calls P f vs w R)
    (h : ∀ e w', R e w' → ∃ v, e = .returned v ∧ K (a.put d v) w') : if Region.wanted o (yielded ops a.tmps) = true then Oper.wp P o a w K Q else E := by
  subst hd
  rw [if_pos hw]
  unfold Oper.wp
  rw [he, Oper.upon_enter]
  exact hc.mono fun e w' hr => by
    obtain ⟨v, rfl, hk⟩ := h e w' hr
    exact hk
/-- An operation that is not wanted, where it comes up. -/
theorem step_not {o : Oper} {K : Act → World → Prop} {W : Prop} (d : Option Tmp) (hd : o.dst = d) (hw : Region.wanted o (yielded ops a.tmps) = false) (h : K (a.put d undef) w) : if Region.wanted o (yielded ops a.tmps) = true then W else K (a.put o.dst undef) w := by
  subst hd
  rw [if_neg (by rw [hw]; decide)]
  exact h
end
/-! ### cells set one by one -/
def putAll (cs : Array Value) (o : Nat) : List Value → Array Value
  | [] => cs
  | v :: vs => putAll (cs.setIfInBounds o v) (o + 1) vs
theorem Blk.setCells {g : Nat} {t : TypeId} : ∀ (vs : List Value) (o : Nat) {w : World} {cs : Array Value}, Blk w g t cs → Blk (w.setCells g o vs) g t (putAll cs o vs)
  | [], _, _, _, h => h
  | v :: vs, o, w, cs, h => by
    rw [World.setCells]
    exact Blk.setCells vs (o + 1) (h.set_ o v)
/-- Nothing but the block g has changed; more may have come. -/
structure Only (g : Nat) (w w' : World) : Prop where
  os : w'.os = w.os
  tape : w'.tape = w.tape
  output : w'.output = w.output
  size : w.heap.size ≤ w'.heap.size
  block : ∀ j, j < w.heap.size → j ≠ g → w'.heap[j]? = w.heap[j]?
theorem Only.refl (g : Nat) (w : World) : Only g w w := ⟨rfl, rfl, rfl, Nat.le_refl _, fun _ _ _ => rfl⟩
theorem Only.trans {g : Nat} {a b c : World} (h : Only g a b) (h' : Only g b c) : Only g a c :=
  ⟨h'.os.trans h.os, h'.tape.trans h.tape, h'.output.trans h.output, Nat.le_trans h.size h'.size, fun j hj hne => (h'.block j (Nat.lt_of_lt_of_le hj h.size) hne).trans (h.block j hj hne)⟩
theorem Only.of_below {g : Nat} {w w' : World} (h : Below w.heap.size w w') : Only g w w' := ⟨h.os, h.tape, h.output, h.size, fun j hj _ => h.block j hj⟩
theorem Only.below {g B : Nat} {w w' : World} (h : Only g w w') (hg : B ≤ g) (hB : B ≤ w.heap.size) : Below B w w' := ⟨h.os, h.tape, h.output, h.size, fun j hj => h.block j (by omega) (by omega)⟩
theorem Only.drew {g : Nat} {w w' : World} (h : Only g w w') : Only g w w'.drew := ⟨h.os, h.tape, h.output, h.size, h.block⟩
theorem Only.of_drew {g : Nat} {w w' : World} (h : Only g w.drew w') : Only g w w' := ⟨h.os, h.tape, h.output, h.size, h.block⟩
theorem Only.setCell (g o : Nat) (w : World) (v : Value) : Only g w (w.setCell ⟨g, o, none⟩ v) :=
  ⟨rfl, rfl, rfl, by simp [World.setCell], fun j _ hne => Below.heap_setCell w ⟨g, o, none⟩ v j hne⟩
theorem Only.setCells (g : Nat) : ∀ (vs : List Value) (o : Nat) (w : World), Only g w (w.setCells g o vs)
  | [], _, w => Only.refl g w
  | v :: vs, o, w => by
    rw [World.setCells]
    exact (Only.setCell g o w v).trans (Only.setCells g vs (o + 1) _)
theorem Blk.there {w : World} {g : Nat} {t : TypeId} {cs : Array Value} (h : Blk w g t cs) (o n : Nat) (hn : o + n ≤ cs.size) : w.there g o n := fun j hj => ⟨by
  rw [h.cell, Array.getElem?_eq_getElem (by omega)]; rfl, h.frozen _⟩
theorem Blk.only {w w' : World} {g r : Nat} {t : TypeId} {cs : Array Value} (h : Blk w r t cs) (ho : Only g w w') (hne : r ≠ g) : Blk w' r t cs := (ho.block r h.lt hne).trans h
/-- A row of the call's own lies apart from a block of other things. -/
theorem OwnI.only {w w' : World} {base g : Nat} {e t : TypeId} {k : IntKind} {v : Value} {zs : List Int} {cs : Array Value} (h : OwnI w base e k v zs) (hb : Blk w g t cs) (hne : e ≠ t) (ho : Only g w w') : OwnI w' base e k v zs := by
  refine ⟨h.1, ?_⟩
  rcases h.2 with h1 | ⟨g', cap, cur, h1, h2, h3, h4⟩
  · exact .inl h1
  · have hlt : g' < w.heap.size := by
      rcases Nat.lt_or_ge g' w.heap.size with h5 | h5
      · exact h5
      · rw [Array.getElem?_eq_none h5] at h3; cases h3
    have hg : g' ≠ g := by
      rintro rfl
      unfold Blk at hb
      rw [h3] at hb
      injection hb with hb
      injection hb with _ h5
      exact hne h5
    exact .inr ⟨g', cap, cur, h1, h2, (ho.block g' hlt hg).trans h3, h4⟩
/-- A part of a block that is not of the same kind, read as numbers, stays. -/
theorem RdA.only {w w' : World} {k : IntKind} {s n g : Nat} {A : Option Addr} {bs : List (List Int)} (h : RdA k s w g A n bs) (hg : g ≤ w.heap.size) (ho : Only g w w') : RdA k s w' g A n bs := h.below (ho.below (Nat.le_refl _) hg)
section
variable {P : Program} {w w' : World} {ops : Array Oper} {rest : List Oper} {o : Oper} {a : Act} {Q : Exit → Act → World → Prop}
/-- A part of a block is stored, where it comes up. -/
theorem step_store_at {K : Act → World → Prop} {E : Prop} (d : Option Tmp) (hd : o.dst = d) (hw : Region.wanted o (yielded ops a.tmps) = true) (ty : TypeId) (x y : Operand) (ho : o.op = .store ty x y) (g : Nat) (hx : a.eval x = .pointer (some ⟨g, 0, none⟩)) (t : TypeId) (cs ys : Array Value) (hb : Blk w g t cs)
    (hy : a.eval y = .agg ys) (hl : ys.size ≤ cs.size) (hz : (P.info? ty).map (·.size) = some ys.size) (h1 : ys.all (·.oneCell') = true)
    (h : ∀ w', Hid (Blk w' g t (putAll cs 0 ys.toList)) → Only g w w' → K (a.put d undef) w') :
    if Region.wanted o (yielded ops a.tmps) = true then Oper.wp P o a w K Q else E := by
  subst hd
  rw [if_pos hw]
  exact wp_store_mid ty x y ho g 0 ys hx hy (hb.there 0 ys.size (by omega)) hz h1 (h _ (Blk.setCells _ _ hb) (Only.setCells g _ _ _))
/-- A row is loaded, wherever it lies, where it comes up. -/
theorem step_load_at {K : Act → World → Prop} {E : Prop} (d : Option Tmp) (hd : o.dst = d) (hw : Region.wanted o (yielded ops a.tmps) = true) (ty : TypeId) (x : Operand) (ho : o.op = .load ty x) (g off : Nat) (hx : a.eval x = .pointer (some ⟨g, off, none⟩)) (cs : List Value) (hb : w.rangeAt g off cs)
    (ds : TypeDesc) (hu : P.underlying ty = some ds) (hdr : ds.isRow = true) (hz : (P.info? ty).map (·.size) = some cs.length) (h : K (a.put d (.agg cs.toArray)) w) :
    if Region.wanted o (yielded ops a.tmps) = true then Oper.wp P o a w K Q else E := by
  subst hd
  rw [if_pos hw]
  exact wp_load_mid ty x ho g off hx cs ds hb hu hdr hz h
/-- A cell is loaded, where it comes up. -/
theorem step_v {K : Act → World → Prop} {E : Prop} (d : Option Tmp) (hd : o.dst = d) (hw : Region.wanted o (yielded ops a.tmps) = true) (v : Value) (hv : (execOp a.eval o).run P w = .ok (.value v) w) (h : K (a.put d v) w) :
    if Region.wanted o (yielded ops a.tmps) = true then Oper.wp P o a w K Q else E := by
  subst hd
  rw [if_pos hw]
  unfold Oper.wp
  simp only [hv]
  exact h
theorem run_storeVar_cell (b off : Nat) (ty : TypeId) (v : Value) (ht : w.there b off 1) (hi : (P.info? ty).map (·.size) = some 1) (h1 : v.cells = #[v]) (h2 : v.oneCell' = true) : (storeVar ty ⟨b, off, none⟩ v).run P w = .ok () (w.setCell ⟨b, off, none⟩ v) := by
  have := run_storeCells_cells (P := P) b off [v] 0 w (fun j hj => by simpa using (ht j (by simpa using hj)).1) (fun j hj => by simpa using (ht j (by simpa using hj)).2)
    (fun u hu => by rw [List.mem_singleton.1 hu]; exact h2)
  cases hq : P.info? ty with
  | none => simp [hq] at hi
  | some i =>
    have hs : i.size = 1 := by simpa [hq] using hi
    simp only [Nat.add_zero, World.setCells] at this
    simp [storeVar, sizeOf, typeInfo, hq, h1, hs, this]
/-- One cell of a block is stored, where it comes up. -/
theorem step_store_cell {K : Act → World → Prop} {E : Prop} (d : Option Tmp) (hd : o.dst = d) (hw : Region.wanted o (yielded ops a.tmps) = true) (ty : TypeId) (x y : Operand) (ho : o.op = .store ty x y) (g off : Nat) (hx : a.eval x = .pointer (some ⟨g, off, none⟩)) (t : TypeId) (cs : Array Value) (hb : Blk w g t cs)
    (v : Value) (hy : a.eval y = v) (hl : off < cs.size) (hz : (P.info? ty).map (·.size) = some 1) (h1 : v.cells = #[v]) (h2 : v.oneCell' = true)
    (h : ∀ w', Hid (Blk w' g t (cs.setIfInBounds off v)) → Only g w w' → K (a.put d undef) w') :
    if Region.wanted o (yielded ops a.tmps) = true then Oper.wp P o a w K Q else E := by
  subst hd
  rw [if_pos hw]
  have hrun := run_storeVar_cell (P := P) (w := w) g off ty v (hb.there off 1 (by omega)) hz h1 h2
  unfold Oper.wp execOp
  simp only [ho, hx, hy, Instr.storeAt, Instr.sureAddr, Sem.run_bind, Sem.run_pure, Result.andThen_ok, hrun]
  exact h _ (hb.set_ off v) (Only.setCell g off w v)
/-- The same, in a plain region. -/
theorem wpList_store_cell (hgd : o.guard = none) (ty : TypeId) (x y : Operand) (ho : o.op = .store ty x y) (g off : Nat) (hx : a.eval x = .pointer (some ⟨g, off, none⟩)) (t : TypeId) (cs : Array Value) (hb : Blk w g t cs)
    (v : Value) (hy : a.eval y = v) (hl : off < cs.size) (hz : (P.info? ty).map (·.size) = some 1) (h1 : v.cells = #[v]) (h2 : v.oneCell' = true)
    (h : ∀ w', Hid (Blk w' g t (cs.setIfInBounds off v)) → Only g w w' → wpList P ops Q rest (a.put o.dst undef) w') : wpList P ops Q (o :: rest) a w := by
  refine wpList_plain hgd fun K hK => ?_
  have hrun := run_storeVar_cell (P := P) (w := w) g off ty v (hb.there off 1 (by omega)) hz h1 h2
  unfold Oper.wp execOp
  simp only [ho, hx, hy, Instr.storeAt, Instr.sureAddr, Sem.run_bind, Sem.run_pure, Result.andThen_ok, hrun]
  exact hK _ _ (h _ (hb.set_ off v) (Only.setCell g off w v))
end
/-! ### rows of the call's own, out of blocks that are known whole -/
theorem OwnI.of_blk {w : World} {g base c : Nat} {e : TypeId} {k : IntKind} {zs cs : List Int} (h : BlkI w g e k cs) (hb : base ≤ g) (hn : zs.length ≤ c) (hc : c ≤ maxLen) (hs : cs.length = c) (hp : cs.take zs.length = zs) : OwnI w base e k (.slice (some ⟨g, 0, none⟩) zs.length c) zs :=
  ⟨by simp, .inr ⟨g, c, intsA k cs, rfl, hb, h, hn, hc, by rw [intsA_size, hs]; simp, by simp [intsA, ← List.map_take, hp]⟩⟩
theorem OwnI.zero {w : World} {base n c : Nat} {e : TypeId} {k : IntKind} {A : Option Addr} {zs : List Int} (h : OwnI w base e k (.slice A n c) zs) (hn : 0 < zs.length) : OwnI w base e k (.slice A 0 c) [] := by
  rcases h.2 with ⟨h1, h2⟩ | ⟨g, cap, cur, h1, h2, h3, h4, h5, h6, h7⟩
  · omega
  · injection h1 with e1 e2 e3
    subst e1 e3
    exact ⟨rfl, .inr ⟨g, c, cur, rfl, h2, h3, Nat.zero_le _, h5, h6, by simp⟩⟩
theorem run_make_cap {P : Program} (t e : TypeId) (i : TypeInfo) (k : IntKind) (ht : P.underlying t = some (.slice e)) (hi : P.info? e = some i) (hz : i.zero = some (.int k 0)) (hs : i.size = 1) (hby : i.bytes = 1) (n m : Nat) (hnm : n ≤ m) (hm : m ≤ 1000000) (w : World) :
    (Instr.makeSlice t (.int .i64 (n : Int)) (.int .i64 (m : Int))).run P w = .ok (.slice (some ⟨w.heap.size, 0, none⟩) n m) (w.alloc (.cells (intsA k (List.replicate m 0)) e)) := by
  have hr := run_make (P := P) w t e i _ ht hi hz .i64 .i64 n m (by omega) (by omega) (by rw [hby]; omega) (by omega)
  simp only [Int.toNat_natCast, hs, Nat.mul_one] at hr
  rw [hr, show madeCells (Value.int k 0).cells m = intsA k (List.replicate m 0) from ?_]
  have h1 := madeCells_same (.int k 0) 1 m (by omega)
  simpa [intsA, Value.cells] using h1
section
variable {P : Program} {ops : Array Oper} {Q : Exit → Act → World → Prop} {md : Region.Mode} {S : World → Prop} {fuel : Nat} {listed : Array Bool} {a : Act} {w : World}
/-- A row is loaded, wherever it lies: taken first. -/
theorem held_load_at {oi : Oper} (i : Nat) (d : Option Tmp) (hi : ops[i]? = some oi) (hd : oi.dst = d) (hs : Region.noSelect ops = true) (hf : Region.free md ops listed i = true) (hr : (Region.ready md ops listed).contains i = true)
    (hQ2 : ∀ c a v w, Q (.panic c) (a.put oi.dst v) w → Q (.panic c) a w) (hw : Region.wanted oi (yielded ops a.tmps) = true)
    (ty : TypeId) (x : Operand) (ho : oi.op = .load ty x) (g off : Nat) (hx : a.eval x = .pointer (some ⟨g, off, none⟩)) (cs : List Value) (hS : ∀ w, S w → w.rangeAt g off cs)
    (ds : TypeDesc) (hu : P.underlying ty = some ds) (hdr : ds.isRow = true) (hz : (P.info? ty).map (·.size) = some cs.length) (hSw : S w)
    (h : wpAnyH P md ops Q S fuel (listed.setIfInBounds i true) (a.put d (.agg cs.toArray)) w) : wpAnyH P md ops Q S (fuel + 1) listed a w :=
  held_load_mid i hi hs hf hr hQ2 hw ty x ho g off hx cs hS ds hu hdr hz hSw (by rw [hd]; exact h)
end
theorem step_append_d {P : Program} (w : World) {ops : Array Oper} {o : Oper} {a : Act} {K : Act → World → Prop} {Q : Exit → Act → World → Prop} {E : Prop} (d : Option Tmp) (hd : o.dst = d) (hgd : o.guard = none) (s x : Operand) (t : TypeId)
    (ho : o.op = .call { callee := .builtin .append, args := #[s, x], argTypes := #[t, t] })
    (base : Nat) (e : TypeId) (i : TypeInfo) (z : Value) (bytes : Nat) (k : IntKind) (ht : P.underlying t = some (.slice e)) (hi : P.info? e = some i) (hz : i.zero = some z)
    (hsize : i.size = 1) (hby : i.bytes = bytes) (hzs : z.cells.size = 1) (v : Value) (zs : List Int) (hs : a.eval s = v) (hown : OwnI w base e k v zs)
    (B : Nat) (A : Option Addr) (m c : Nat) (ys : List Int) (hx : a.eval x = .slice A m c) (hr : Rd k w B A m ys)
    (h63 : zs.length + m ≤ maxLen) (hbytes : (zs.length + m) * bytes ≤ 140737488355328) (hbase : base ≤ w.heap.size)
    (h : ∀ v' w', OwnI w' base e k v' (zs ++ ys) → w.grownBy w' v.ownBlock → (v'.ownBlock = v.ownBlock ∨ v'.ownBlock = some w.heap.size) → K (a.put d v') w') :
    if Region.wanted o (yielded ops a.tmps) = true then Oper.wp P o a w K Q else E := by
  subst hd
  exact step_append_ints w hgd s x t ho base e i z bytes k ht hi hz hsize hby hzs v zs hs hown B A m c ys hx hr h63 hbytes hbase h
section
variable {P : Program} {ops : Array Oper} {Q : Exit → Act → World → Prop} {md : Region.Mode} {S : World → Prop} {fuel : Nat} {listed : Array Bool} {a : Act} {w : World}
/-- What comes behind the region is kept under a letter meanwhile. -/
theorem wpAnyH_letter (L : Array Bool) (hL : listed = L) (hQ : ∀ c a d v w, Q (.panic c) (Act.put a d v) w → Q (.panic c) a w)
    (h : ∀ Q' : Exit → Act → World → Prop, Hid (∀ a w, Q .normal a w → Q' .normal a w) → Hid (∀ c a d v w, Q' (.panic c) (Act.put a d v) w → Q' (.panic c) a w) → wpAnyH P md ops Q' S fuel L a w) : wpAnyH P md ops Q S fuel listed a w := by
  subst hL
  exact h Q (fun _ _ h => h) hQ
end
/-- A cell of a row of the call's own is stored. -/
theorem OwnI.put {w w' : World} {base g c n j : Nat} {e : TypeId} {k : IntKind} {z : Int} {zs : List Int} {cur : Array Value} (h : OwnI w base e k (.slice (some ⟨g, 0, none⟩) n c) zs) (hb : Blk w g e cur) (hj : j < zs.length) (hk : Blk w' g e (cur.setIfInBounds j (.int k z))) : OwnI w' base e k (.slice (some ⟨g, 0, none⟩) n c) (zs.set j z) := by
  refine ⟨by simp, ?_⟩
  rcases h.2 with ⟨h1, _⟩ | ⟨g', cap, cur', h1, h2, h3, h4, h5, h6, h7⟩
  · cases h1
  · injection h1 with e1 e2 e3
    injection e1 with e1
    injection e1 with e1 e4
    subst e1 e2 e3
    unfold Blk at hb
    rw [h3] at hb
    injection hb with hb
    injection hb with hb _
    subst hb
    refine .inr ⟨g, c, _, by rw [List.length_set], h2, hk, by rw [List.length_set]; exact h4, h5, by rw [Array.size_setIfInBounds]; exact h6, ?_⟩
    rw [Nat.mul_one] at h7 ⊢
    rw [Array.toList_setIfInBounds, List.length_set, List.take_set, h7, List.map_set]
/-- Its block, known whole. -/
theorem OwnI.whole {w : World} {base n c : Nat} {e : TypeId} {k : IntKind} {A : Option Addr} {zs : List Int} (h : OwnI w base e k (.slice A n c) zs) (hn : 0 < zs.length) : ∃ g cur, A = some ⟨g, 0, none⟩ ∧ base ≤ g ∧ Blk w g e cur ∧ zs.length ≤ cur.size ∧ ∀ j, j < zs.length → cur[j]? = some (.int k (zs.getD j 0)) := by
  rcases h.2 with ⟨h1, h2⟩ | ⟨g, cap, cur, h1, h2, h3, h4, h5, h6, h7⟩
  · omega
  · injection h1 with e1 e2 e3
    rw [Nat.mul_one] at h7
    refine ⟨g, cur, e1, h2, h3, by rw [h6]; omega, fun j hj => ?_⟩
    have h8 : (cur.toList.take zs.length)[j]? = (zs.map (Value.int k))[j]? := by rw [h7]
    rw [List.getElem?_take, if_pos hj, List.getElem?_map, List.getElem?_eq_getElem hj] at h8
    rw [← Array.getElem?_toList, h8, List.getD_eq_getElem?_getD, List.getElem?_eq_getElem hj]
    rfl
end Go.Proofs.YtomkidgmpbjgeaaGreatDoor
/-
  Rows of slices of bytes, read.
  Conditions: none.
-/
set_option maxRecDepth 100000
set_option linter.unusedVariables false
set_option linter.unusedSimpArgs false
namespace Go.Proofs.YtomkidgmpbjgeaaGreatDoor
open Go.ChangeShapes Go.WideShapes Go.ChangeAt Go.RowKit
/-- The slice reads as rows of bytes. -/
structure Row where
  A : Option Addr
  n : Nat
  c : Nat
  zs : List Int
def RdRows (w : World) (B : Nat) (A : Option Addr) (n : Nat) (rs : List Row) : Prop :=
  rs.length = n ∧ (0 < n → ∃ b off, A = some ⟨b, off, none⟩ ∧ b < B ∧ ∀ (j : Nat) (r : Row), rs[j]? = some r → w.cell? ⟨b, off + j, none⟩ = some (.slice r.A r.n r.c)) ∧ ∀ r ∈ rs, Rd .u8 w B r.A r.n r.zs ∧ r.n ≤ r.c
theorem RdRows.below {w w' : World} {B n : Nat} {A : Option Addr} {rs : List Row} (h : RdRows w B A n rs) (hb : Below B w w') : RdRows w' B A n rs :=
  ⟨h.1, fun hn => by
    obtain ⟨b, off, e, hlt, hc⟩ := h.2.1 hn
    exact ⟨b, off, e, hlt, fun j r hj => (hb.cell (p := ⟨b, off + j, none⟩) hlt).trans (hc j r hj)⟩, fun r hr => ⟨(h.2.2 r hr).1.below hb, (h.2.2 r hr).2⟩⟩
end Go.Proofs.YtomkidgmpbjgeaaGreatDoor
/-
  What is known of memory, as a list: blocks known whole, slices that read as lists, rows of slices; it stays while calls leave old memory as it was. Steps by hand inside a region that draws its order.
  Conditions: those that each theorem names.
-/
set_option maxRecDepth 100000
set_option linter.unusedVariables false
set_option linter.unusedSimpArgs false
namespace Go.Proofs.YtomkidgmpbjgeaaGreatDoor
open Go.ChangeShapes Go.WideShapes Go.ChangeAt Go.RowKit
inductive Fact where
  | blk (g : Nat) (t : TypeId) (cs : Array Value)
  | rd (k : IntKind) (A : Option Addr) (n : Nat) (zs : List Int)
  | rows (A : Option Addr) (n : Nat) (rs : List Row)
  | bel (w : World)
  | rdb (k : IntKind) (B : Nat) (A : Option Addr) (n : Nat) (zs : List Int)
  | kept (B : Nat) (R : World → Prop)
def Fact.on : Fact → World → Prop
  | .blk g t cs, w => Blk w g t cs
  | .rd k A n zs, w => Rd k w w.heap.size A n zs
  | .rows A n rs, w => RdRows w w.heap.size A n rs
  | .bel w0, w => Below w0.heap.size w0 w
  | .rdb k B A n zs, w => Rd k w B A n zs ∧ B ≤ w.heap.size
  | .kept B R, w => (∀ w', Below B w w' → R w') ∧ B ≤ w.heap.size
def Fx : List Fact → World → Prop
  | [], _ => True
  | f :: l, w => f.on w ∧ Fx l w
theorem RdRows.monoB {w : World} {B B' n : Nat} {A : Option Addr} {rs : List Row} (h : RdRows w B A n rs) (hB : B ≤ B') : RdRows w B' A n rs :=
  ⟨h.1, fun hn => by
    obtain ⟨b, off, e, hlt, hc⟩ := h.2.1 hn
    exact ⟨b, off, e, by omega, hc⟩, fun r hr => ⟨(h.2.2 r hr).1.mono hB, (h.2.2 r hr).2⟩⟩
theorem Fact.below {f : Fact} {w w' : World} (h : f.on w) (hb : Below w.heap.size w w') : f.on w' := by
  cases f with
  | blk g t cs => exact Blk.below h hb (Blk.lt h)
  | rd k A n zs => exact (Rd.below h hb).fit
  | rows A n rs => exact (RdRows.below h hb).monoB hb.size
  | bel w0 => exact Below.trans h (hb.mono (Below.size h))
  | rdb k B A n zs => exact ⟨Rd.below h.1 (hb.mono h.2), Nat.le_trans h.2 hb.size⟩
  | kept B R => exact ⟨fun w2 h2 => h.1 w2 ((hb.mono h.2).trans h2), Nat.le_trans h.2 hb.size⟩
theorem Fx.below {l : List Fact} {w w' : World} (h : Fx l w) (hb : Below w.heap.size w w') : Fx l w' := by
  induction l with
  | nil => exact trivial
  | cons f l ih => exact ⟨Fact.below h.1 hb, ih h.2⟩
theorem Fx.drew {l : List Fact} {w : World} (h : Fx l w) : Fx l w.drew := h.below (Below.refl _ _).drew
theorem Fx.alloc {l : List Fact} {w : World} (h : Fx l w) (o : Obj) : Fx l (w.alloc o) := h.below ((Below.refl _ _).alloc (Nat.le_refl _) o)
theorem Fx.app {l l' : List Fact} {w : World} (h : Fx l w) (h' : Fx l' w) : Fx (l ++ l') w := by
  induction l with
  | nil => exact h'
  | cons f l ih => exact ⟨h.1, ih h.2⟩
/-- No integer of this kind among the cells. -/
def NoInt (k : IntKind) (cs : Array Value) : Prop := ∀ (j : Nat) (z : Int), cs[j]? ≠ some (.int k z)
/-- A slice of integers lies apart from a block that holds none of their kind. -/
theorem Rd.apartB {k : IntKind} {w w' : World} {A : Option Addr} {n g : Nat} {t : TypeId} {cs : Array Value} {zs : List Int} (h : Rd k w w.heap.size A n zs) (hb : Blk w g t cs) (hno : NoInt k cs) (hs : w.heap.size ≤ w'.heap.size) (ho : ∀ j, j ≠ g → w'.heap[j]? = w.heap[j]?) : Rd k w' w'.heap.size A n zs := by
  refine ⟨h.1, fun hn => ?_⟩
  obtain ⟨b, off, e, hlt, hc⟩ := h.2 hn
  have hne : b ≠ g := by
    rintro rfl
    have h0 := hc 0 hn
    rw [hb.cell] at h0
    exact hno _ _ h0
  refine ⟨b, off, e, by omega, fun j hj => ?_⟩
  rw [World.cell?_of_block (w := w) (w' := w') (a := ⟨b, off + j, none⟩) (ho b hne)]
  exact hc j hj
/-- What is known lies apart from the block g, whose cells are cs. -/
def Fact.off (g : Nat) (cs : Array Value) : Fact → Prop
  | .blk g' _ _ => g' ≠ g
  | .rd k _ _ _ => NoInt k cs
  | .rows _ n _ => n = 0
  | .bel w0 => w0.heap.size ≤ g
  | .rdb _ B _ _ _ => B ≤ g
  | .kept B _ => B ≤ g
def Fx.off (g : Nat) (cs : Array Value) : List Fact → Prop
  | [] => True
  | f :: l => f.off g cs ∧ Fx.off g cs l
theorem Fx.store {l : List Fact} {w w' : World} {g : Nat} {t : TypeId} {cs : Array Value} (h : Fx l w) (hk : Blk w g t cs) (ha : Fx.off g cs l) (hs : w'.heap.size = w.heap.size) (hb : ∀ B, B ≤ g → Below B w w') (ho : ∀ j, j ≠ g → w'.heap[j]? = w.heap[j]?) : Fx l w' := by
  induction l with
  | nil => exact trivial
  | cons f l ih =>
    refine ⟨?_, ih h.2 ha.2⟩
    have h1 := h.1
    have h2 := ha.1
    cases f with
    | blk g' t' cs' => exact Blk.other h1 ho h2
    | rd k A n zs => exact Rd.apartB h1 hk h2 (by omega) ho
    | rows A n rs =>
      have h3 : n = 0 := h2
      subst h3
      have h4 : rs.length = 0 := h1.1
      exact ⟨h4, fun hn => absurd hn (by omega), fun r hr => by rw [List.eq_nil_of_length_eq_zero h4] at hr; cases hr⟩
    | bel w0 => exact Below.trans h1 (hb _ h2)
    | rdb k B A n zs => exact ⟨Rd.below h1.1 (hb _ h2), by rw [hs]; exact h1.2⟩
    | kept B R => exact ⟨fun w2 h3 => h1.1 w2 ((hb _ h2).trans h3), by rw [hs]; exact h1.2⟩
end Go.Proofs.YtomkidgmpbjgeaaGreatDoor
/-
  Facts of memory as one list: a new block ahead, a store, what lies apart; rows that grow.
  Conditions: those that each theorem names.
-/
set_option maxRecDepth 100000
set_option linter.unusedVariables false
set_option linter.unusedSimpArgs false
namespace Go.Proofs.YtomkidgmpbjgeaaGreatDoor
open Go.ChangeShapes Go.WideShapes Go.ChangeAt Go.RowKit
/-- Kept where a row of elements e grows that lies at base or above. -/
def Fact.free (e : TypeId) (base : Nat) : Fact → Prop
  | .blk _ t _ => e ≠ t
  | .bel w0 => w0.heap.size = base
  | .rdb _ B _ _ _ => B ≤ base
  | .kept B _ => B ≤ base
  | _ => False
def Fx.free (e : TypeId) (base : Nat) : List Fact → Prop
  | [] => True
  | f :: l => f.free e base ∧ Fx.free e base l
theorem Fx.grown {l : List Fact} {w w' : World} {base : Nat} {e : TypeId} {k : IntKind} {v : Value} {zs : List Int} (h : Fx l w) (ho : OwnI w base e k v zs) (hf : Fx.free e base l) (hbase : base ≤ w.heap.size) (hg : w.grownBy w' v.ownBlock) : Fx l w' := by
  induction l with
  | nil => exact trivial
  | cons f l ih =>
    refine ⟨?_, ih h.2 hf.2⟩
    have h1 := h.1
    have h2 := hf.1
    cases f with
    | blk g t cs => exact Blk.grown h1 ho h2 hg
    | rd k A n zs => exact h2.elim
    | rows A n rs => exact h2.elim
    | bel w0 =>
      have h3 : w0.heap.size = base := h2
      subst h3
      exact ho.below_ h1 hbase hg
    | rdb k B A n zs =>
      have hb : Below base w w' := ho.below_ (Below.refl _ _) hbase hg
      exact ⟨Rd.below h1.1 (hb.mono h2), Nat.le_trans h1.2 hb.size⟩
    | kept B R =>
      have hb : Below base w w' := ho.below_ (Below.refl _ _) hbase hg
      exact ⟨fun w2 h3 => h1.1 w2 ((hb.mono h2).trans h3), Nat.le_trans h1.2 hb.size⟩
/-! ### lists of blocks, the newest first -/
def Fact.plain : Fact → Bool
  | .blk _ _ _ => true
  | .bel _ => true
  | .rdb _ _ _ _ _ => true
  | .kept _ _ => true
  | _ => false
def Fact.under (g : Nat) : Fact → Prop
  | .blk g' _ _ => g' < g
  | .bel w0 => w0.heap.size ≤ g
  | .rdb _ B _ _ _ => B ≤ g
  | .kept B _ => B ≤ g
  | _ => False
def Fx.under (g : Nat) : List Fact → Prop
  | [] => True
  | f :: l => f.under g ∧ Fx.under g l
section
variable {l : List Fact} {f : Fact} {w w' w0 : World} {g g' : Nat} {t : TypeId} {k : IntKind} {zs ys : List Int} {cs : Array Value}
theorem Fx.box (h : BlkI w' w.heap.size t k zs) (hb : Below w.heap.size w w') : Fx [.blk w.heap.size t (intsA k zs), .bel w] w' := ⟨h, hb, trivial⟩
theorem Fx.new (h : Fx l w) (hk : BlkI w' w.heap.size t k zs) (hb : Below w.heap.size w w') : Fx (.blk w.heap.size t (intsA k zs) :: l) w' := ⟨hk, h.below hb⟩
theorem Fx.bel0 (w : World) : Fx [.bel w] w := ⟨Below.refl _ _, trivial⟩
theorem Fx.fst (h : Fx (.blk g t (intsA k zs) :: l) w) : BlkI w g t k zs := h.1
theorem Fx.fstB (h : Fx (.blk g t cs :: l) w) : Blk w g t cs := h.1
theorem Fx.tl (h : Fx (f :: l) w) : Fx l w := h.2
theorem Fx.snd (h : Fx (f :: .blk g t (intsA k zs) :: l) w) : BlkI w g t k zs := h.2.1
theorem Fx.bel1 (h : Fx [.bel w0] w) : Below w0.heap.size w0 w := h.1
theorem Fx.bel2 (h : Fx [f, .bel w0] w) : Below w0.heap.size w0 w := h.2.1
theorem Fx.bel3 {f2 : Fact} (h : Fx [f, f2, .bel w0] w) : Below w0.heap.size w0 w := h.2.2.1
theorem Fx.bel4 {f2 f3 : Fact} (h : Fx [f, f2, f3, .bel w0] w) : Below w0.heap.size w0 w := h.2.2.2.1
theorem Fx.under_new (h : Fx l w) (hp : l.all Fact.plain = true) : Fx.under w.heap.size l := by
  induction l with
  | nil => exact trivial
  | cons f l ih =>
    rw [List.all_cons, Bool.and_eq_true] at hp
    refine ⟨?_, ih h.2 hp.2⟩
    have h1 := h.1
    cases f with
    | blk g t cs => exact Blk.lt h1
    | bel w0 => exact Below.size h1
    | rdb k B A n zs => exact h1.2
    | kept B R => exact h1.2
    | rd k A n zs => cases hp.1
    | rows A n rs => cases hp.1
theorem Fx.off_under (h : Fx.under g l) (cs : Array Value) : Fx.off g cs l := by
  induction l with
  | nil => exact trivial
  | cons f l ih =>
    refine ⟨?_, ih h.2⟩
    have h1 := h.1
    cases f with
    | blk g' t cs => exact Nat.ne_of_lt h1
    | bel w0 => exact h1
    | rdb k B A n zs => exact h1
    | kept B R => exact h1
    | rd k A n zs => exact h1.elim
    | rows A n rs => exact h1.elim
/-- The newest block is written. -/
theorem Fx.put1 (h : Fx (.blk g t cs :: l) w) (hu : Fx.under g l) (hk : BlkI w' g t k ys) (hs : w'.heap.size = w.heap.size) (hb : ∀ B, B ≤ g → Below B w w') (ho : ∀ j, j ≠ g → w'.heap[j]? = w.heap[j]?) : Fx (.blk g t (intsA k ys) :: l) w' :=
  ⟨hk, h.2.store h.1 (Fx.off_under hu _) hs hb ho⟩
/-- The one below it is written. -/
theorem Fx.put2 {t' : TypeId} {cs' : Array Value} (h : Fx (.blk g' t' cs' :: .blk g t cs :: l) w) (hu : Fx.under g' (.blk g t cs :: l)) (hu2 : Fx.under g l) (hk : BlkI w' g t k ys) (hs : w'.heap.size = w.heap.size) (hb : ∀ B, B ≤ g → Below B w w') (ho : ∀ j, j ≠ g → w'.heap[j]? = w.heap[j]?) : Fx (.blk g' t' cs' :: .blk g t (intsA k ys) :: l) w' :=
  ⟨Blk.other h.1 ho (Nat.ne_of_gt hu.1), Fx.put1 h.2 hu2 hk hs hb ho⟩
theorem Fx.under_put (h : Fx.under g' (.blk g t cs :: l)) (cs' : Array Value) : Fx.under g' (.blk g t cs' :: l) := h
end
theorem Fx.free2 {e t : TypeId} {g : Nat} {cs : Array Value} {w : World} (h : e ≠ t) : Fx.free e w.heap.size [.blk g t cs, .bel w] := ⟨h, rfl, trivial⟩
theorem Fx.free3 {e t t2 : TypeId} {g g2 : Nat} {cs cs2 : Array Value} {w : World} (h : e ≠ t) (h2 : e ≠ t2) : Fx.free e w.heap.size [.blk g t cs, .blk g2 t2 cs2, .bel w] := ⟨h, h2, rfl, trivial⟩
section
variable {P : Program} {ops : Array Oper} {Q : Exit → Act → World → Prop} {a : Act} {w w1 : World}
/-- An operation whose value and world are known, where it comes up. -/
theorem step_run {o : Oper} {K : Act → World → Prop} {E : Prop} (d : Option Tmp) (hd : o.dst = d) (hw : Region.wanted o (yielded ops a.tmps) = true) (v : Value) (he : (execOp a.eval o).run P w = .ok (.value v) w1) (h : K (a.put d v) w1) :
    if Region.wanted o (yielded ops a.tmps) = true then Oper.wp P o a w K Q else E := by
  subst hd
  rw [if_pos hw]
  unfold Oper.wp
  rw [he]
  exact h
end
end Go.Proofs.YtomkidgmpbjgeaaGreatDoor
/-
  Lists of facts of memory: each one by its place, what is added in front, what is written in front.
  Conditions: those that each theorem names.
-/
set_option maxRecDepth 100000
set_option linter.unusedVariables false
set_option linter.unusedSimpArgs false
namespace Go.Proofs.YtomkidgmpbjgeaaGreatDoor
open Go.ChangeShapes Go.WideShapes Go.ChangeAt Go.RowKit
section
variable {l : List Fact} {w w' w0 : World} {g B n : Nat} {t : TypeId} {k : IntKind} {zs : List Int} {A : Option Addr} {cs ys : Array Value} {f0 : Fact} {f1 : Fact} {f2 : Fact} {f3 : Fact} {f4 : Fact} {f5 : Fact} {f6 : Fact} {f7 : Fact} {f8 : Fact} {f9 : Fact} {f10 : Fact} {f11 : Fact} {f12 : Fact} {f13 : Fact} {f14 : Fact} {f15 : Fact} {f16 : Fact} {f17 : Fact} {f18 : Fact} {f19 : Fact} {f20 : Fact} {f21 : Fact} {f22 : Fact} {f23 : Fact} {f24 : Fact} {f25 : Fact} {f26 : Fact} {f27 : Fact} {f28 : Fact} {f29 : Fact} {f30 : Fact} {f31 : Fact}
theorem Fx.newB (h : Fx l w) (hk : Blk w' w.heap.size t cs) (hb : Below w.heap.size w w') : Fx (.blk w.heap.size t cs :: l) w' := ⟨hk, h.below hb⟩
theorem Fx.addR (h : Fx l w) (hb : Below w.heap.size w w') (hr : Rd k w' w'.heap.size A n zs) : Fx (.rdb k w'.heap.size A n zs :: l) w' := ⟨⟨hr, Nat.le_refl _⟩, h.below hb⟩
theorem Fx.addK {R : World → Prop} (h : Fx l w) (hb : Below w.heap.size w w') (hr : ∀ w2, Below w'.heap.size w' w2 → R w2) : Fx (.kept w'.heap.size R :: l) w' := ⟨⟨hr, Nat.le_refl _⟩, h.below hb⟩
theorem Fx.put1B (h : Fx (.blk g t cs :: l) w) (hu : Fx.under g l) (hk : Blk w' g t ys) (hs : w'.heap.size = w.heap.size) (hb : ∀ B, B ≤ g → Below B w w') (ho : ∀ j, j ≠ g → w'.heap[j]? = w.heap[j]?) : Fx (.blk g t ys :: l) w' :=
  ⟨hk, h.2.store h.1 (Fx.off_under hu _) hs hb ho⟩
theorem Fx.b0 (h : Fx (.blk g t cs :: l) w) : Blk w g t cs := h.1
theorem Fx.i0 (h : Fx (.blk g t (intsA k zs) :: l) w) : BlkI w g t k zs := h.1
theorem Fx.r0 (h : Fx (.rdb k B A n zs :: l) w) : Rd k w w.heap.size A n zs := h.1.1.mono h.1.2
theorem Fx.q0 (h : Fx (.rdb k B A n zs :: l) w) : Rd k w B A n zs := h.1.1
theorem Fx.k0 {R : World → Prop} (h : Fx (.kept B R :: l) w) : R w := h.1.1 _ (Below.refl _ _)
theorem Fx.s0 (h : Fx (.rd k A n zs :: l) w) : Rd k w w.heap.size A n zs := h.1
theorem Fx.e0 (h : Fx (.bel w0 :: l) w) : Below w0.heap.size w0 w := h.1
theorem Fx.b1 (h : Fx (f0 :: .blk g t cs :: l) w) : Blk w g t cs := h.2.1
theorem Fx.i1 (h : Fx (f0 :: .blk g t (intsA k zs) :: l) w) : BlkI w g t k zs := h.2.1
theorem Fx.r1 (h : Fx (f0 :: .rdb k B A n zs :: l) w) : Rd k w w.heap.size A n zs := h.2.1.1.mono h.2.1.2
theorem Fx.q1 (h : Fx (f0 :: .rdb k B A n zs :: l) w) : Rd k w B A n zs := h.2.1.1
theorem Fx.k1 {R : World → Prop} (h : Fx (f0 :: .kept B R :: l) w) : R w := h.2.1.1 _ (Below.refl _ _)
theorem Fx.s1 (h : Fx (f0 :: .rd k A n zs :: l) w) : Rd k w w.heap.size A n zs := h.2.1
theorem Fx.e1 (h : Fx (f0 :: .bel w0 :: l) w) : Below w0.heap.size w0 w := h.2.1
theorem Fx.b2 (h : Fx (f0 :: f1 :: .blk g t cs :: l) w) : Blk w g t cs := h.2.2.1
theorem Fx.i2 (h : Fx (f0 :: f1 :: .blk g t (intsA k zs) :: l) w) : BlkI w g t k zs := h.2.2.1
theorem Fx.r2 (h : Fx (f0 :: f1 :: .rdb k B A n zs :: l) w) : Rd k w w.heap.size A n zs := h.2.2.1.1.mono h.2.2.1.2
theorem Fx.q2 (h : Fx (f0 :: f1 :: .rdb k B A n zs :: l) w) : Rd k w B A n zs := h.2.2.1.1
theorem Fx.k2 {R : World → Prop} (h : Fx (f0 :: f1 :: .kept B R :: l) w) : R w := h.2.2.1.1 _ (Below.refl _ _)
theorem Fx.s2 (h : Fx (f0 :: f1 :: .rd k A n zs :: l) w) : Rd k w w.heap.size A n zs := h.2.2.1
theorem Fx.e2 (h : Fx (f0 :: f1 :: .bel w0 :: l) w) : Below w0.heap.size w0 w := h.2.2.1
theorem Fx.b3 (h : Fx (f0 :: f1 :: f2 :: .blk g t cs :: l) w) : Blk w g t cs := h.2.2.2.1
theorem Fx.i3 (h : Fx (f0 :: f1 :: f2 :: .blk g t (intsA k zs) :: l) w) : BlkI w g t k zs := h.2.2.2.1
theorem Fx.r3 (h : Fx (f0 :: f1 :: f2 :: .rdb k B A n zs :: l) w) : Rd k w w.heap.size A n zs := h.2.2.2.1.1.mono h.2.2.2.1.2
theorem Fx.q3 (h : Fx (f0 :: f1 :: f2 :: .rdb k B A n zs :: l) w) : Rd k w B A n zs := h.2.2.2.1.1
theorem Fx.k3 {R : World → Prop} (h : Fx (f0 :: f1 :: f2 :: .kept B R :: l) w) : R w := h.2.2.2.1.1 _ (Below.refl _ _)
theorem Fx.s3 (h : Fx (f0 :: f1 :: f2 :: .rd k A n zs :: l) w) : Rd k w w.heap.size A n zs := h.2.2.2.1
theorem Fx.e3 (h : Fx (f0 :: f1 :: f2 :: .bel w0 :: l) w) : Below w0.heap.size w0 w := h.2.2.2.1
theorem Fx.b4 (h : Fx (f0 :: f1 :: f2 :: f3 :: .blk g t cs :: l) w) : Blk w g t cs := h.2.2.2.2.1
theorem Fx.i4 (h : Fx (f0 :: f1 :: f2 :: f3 :: .blk g t (intsA k zs) :: l) w) : BlkI w g t k zs := h.2.2.2.2.1
theorem Fx.r4 (h : Fx (f0 :: f1 :: f2 :: f3 :: .rdb k B A n zs :: l) w) : Rd k w w.heap.size A n zs := h.2.2.2.2.1.1.mono h.2.2.2.2.1.2
theorem Fx.q4 (h : Fx (f0 :: f1 :: f2 :: f3 :: .rdb k B A n zs :: l) w) : Rd k w B A n zs := h.2.2.2.2.1.1
theorem Fx.k4 {R : World → Prop} (h : Fx (f0 :: f1 :: f2 :: f3 :: .kept B R :: l) w) : R w := h.2.2.2.2.1.1 _ (Below.refl _ _)
theorem Fx.s4 (h : Fx (f0 :: f1 :: f2 :: f3 :: .rd k A n zs :: l) w) : Rd k w w.heap.size A n zs := h.2.2.2.2.1
theorem Fx.e4 (h : Fx (f0 :: f1 :: f2 :: f3 :: .bel w0 :: l) w) : Below w0.heap.size w0 w := h.2.2.2.2.1
theorem Fx.b5 (h : Fx (f0 :: f1 :: f2 :: f3 :: f4 :: .blk g t cs :: l) w) : Blk w g t cs := h.2.2.2.2.2.1
theorem Fx.i5 (h : Fx (f0 :: f1 :: f2 :: f3 :: f4 :: .blk g t (intsA k zs) :: l) w) : BlkI w g t k zs := h.2.2.2.2.2.1
theorem Fx.r5 (h : Fx (f0 :: f1 :: f2 :: f3 :: f4 :: .rdb k B A n zs :: l) w) : Rd k w w.heap.size A n zs := h.2.2.2.2.2.1.1.mono h.2.2.2.2.2.1.2
theorem Fx.q5 (h : Fx (f0 :: f1 :: f2 :: f3 :: f4 :: .rdb k B A n zs :: l) w) : Rd k w B A n zs := h.2.2.2.2.2.1.1
theorem Fx.k5 {R : World → Prop} (h : Fx (f0 :: f1 :: f2 :: f3 :: f4 :: .kept B R :: l) w) : R w := h.2.2.2.2.2.1.1 _ (Below.refl _ _)
theorem Fx.s5 (h : Fx (f0 :: f1 :: f2 :: f3 :: f4 :: .rd k A n zs :: l) w) : Rd k w w.heap.size A n zs := h.2.2.2.2.2.1
theorem Fx.e5 (h : Fx (f0 :: f1 :: f2 :: f3 :: f4 :: .bel w0 :: l) w) : Below w0.heap.size w0 w := h.2.2.2.2.2.1
theorem Fx.b6 (h : Fx (f0 :: f1 :: f2 :: f3 :: f4 :: f5 :: .blk g t cs :: l) w) : Blk w g t cs := h.2.2.2.2.2.2.1
theorem Fx.i6 (h : Fx (f0 :: f1 :: f2 :: f3 :: f4 :: f5 :: .blk g t (intsA k zs) :: l) w) : BlkI w g t k zs := h.2.2.2.2.2.2.1
theorem Fx.r6 (h : Fx (f0 :: f1 :: f2 :: f3 :: f4 :: f5 :: .rdb k B A n zs :: l) w) : Rd k w w.heap.size A n zs := h.2.2.2.2.2.2.1.1.mono h.2.2.2.2.2.2.1.2
theorem Fx.q6 (h : Fx (f0 :: f1 :: f2 :: f3 :: f4 :: f5 :: .rdb k B A n zs :: l) w) : Rd k w B A n zs := h.2.2.2.2.2.2.1.1
theorem Fx.k6 {R : World → Prop} (h : Fx (f0 :: f1 :: f2 :: f3 :: f4 :: f5 :: .kept B R :: l) w) : R w := h.2.2.2.2.2.2.1.1 _ (Below.refl _ _)
theorem Fx.s6 (h : Fx (f0 :: f1 :: f2 :: f3 :: f4 :: f5 :: .rd k A n zs :: l) w) : Rd k w w.heap.size A n zs := h.2.2.2.2.2.2.1
theorem Fx.e6 (h : Fx (f0 :: f1 :: f2 :: f3 :: f4 :: f5 :: .bel w0 :: l) w) : Below w0.heap.size w0 w := h.2.2.2.2.2.2.1
theorem Fx.b7 (h : Fx (f0 :: f1 :: f2 :: f3 :: f4 :: f5 :: f6 :: .blk g t cs :: l) w) : Blk w g t cs := h.2.2.2.2.2.2.2.1
theorem Fx.i7 (h : Fx (f0 :: f1 :: f2 :: f3 :: f4 :: f5 :: f6 :: .blk g t (intsA k zs) :: l) w) : BlkI w g t k zs := h.2.2.2.2.2.2.2.1
theorem Fx.r7 (h : Fx (f0 :: f1 :: f2 :: f3 :: f4 :: f5 :: f6 :: .rdb k B A n zs :: l) w) : Rd k w w.heap.size A n zs := h.2.2.2.2.2.2.2.1.1.mono h.2.2.2.2.2.2.2.1.2
theorem Fx.q7 (h : Fx (f0 :: f1 :: f2 :: f3 :: f4 :: f5 :: f6 :: .rdb k B A n zs :: l) w) : Rd k w B A n zs := h.2.2.2.2.2.2.2.1.1
theorem Fx.k7 {R : World → Prop} (h : Fx (f0 :: f1 :: f2 :: f3 :: f4 :: f5 :: f6 :: .kept B R :: l) w) : R w := h.2.2.2.2.2.2.2.1.1 _ (Below.refl _ _)
theorem Fx.s7 (h : Fx (f0 :: f1 :: f2 :: f3 :: f4 :: f5 :: f6 :: .rd k A n zs :: l) w) : Rd k w w.heap.size A n zs := h.2.2.2.2.2.2.2.1
theorem Fx.e7 (h : Fx (f0 :: f1 :: f2 :: f3 :: f4 :: f5 :: f6 :: .bel w0 :: l) w) : Below w0.heap.size w0 w := h.2.2.2.2.2.2.2.1
theorem Fx.b8 (h : Fx (f0 :: f1 :: f2 :: f3 :: f4 :: f5 :: f6 :: f7 :: .blk g t cs :: l) w) : Blk w g t cs := h.2.2.2.2.2.2.2.2.1
theorem Fx.i8 (h : Fx (f0 :: f1 :: f2 :: f3 :: f4 :: f5 :: f6 :: f7 :: .blk g t (intsA k zs) :: l) w) : BlkI w g t k zs := h.2.2.2.2.2.2.2.2.1
theorem Fx.r8 (h : Fx (f0 :: f1 :: f2 :: f3 :: f4 :: f5 :: f6 :: f7 :: .rdb k B A n zs :: l) w) : Rd k w w.heap.size A n zs := h.2.2.2.2.2.2.2.2.1.1.mono h.2.2.2.2.2.2.2.2.1.2
theorem Fx.q8 (h : Fx (f0 :: f1 :: f2 :: f3 :: f4 :: f5 :: f6 :: f7 :: .rdb k B A n zs :: l) w) : Rd k w B A n zs := h.2.2.2.2.2.2.2.2.1.1
theorem Fx.k8 {R : World → Prop} (h : Fx (f0 :: f1 :: f2 :: f3 :: f4 :: f5 :: f6 :: f7 :: .kept B R :: l) w) : R w := h.2.2.2.2.2.2.2.2.1.1 _ (Below.refl _ _)
theorem Fx.s8 (h : Fx (f0 :: f1 :: f2 :: f3 :: f4 :: f5 :: f6 :: f7 :: .rd k A n zs :: l) w) : Rd k w w.heap.size A n zs := h.2.2.2.2.2.2.2.2.1
theorem Fx.e8 (h : Fx (f0 :: f1 :: f2 :: f3 :: f4 :: f5 :: f6 :: f7 :: .bel w0 :: l) w) : Below w0.heap.size w0 w := h.2.2.2.2.2.2.2.2.1
theorem Fx.b9 (h : Fx (f0 :: f1 :: f2 :: f3 :: f4 :: f5 :: f6 :: f7 :: f8 :: .blk g t cs :: l) w) : Blk w g t cs := h.2.2.2.2.2.2.2.2.2.1
theorem Fx.i9 (h : Fx (f0 :: f1 :: f2 :: f3 :: f4 :: f5 :: f6 :: f7 :: f8 :: .blk g t (intsA k zs) :: l) w) : BlkI w g t k zs := h.2.2.2.2.2.2.2.2.2.1
theorem Fx.r9 (h : Fx (f0 :: f1 :: f2 :: f3 :: f4 :: f5 :: f6 :: f7 :: f8 :: .rdb k B A n zs :: l) w) : Rd k w w.heap.size A n zs := h.2.2.2.2.2.2.2.2.2.1.1.mono h.2.2.2.2.2.2.2.2.2.1.2
theorem Fx.q9 (h : Fx (f0 :: f1 :: f2 :: f3 :: f4 :: f5 :: f6 :: f7 :: f8 :: .rdb k B A n zs :: l) w) : Rd k w B A n zs := h.2.2.2.2.2.2.2.2.2.1.1
theorem Fx.k9 {R : World → Prop} (h : Fx (f0 :: f1 :: f2 :: f3 :: f4 :: f5 :: f6 :: f7 :: f8 :: .kept B R :: l) w) : R w := h.2.2.2.2.2.2.2.2.2.1.1 _ (Below.refl _ _)
theorem Fx.s9 (h : Fx (f0 :: f1 :: f2 :: f3 :: f4 :: f5 :: f6 :: f7 :: f8 :: .rd k A n zs :: l) w) : Rd k w w.heap.size A n zs := h.2.2.2.2.2.2.2.2.2.1
theorem Fx.e9 (h : Fx (f0 :: f1 :: f2 :: f3 :: f4 :: f5 :: f6 :: f7 :: f8 :: .bel w0 :: l) w) : Below w0.heap.size w0 w := h.2.2.2.2.2.2.2.2.2.1
theorem Fx.b10 (h : Fx (f0 :: f1 :: f2 :: f3 :: f4 :: f5 :: f6 :: f7 :: f8 :: f9 :: .blk g t cs :: l) w) : Blk w g t cs := h.2.2.2.2.2.2.2.2.2.2.1
theorem Fx.i10 (h : Fx (f0 :: f1 :: f2 :: f3 :: f4 :: f5 :: f6 :: f7 :: f8 :: f9 :: .blk g t (intsA k zs) :: l) w) : BlkI w g t k zs := h.2.2.2.2.2.2.2.2.2.2.1
theorem Fx.r10 (h : Fx (f0 :: f1 :: f2 :: f3 :: f4 :: f5 :: f6 :: f7 :: f8 :: f9 :: .rdb k B A n zs :: l) w) : Rd k w w.heap.size A n zs := h.2.2.2.2.2.2.2.2.2.2.1.1.mono h.2.2.2.2.2.2.2.2.2.2.1.2
theorem Fx.q10 (h : Fx (f0 :: f1 :: f2 :: f3 :: f4 :: f5 :: f6 :: f7 :: f8 :: f9 :: .rdb k B A n zs :: l) w) : Rd k w B A n zs := h.2.2.2.2.2.2.2.2.2.2.1.1
theorem Fx.k10 {R : World → Prop} (h : Fx (f0 :: f1 :: f2 :: f3 :: f4 :: f5 :: f6 :: f7 :: f8 :: f9 :: .kept B R :: l) w) : R w := h.2.2.2.2.2.2.2.2.2.2.1.1 _ (Below.refl _ _)
theorem Fx.s10 (h : Fx (f0 :: f1 :: f2 :: f3 :: f4 :: f5 :: f6 :: f7 :: f8 :: f9 :: .rd k A n zs :: l) w) : Rd k w w.heap.size A n zs := h.2.2.2.2.2.2.2.2.2.2.1
theorem Fx.e10 (h : Fx (f0 :: f1 :: f2 :: f3 :: f4 :: f5 :: f6 :: f7 :: f8 :: f9 :: .bel w0 :: l) w) : Below w0.heap.size w0 w := h.2.2.2.2.2.2.2.2.2.2.1
theorem Fx.b11 (h : Fx (f0 :: f1 :: f2 :: f3 :: f4 :: f5 :: f6 :: f7 :: f8 :: f9 :: f10 :: .blk g t cs :: l) w) : Blk w g t cs := h.2.2.2.2.2.2.2.2.2.2.2.1
theorem Fx.i11 (h : Fx (f0 :: f1 :: f2 :: f3 :: f4 :: f5 :: f6 :: f7 :: f8 :: f9 :: f10 :: .blk g t (intsA k zs) :: l) w) : BlkI w g t k zs := h.2.2.2.2.2.2.2.2.2.2.2.1
theorem Fx.r11 (h : Fx (f0 :: f1 :: f2 :: f3 :: f4 :: f5 :: f6 :: f7 :: f8 :: f9 :: f10 :: .rdb k B A n zs :: l) w) : Rd k w w.heap.size A n zs := h.2.2.2.2.2.2.2.2.2.2.2.1.1.mono h.2.2.2.2.2.2.2.2.2.2.2.1.2
theorem Fx.q11 (h : Fx (f0 :: f1 :: f2 :: f3 :: f4 :: f5 :: f6 :: f7 :: f8 :: f9 :: f10 :: .rdb k B A n zs :: l) w) : Rd k w B A n zs := h.2.2.2.2.2.2.2.2.2.2.2.1.1
theorem Fx.k11 {R : World → Prop} (h : Fx (f0 :: f1 :: f2 :: f3 :: f4 :: f5 :: f6 :: f7 :: f8 :: f9 :: f10 :: .kept B R :: l) w) : R w := h.2.2.2.2.2.2.2.2.2.2.2.1.1 _ (Below.refl _ _)
theorem Fx.s11 (h : Fx (f0 :: f1 :: f2 :: f3 :: f4 :: f5 :: f6 :: f7 :: f8 :: f9 :: f10 :: .rd k A n zs :: l) w) : Rd k w w.heap.size A n zs := h.2.2.2.2.2.2.2.2.2.2.2.1
theorem Fx.e11 (h : Fx (f0 :: f1 :: f2 :: f3 :: f4 :: f5 :: f6 :: f7 :: f8 :: f9 :: f10 :: .bel w0 :: l) w) : Below w0.heap.size w0 w := h.2.2.2.2.2.2.2.2.2.2.2.1
theorem Fx.b12 (h : Fx (f0 :: f1 :: f2 :: f3 :: f4 :: f5 :: f6 :: f7 :: f8 :: f9 :: f10 :: f11 :: .blk g t cs :: l) w) : Blk w g t cs := h.2.2.2.2.2.2.2.2.2.2.2.2.1
theorem Fx.i12 (h : Fx (f0 :: f1 :: f2 :: f3 :: f4 :: f5 :: f6 :: f7 :: f8 :: f9 :: f10 :: f11 :: .blk g t (intsA k zs) :: l) w) : BlkI w g t k zs := h.2.2.2.2.2.2.2.2.2.2.2.2.1
theorem Fx.r12 (h : Fx (f0 :: f1 :: f2 :: f3 :: f4 :: f5 :: f6 :: f7 :: f8 :: f9 :: f10 :: f11 :: .rdb k B A n zs :: l) w) : Rd k w w.heap.size A n zs := h.2.2.2.2.2.2.2.2.2.2.2.2.1.1.mono h.2.2.2.2.2.2.2.2.2.2.2.2.1.2
theorem Fx.q12 (h : Fx (f0 :: f1 :: f2 :: f3 :: f4 :: f5 :: f6 :: f7 :: f8 :: f9 :: f10 :: f11 :: .rdb k B A n zs :: l) w) : Rd k w B A n zs := h.2.2.2.2.2.2.2.2.2.2.2.2.1.1
theorem Fx.k12 {R : World → Prop} (h : Fx (f0 :: f1 :: f2 :: f3 :: f4 :: f5 :: f6 :: f7 :: f8 :: f9 :: f10 :: f11 :: .kept B R :: l) w) : R w := h.2.2.2.2.2.2.2.2.2.2.2.2.1.1 _ (Below.refl _ _)
theorem Fx.s12 (h : Fx (f0 :: f1 :: f2 :: f3 :: f4 :: f5 :: f6 :: f7 :: f8 :: f9 :: f10 :: f11 :: .rd k A n zs :: l) w) : Rd k w w.heap.size A n zs := h.2.2.2.2.2.2.2.2.2.2.2.2.1
theorem Fx.e12 (h : Fx (f0 :: f1 :: f2 :: f3 :: f4 :: f5 :: f6 :: f7 :: f8 :: f9 :: f10 :: f11 :: .bel w0 :: l) w) : Below w0.heap.size w0 w := h.2.2.2.2.2.2.2.2.2.2.2.2.1
theorem Fx.b13 (h : Fx (f0 :: f1 :: f2 :: f3 :: f4 :: f5 :: f6 :: f7 :: f8 :: f9 :: f10 :: f11 :: f12 :: .blk g t cs :: l) w) : Blk w g t cs := h.2.2.2.2.2.2.2.2.2.2.2.2.2.1
theorem Fx.i13 (h : Fx (f0 :: f1 :: f2 :: f3 :: f4 :: f5 :: f6 :: f7 :: f8 :: f9 :: f10 :: f11 :: f12 :: .blk g t (intsA k zs) :: l) w) : BlkI w g t k zs := h.2.2.2.2.2.2.2.2.2.2.2.2.2.1
theorem Fx.r13 (h : Fx (f0 :: f1 :: f2 :: f3 :: f4 :: f5 :: f6 :: f7 :: f8 :: f9 :: f10 :: f11 :: f12 :: .rdb k B A n zs :: l) w) : Rd k w w.heap.size A n zs := h.2.2.2.2.2.2.2.2.2.2.2.2.2.1.1.mono h.2.2.2.2.2.2.2.2.2.2.2.2.2.1.2
theorem Fx.q13 (h : Fx (f0 :: f1 :: f2 :: f3 :: f4 :: f5 :: f6 :: f7 :: f8 :: f9 :: f10 :: f11 :: f12 :: .rdb k B A n zs :: l) w) : Rd k w B A n zs := h.2.2.2.2.2.2.2.2.2.2.2.2.2.1.1
theorem Fx.k13 {R : World → Prop} (h : Fx (f0 :: f1 :: f2 :: f3 :: f4 :: f5 :: f6 :: f7 :: f8 :: f9 :: f10 :: f11 :: f12 :: .kept B R :: l) w) : R w := h.2.2.2.2.2.2.2.2.2.2.2.2.2.1.1 _ (Below.refl _ _)
theorem Fx.s13 (h : Fx (f0 :: f1 :: f2 :: f3 :: f4 :: f5 :: f6 :: f7 :: f8 :: f9 :: f10 :: f11 :: f12 :: .rd k A n zs :: l) w) : Rd k w w.heap.size A n zs := h.2.2.2.2.2.2.2.2.2.2.2.2.2.1
theorem Fx.e13 (h : Fx (f0 :: f1 :: f2 :: f3 :: f4 :: f5 :: f6 :: f7 :: f8 :: f9 :: f10 :: f11 :: f12 :: .bel w0 :: l) w) : Below w0.heap.size w0 w := h.2.2.2.2.2.2.2.2.2.2.2.2.2.1
theorem Fx.b14 (h : Fx (f0 :: f1 :: f2 :: f3 :: f4 :: f5 :: f6 :: f7 :: f8 :: f9 :: f10 :: f11 :: f12 :: f13 :: .blk g t cs :: l) w) : Blk w g t cs := h.2.2.2.2.2.2.2.2.2.2.2.2.2.2.1
theorem Fx.i14 (h : Fx (f0 :: f1 :: f2 :: f3 :: f4 :: f5 :: f6 :: f7 :: f8 :: f9 :: f10 :: f11 :: f12 :: f13 :: .blk g t (intsA k zs) :: l) w) : BlkI w g t k zs := h.2.2.2.2.2.2.2.2.2.2.2.2.2.2.1
theorem Fx.r14 (h : Fx (f0 :: f1 :: f2 :: f3 :: f4 :: f5 :: f6 :: f7 :: f8 :: f9 :: f10 :: f11 :: f12 :: f13 :: .rdb k B A n zs :: l) w) : Rd k w w.heap.size A n zs := h.2.2.2.2.2.2.2.2.2.2.2.2.2.2.1.1.mono h.2.2.2.2.2.2.2.2.2.2.2.2.2.2.1.2
theorem Fx.q14 (h : Fx (f0 :: f1 :: f2 :: f3 :: f4 :: f5 :: f6 :: f7 :: f8 :: f9 :: f10 :: f11 :: f12 :: f13 :: .rdb k B A n zs :: l) w) : Rd k w B A n zs := h.2.2.2.2.2.2.2.2.2.2.2.2.2.2.1.1
theorem Fx.k14 {R : World → Prop} (h : Fx (f0 :: f1 :: f2 :: f3 :: f4 :: f5 :: f6 :: f7 :: f8 :: f9 :: f10 :: f11 :: f12 :: f13 :: .kept B R :: l) w) : R w := h.2.2.2.2.2.2.2.2.2.2.2.2.2.2.1.1 _ (Below.refl _ _)
theorem Fx.s14 (h : Fx (f0 :: f1 :: f2 :: f3 :: f4 :: f5 :: f6 :: f7 :: f8 :: f9 :: f10 :: f11 :: f12 :: f13 :: .rd k A n zs :: l) w) : Rd k w w.heap.size A n zs := h.2.2.2.2.2.2.2.2.2.2.2.2.2.2.1
theorem Fx.e14 (h : Fx (f0 :: f1 :: f2 :: f3 :: f4 :: f5 :: f6 :: f7 :: f8 :: f9 :: f10 :: f11 :: f12 :: f13 :: .bel w0 :: l) w) : Below w0.heap.size w0 w := h.2.2.2.2.2.2.2.2.2.2.2.2.2.2.1
theorem Fx.b15 (h : Fx (f0 :: f1 :: f2 :: f3 :: f4 :: f5 :: f6 :: f7 :: f8 :: f9 :: f10 :: f11 :: f12 :: f13 :: f14 :: .blk g t cs :: l) w) : Blk w g t cs := h.2.2.2.2.2.2.2.2.2.2.2.2.2.2.2.1
theorem Fx.i15 (h : Fx (f0 :: f1 :: f2 :: f3 :: f4 :: f5 :: f6 :: f7 :: f8 :: f9 :: f10 :: f11 :: f12 :: f13 :: f14 :: .blk g t (intsA k zs) :: l) w) : BlkI w g t k zs := h.2.2.2.2.2.2.2.2.2.2.2.2.2.2.2.1
theorem Fx.r15 (h : Fx (f0 :: f1 :: f2 :: f3 :: f4 :: f5 :: f6 :: f7 :: f8 :: f9 :: f10 :: f11 :: f12 :: f13 :: f14 :: .rdb k B A n zs :: l) w) : Rd k w w.heap.size A n zs := h.2.2.2.2.2.2.2.2.2.2.2.2.2.2.2.1.1.mono h.2.2.2.2.2.2.2.2.2.2.2.2.2.2.2.1.2
theorem Fx.q15 (h : Fx (f0 :: f1 :: f2 :: f3 :: f4 :: f5 :: f6 :: f7 :: f8 :: f9 :: f10 :: f11 :: f12 :: f13 :: f14 :: .rdb k B A n zs :: l) w) : Rd k w B A n zs := h.2.2.2.2.2.2.2.2.2.2.2.2.2.2.2.1.1
theorem Fx.k15 {R : World → Prop} (h : Fx (f0 :: f1 :: f2 :: f3 :: f4 :: f5 :: f6 :: f7 :: f8 :: f9 :: f10 :: f11 :: f12 :: f13 :: f14 :: .kept B R :: l) w) : R w := h.2.2.2.2.2.2.2.2.2.2.2.2.2.2.2.1.1 _ (Below.refl _ _)
theorem Fx.s15 (h : Fx (f0 :: f1 :: f2 :: f3 :: f4 :: f5 :: f6 :: f7 :: f8 :: f9 :: f10 :: f11 :: f12 :: f13 :: f14 :: .rd k A n zs :: l) w) : Rd k w w.heap.size A n zs := h.2.2.2.2.2.2.2.2.2.2.2.2.2.2.2.1
theorem Fx.e15 (h : Fx (f0 :: f1 :: f2 :: f3 :: f4 :: f5 :: f6 :: f7 :: f8 :: f9 :: f10 :: f11 :: f12 :: f13 :: f14 :: .bel w0 :: l) w) : Below w0.heap.size w0 w := h.2.2.2.2.2.2.2.2.2.2.2.2.2.2.2.1
theorem Fx.b16 (h : Fx (f0 :: f1 :: f2 :: f3 :: f4 :: f5 :: f6 :: f7 :: f8 :: f9 :: f10 :: f11 :: f12 :: f13 :: f14 :: f15 :: .blk g t cs :: l) w) : Blk w g t cs := h.2.2.2.2.2.2.2.2.2.2.2.2.2.2.2.2.1
theorem Fx.i16 (h : Fx (f0 :: f1 :: f2 :: f3 :: f4 :: f5 :: f6 :: f7 :: f8 :: f9 :: f10 :: f11 :: f12 :: f13 :: f14 :: f15 :: .blk g t (intsA k zs) :: l) w) : BlkI w g t k zs := h.2.2.2.2.2.2.2.2.2.2.2.2.2.2.2.2.1
theorem Fx.r16 (h : Fx (f0 :: f1 :: f2 :: f3 :: f4 :: f5 :: f6 :: f7 :: f8 :: f9 :: f10 :: f11 :: f12 :: f13 :: f14 :: f15 :: .rdb k B A n zs :: l) w) : Rd k w w.heap.size A n zs := h.2.2.2.2.2.2.2.2.2.2.2.2.2.2.2.2.1.1.mono h.2.2.2.2.2.2.2.2.2.2.2.2.2.2.2.2.1.2
theorem Fx.q16 (h : Fx (f0 :: f1 :: f2 :: f3 :: f4 :: f5 :: f6 :: f7 :: f8 :: f9 :: f10 :: f11 :: f12 :: f13 :: f14 :: f15 :: .rdb k B A n zs :: l) w) : Rd k w B A n zs := h.2.2.2.2.2.2.2.2.2.2.2.2.2.2.2.2.1.1
theorem Fx.k16 {R : World → Prop} (h : Fx (f0 :: f1 :: f2 :: f3 :: f4 :: f5 :: f6 :: f7 :: f8 :: f9 :: f10 :: f11 :: f12 :: f13 :: f14 :: f15 :: .kept B R :: l) w) : R w := h.2.2.2.2.2.2.2.2.2.2.2.2.2.2.2.2.1.1 _ (Below.refl _ _)
theorem Fx.e16 (h : Fx (f0 :: f1 :: f2 :: f3 :: f4 :: f5 :: f6 :: f7 :: f8 :: f9 :: f10 :: f11 :: f12 :: f13 :: f14 :: f15 :: .bel w0 :: l) w) : Below w0.heap.size w0 w := h.2.2.2.2.2.2.2.2.2.2.2.2.2.2.2.2.1
theorem Fx.b17 (h : Fx (f0 :: f1 :: f2 :: f3 :: f4 :: f5 :: f6 :: f7 :: f8 :: f9 :: f10 :: f11 :: f12 :: f13 :: f14 :: f15 :: f16 :: .blk g t cs :: l) w) : Blk w g t cs := h.2.2.2.2.2.2.2.2.2.2.2.2.2.2.2.2.2.1
theorem Fx.i17 (h : Fx (f0 :: f1 :: f2 :: f3 :: f4 :: f5 :: f6 :: f7 :: f8 :: f9 :: f10 :: f11 :: f12 :: f13 :: f14 :: f15 :: f16 :: .blk g t (intsA k zs) :: l) w) : BlkI w g t k zs := h.2.2.2.2.2.2.2.2.2.2.2.2.2.2.2.2.2.1
theorem Fx.r17 (h : Fx (f0 :: f1 :: f2 :: f3 :: f4 :: f5 :: f6 :: f7 :: f8 :: f9 :: f10 :: f11 :: f12 :: f13 :: f14 :: f15 :: f16 :: .rdb k B A n zs :: l) w) : Rd k w w.heap.size A n zs := h.2.2.2.2.2.2.2.2.2.2.2.2.2.2.2.2.2.1.1.mono h.2.2.2.2.2.2.2.2.2.2.2.2.2.2.2.2.2.1.2
theorem Fx.q17 (h : Fx (f0 :: f1 :: f2 :: f3 :: f4 :: f5 :: f6 :: f7 :: f8 :: f9 :: f10 :: f11 :: f12 :: f13 :: f14 :: f15 :: f16 :: .rdb k B A n zs :: l) w) : Rd k w B A n zs := h.2.2.2.2.2.2.2.2.2.2.2.2.2.2.2.2.2.1.1
theorem Fx.k17 {R : World → Prop} (h : Fx (f0 :: f1 :: f2 :: f3 :: f4 :: f5 :: f6 :: f7 :: f8 :: f9 :: f10 :: f11 :: f12 :: f13 :: f14 :: f15 :: f16 :: .kept B R :: l) w) : R w := h.2.2.2.2.2.2.2.2.2.2.2.2.2.2.2.2.2.1.1 _ (Below.refl _ _)
theorem Fx.e17 (h : Fx (f0 :: f1 :: f2 :: f3 :: f4 :: f5 :: f6 :: f7 :: f8 :: f9 :: f10 :: f11 :: f12 :: f13 :: f14 :: f15 :: f16 :: .bel w0 :: l) w) : Below w0.heap.size w0 w := h.2.2.2.2.2.2.2.2.2.2.2.2.2.2.2.2.2.1
theorem Fx.b18 (h : Fx (f0 :: f1 :: f2 :: f3 :: f4 :: f5 :: f6 :: f7 :: f8 :: f9 :: f10 :: f11 :: f12 :: f13 :: f14 :: f15 :: f16 :: f17 :: .blk g t cs :: l) w) : Blk w g t cs := h.2.2.2.2.2.2.2.2.2.2.2.2.2.2.2.2.2.2.1
theorem Fx.i18 (h : Fx (f0 :: f1 :: f2 :: f3 :: f4 :: f5 :: f6 :: f7 :: f8 :: f9 :: f10 :: f11 :: f12 :: f13 :: f14 :: f15 :: f16 :: f17 :: .blk g t (intsA k zs) :: l) w) : BlkI w g t k zs := h.2.2.2.2.2.2.2.2.2.2.2.2.2.2.2.2.2.2.1
theorem Fx.r18 (h : Fx (f0 :: f1 :: f2 :: f3 :: f4 :: f5 :: f6 :: f7 :: f8 :: f9 :: f10 :: f11 :: f12 :: f13 :: f14 :: f15 :: f16 :: f17 :: .rdb k B A n zs :: l) w) : Rd k w w.heap.size A n zs := h.2.2.2.2.2.2.2.2.2.2.2.2.2.2.2.2.2.2.1.1.mono h.2.2.2.2.2.2.2.2.2.2.2.2.2.2.2.2.2.2.1.2
theorem Fx.q18 (h : Fx (f0 :: f1 :: f2 :: f3 :: f4 :: f5 :: f6 :: f7 :: f8 :: f9 :: f10 :: f11 :: f12 :: f13 :: f14 :: f15 :: f16 :: f17 :: .rdb k B A n zs :: l) w) : Rd k w B A n zs := h.2.2.2.2.2.2.2.2.2.2.2.2.2.2.2.2.2.2.1.1
theorem Fx.k18 {R : World → Prop} (h : Fx (f0 :: f1 :: f2 :: f3 :: f4 :: f5 :: f6 :: f7 :: f8 :: f9 :: f10 :: f11 :: f12 :: f13 :: f14 :: f15 :: f16 :: f17 :: .kept B R :: l) w) : R w := h.2.2.2.2.2.2.2.2.2.2.2.2.2.2.2.2.2.2.1.1 _ (Below.refl _ _)
theorem Fx.e18 (h : Fx (f0 :: f1 :: f2 :: f3 :: f4 :: f5 :: f6 :: f7 :: f8 :: f9 :: f10 :: f11 :: f12 :: f13 :: f14 :: f15 :: f16 :: f17 :: .bel w0 :: l) w) : Below w0.heap.size w0 w := h.2.2.2.2.2.2.2.2.2.2.2.2.2.2.2.2.2.2.1
theorem Fx.b19 (h : Fx (f0 :: f1 :: f2 :: f3 :: f4 :: f5 :: f6 :: f7 :: f8 :: f9 :: f10 :: f11 :: f12 :: f13 :: f14 :: f15 :: f16 :: f17 :: f18 :: .blk g t cs :: l) w) : Blk w g t cs := h.2.2.2.2.2.2.2.2.2.2.2.2.2.2.2.2.2.2.2.1
theorem Fx.i19 (h : Fx (f0 :: f1 :: f2 :: f3 :: f4 :: f5 :: f6 :: f7 :: f8 :: f9 :: f10 :: f11 :: f12 :: f13 :: f14 :: f15 :: f16 :: f17 :: f18 :: .blk g t (intsA k zs) :: l) w) : BlkI w g t k zs := h.2.2.2.2.2.2.2.2.2.2.2.2.2.2.2.2.2.2.2.1
theorem Fx.r19 (h : Fx (f0 :: f1 :: f2 :: f3 :: f4 :: f5 :: f6 :: f7 :: f8 :: f9 :: f10 :: f11 :: f12 :: f13 :: f14 :: f15 :: f16 :: f17 :: f18 :: .rdb k B A n zs :: l) w) : Rd k w w.heap.size A n zs := h.2.2.2.2.2.2.2.2.2.2.2.2.2.2.2.2.2.2.2.1.1.mono h.2.2.2.2.2.2.2.2.2.2.2.2.2.2.2.2.2.2.2.1.2
theorem Fx.q19 (h : Fx (f0 :: f1 :: f2 :: f3 :: f4 :: f5 :: f6 :: f7 :: f8 :: f9 :: f10 :: f11 :: f12 :: f13 :: f14 :: f15 :: f16 :: f17 :: f18 :: .rdb k B A n zs :: l) w) : Rd k w B A n zs := h.2.2.2.2.2.2.2.2.2.2.2.2.2.2.2.2.2.2.2.1.1
theorem Fx.k19 {R : World → Prop} (h : Fx (f0 :: f1 :: f2 :: f3 :: f4 :: f5 :: f6 :: f7 :: f8 :: f9 :: f10 :: f11 :: f12 :: f13 :: f14 :: f15 :: f16 :: f17 :: f18 :: .kept B R :: l) w) : R w := h.2.2.2.2.2.2.2.2.2.2.2.2.2.2.2.2.2.2.2.1.1 _ (Below.refl _ _)
theorem Fx.e19 (h : Fx (f0 :: f1 :: f2 :: f3 :: f4 :: f5 :: f6 :: f7 :: f8 :: f9 :: f10 :: f11 :: f12 :: f13 :: f14 :: f15 :: f16 :: f17 :: f18 :: .bel w0 :: l) w) : Below w0.heap.size w0 w := h.2.2.2.2.2.2.2.2.2.2.2.2.2.2.2.2.2.2.2.1
theorem Fx.b20 (h : Fx (f0 :: f1 :: f2 :: f3 :: f4 :: f5 :: f6 :: f7 :: f8 :: f9 :: f10 :: f11 :: f12 :: f13 :: f14 :: f15 :: f16 :: f17 :: f18 :: f19 :: .blk g t cs :: l) w) : Blk w g t cs := h.2.2.2.2.2.2.2.2.2.2.2.2.2.2.2.2.2.2.2.2.1
theorem Fx.i20 (h : Fx (f0 :: f1 :: f2 :: f3 :: f4 :: f5 :: f6 :: f7 :: f8 :: f9 :: f10 :: f11 :: f12 :: f13 :: f14 :: f15 :: f16 :: f17 :: f18 :: f19 :: .blk g t (intsA k zs) :: l) w) : BlkI w g t k zs := h.2.2.2.2.2.2.2.2.2.2.2.2.2.2.2.2.2.2.2.2.1
theorem Fx.r20 (h : Fx (f0 :: f1 :: f2 :: f3 :: f4 :: f5 :: f6 :: f7 :: f8 :: f9 :: f10 :: f11 :: f12 :: f13 :: f14 :: f15 :: f16 :: f17 :: f18 :: f19 :: .rdb k B A n zs :: l) w) : Rd k w w.heap.size A n zs := h.2.2.2.2.2.2.2.2.2.2.2.2.2.2.2.2.2.2.2.2.1.1.mono h.2.2.2.2.2.2.2.2.2.2.2.2.2.2.2.2.2.2.2.2.1.2
theorem Fx.q20 (h : Fx (f0 :: f1 :: f2 :: f3 :: f4 :: f5 :: f6 :: f7 :: f8 :: f9 :: f10 :: f11 :: f12 :: f13 :: f14 :: f15 :: f16 :: f17 :: f18 :: f19 :: .rdb k B A n zs :: l) w) : Rd k w B A n zs := h.2.2.2.2.2.2.2.2.2.2.2.2.2.2.2.2.2.2.2.2.1.1
theorem Fx.k20 {R : World → Prop} (h : Fx (f0 :: f1 :: f2 :: f3 :: f4 :: f5 :: f6 :: f7 :: f8 :: f9 :: f10 :: f11 :: f12 :: f13 :: f14 :: f15 :: f16 :: f17 :: f18 :: f19 :: .kept B R :: l) w) : R w := h.2.2.2.2.2.2.2.2.2.2.2.2.2.2.2.2.2.2.2.2.1.1 _ (Below.refl _ _)
theorem Fx.e20 (h : Fx (f0 :: f1 :: f2 :: f3 :: f4 :: f5 :: f6 :: f7 :: f8 :: f9 :: f10 :: f11 :: f12 :: f13 :: f14 :: f15 :: f16 :: f17 :: f18 :: f19 :: .bel w0 :: l) w) : Below w0.heap.size w0 w := h.2.2.2.2.2.2.2.2.2.2.2.2.2.2.2.2.2.2.2.2.1
theorem Fx.b21 (h : Fx (f0 :: f1 :: f2 :: f3 :: f4 :: f5 :: f6 :: f7 :: f8 :: f9 :: f10 :: f11 :: f12 :: f13 :: f14 :: f15 :: f16 :: f17 :: f18 :: f19 :: f20 :: .blk g t cs :: l) w) : Blk w g t cs := h.2.2.2.2.2.2.2.2.2.2.2.2.2.2.2.2.2.2.2.2.2.1
theorem Fx.i21 (h : Fx (f0 :: f1 :: f2 :: f3 :: f4 :: f5 :: f6 :: f7 :: f8 :: f9 :: f10 :: f11 :: f12 :: f13 :: f14 :: f15 :: f16 :: f17 :: f18 :: f19 :: f20 :: .blk g t (intsA k zs) :: l) w) : BlkI w g t k zs := h.2.2.2.2.2.2.2.2.2.2.2.2.2.2.2.2.2.2.2.2.2.1
theorem Fx.r21 (h : Fx (f0 :: f1 :: f2 :: f3 :: f4 :: f5 :: f6 :: f7 :: f8 :: f9 :: f10 :: f11 :: f12 :: f13 :: f14 :: f15 :: f16 :: f17 :: f18 :: f19 :: f20 :: .rdb k B A n zs :: l) w) : Rd k w w.heap.size A n zs := h.2.2.2.2.2.2.2.2.2.2.2.2.2.2.2.2.2.2.2.2.2.1.1.mono h.2.2.2.2.2.2.2.2.2.2.2.2.2.2.2.2.2.2.2.2.2.1.2
theorem Fx.q21 (h : Fx (f0 :: f1 :: f2 :: f3 :: f4 :: f5 :: f6 :: f7 :: f8 :: f9 :: f10 :: f11 :: f12 :: f13 :: f14 :: f15 :: f16 :: f17 :: f18 :: f19 :: f20 :: .rdb k B A n zs :: l) w) : Rd k w B A n zs := h.2.2.2.2.2.2.2.2.2.2.2.2.2.2.2.2.2.2.2.2.2.1.1
theorem Fx.k21 {R : World → Prop} (h : Fx (f0 :: f1 :: f2 :: f3 :: f4 :: f5 :: f6 :: f7 :: f8 :: f9 :: f10 :: f11 :: f12 :: f13 :: f14 :: f15 :: f16 :: f17 :: f18 :: f19 :: f20 :: .kept B R :: l) w) : R w := h.2.2.2.2.2.2.2.2.2.2.2.2.2.2.2.2.2.2.2.2.2.1.1 _ (Below.refl _ _)
theorem Fx.e21 (h : Fx (f0 :: f1 :: f2 :: f3 :: f4 :: f5 :: f6 :: f7 :: f8 :: f9 :: f10 :: f11 :: f12 :: f13 :: f14 :: f15 :: f16 :: f17 :: f18 :: f19 :: f20 :: .bel w0 :: l) w) : Below w0.heap.size w0 w := h.2.2.2.2.2.2.2.2.2.2.2.2.2.2.2.2.2.2.2.2.2.1
theorem Fx.b22 (h : Fx (f0 :: f1 :: f2 :: f3 :: f4 :: f5 :: f6 :: f7 :: f8 :: f9 :: f10 :: f11 :: f12 :: f13 :: f14 :: f15 :: f16 :: f17 :: f18 :: f19 :: f20 :: f21 :: .blk g t cs :: l) w) : Blk w g t cs := h.2.2.2.2.2.2.2.2.2.2.2.2.2.2.2.2.2.2.2.2.2.2.1
theorem Fx.i22 (h : Fx (f0 :: f1 :: f2 :: f3 :: f4 :: f5 :: f6 :: f7 :: f8 :: f9 :: f10 :: f11 :: f12 :: f13 :: f14 :: f15 :: f16 :: f17 :: f18 :: f19 :: f20 :: f21 :: .blk g t (intsA k zs) :: l) w) : BlkI w g t k zs := h.2.2.2.2.2.2.2.2.2.2.2.2.2.2.2.2.2.2.2.2.2.2.1
theorem Fx.r22 (h : Fx (f0 :: f1 :: f2 :: f3 :: f4 :: f5 :: f6 :: f7 :: f8 :: f9 :: f10 :: f11 :: f12 :: f13 :: f14 :: f15 :: f16 :: f17 :: f18 :: f19 :: f20 :: f21 :: .rdb k B A n zs :: l) w) : Rd k w w.heap.size A n zs := h.2.2.2.2.2.2.2.2.2.2.2.2.2.2.2.2.2.2.2.2.2.2.1.1.mono h.2.2.2.2.2.2.2.2.2.2.2.2.2.2.2.2.2.2.2.2.2.2.1.2
theorem Fx.q22 (h : Fx (f0 :: f1 :: f2 :: f3 :: f4 :: f5 :: f6 :: f7 :: f8 :: f9 :: f10 :: f11 :: f12 :: f13 :: f14 :: f15 :: f16 :: f17 :: f18 :: f19 :: f20 :: f21 :: .rdb k B A n zs :: l) w) : Rd k w B A n zs := h.2.2.2.2.2.2.2.2.2.2.2.2.2.2.2.2.2.2.2.2.2.2.1.1
theorem Fx.k22 {R : World → Prop} (h : Fx (f0 :: f1 :: f2 :: f3 :: f4 :: f5 :: f6 :: f7 :: f8 :: f9 :: f10 :: f11 :: f12 :: f13 :: f14 :: f15 :: f16 :: f17 :: f18 :: f19 :: f20 :: f21 :: .kept B R :: l) w) : R w := h.2.2.2.2.2.2.2.2.2.2.2.2.2.2.2.2.2.2.2.2.2.2.1.1 _ (Below.refl _ _)
theorem Fx.e22 (h : Fx (f0 :: f1 :: f2 :: f3 :: f4 :: f5 :: f6 :: f7 :: f8 :: f9 :: f10 :: f11 :: f12 :: f13 :: f14 :: f15 :: f16 :: f17 :: f18 :: f19 :: f20 :: f21 :: .bel w0 :: l) w) : Below w0.heap.size w0 w := h.2.2.2.2.2.2.2.2.2.2.2.2.2.2.2.2.2.2.2.2.2.2.1
theorem Fx.b23 (h : Fx (f0 :: f1 :: f2 :: f3 :: f4 :: f5 :: f6 :: f7 :: f8 :: f9 :: f10 :: f11 :: f12 :: f13 :: f14 :: f15 :: f16 :: f17 :: f18 :: f19 :: f20 :: f21 :: f22 :: .blk g t cs :: l) w) : Blk w g t cs := h.2.2.2.2.2.2.2.2.2.2.2.2.2.2.2.2.2.2.2.2.2.2.2.1
theorem Fx.i23 (h : Fx (f0 :: f1 :: f2 :: f3 :: f4 :: f5 :: f6 :: f7 :: f8 :: f9 :: f10 :: f11 :: f12 :: f13 :: f14 :: f15 :: f16 :: f17 :: f18 :: f19 :: f20 :: f21 :: f22 :: .blk g t (intsA k zs) :: l) w) : BlkI w g t k zs := h.2.2.2.2.2.2.2.2.2.2.2.2.2.2.2.2.2.2.2.2.2.2.2.1
theorem Fx.r23 (h : Fx (f0 :: f1 :: f2 :: f3 :: f4 :: f5 :: f6 :: f7 :: f8 :: f9 :: f10 :: f11 :: f12 :: f13 :: f14 :: f15 :: f16 :: f17 :: f18 :: f19 :: f20 :: f21 :: f22 :: .rdb k B A n zs :: l) w) : Rd k w w.heap.size A n zs := h.2.2.2.2.2.2.2.2.2.2.2.2.2.2.2.2.2.2.2.2.2.2.2.1.1.mono h.2.2.2.2.2.2.2.2.2.2.2.2.2.2.2.2.2.2.2.2.2.2.2.1.2
theorem Fx.q23 (h : Fx (f0 :: f1 :: f2 :: f3 :: f4 :: f5 :: f6 :: f7 :: f8 :: f9 :: f10 :: f11 :: f12 :: f13 :: f14 :: f15 :: f16 :: f17 :: f18 :: f19 :: f20 :: f21 :: f22 :: .rdb k B A n zs :: l) w) : Rd k w B A n zs := h.2.2.2.2.2.2.2.2.2.2.2.2.2.2.2.2.2.2.2.2.2.2.2.1.1
theorem Fx.k23 {R : World → Prop} (h : Fx (f0 :: f1 :: f2 :: f3 :: f4 :: f5 :: f6 :: f7 :: f8 :: f9 :: f10 :: f11 :: f12 :: f13 :: f14 :: f15 :: f16 :: f17 :: f18 :: f19 :: f20 :: f21 :: f22 :: .kept B R :: l) w) : R w := h.2.2.2.2.2.2.2.2.2.2.2.2.2.2.2.2.2.2.2.2.2.2.2.1.1 _ (Below.refl _ _)
theorem Fx.e23 (h : Fx (f0 :: f1 :: f2 :: f3 :: f4 :: f5 :: f6 :: f7 :: f8 :: f9 :: f10 :: f11 :: f12 :: f13 :: f14 :: f15 :: f16 :: f17 :: f18 :: f19 :: f20 :: f21 :: f22 :: .bel w0 :: l) w) : Below w0.heap.size w0 w := h.2.2.2.2.2.2.2.2.2.2.2.2.2.2.2.2.2.2.2.2.2.2.2.1
theorem Fx.b24 (h : Fx (f0 :: f1 :: f2 :: f3 :: f4 :: f5 :: f6 :: f7 :: f8 :: f9 :: f10 :: f11 :: f12 :: f13 :: f14 :: f15 :: f16 :: f17 :: f18 :: f19 :: f20 :: f21 :: f22 :: f23 :: .blk g t cs :: l) w) : Blk w g t cs := h.2.2.2.2.2.2.2.2.2.2.2.2.2.2.2.2.2.2.2.2.2.2.2.2.1
theorem Fx.i24 (h : Fx (f0 :: f1 :: f2 :: f3 :: f4 :: f5 :: f6 :: f7 :: f8 :: f9 :: f10 :: f11 :: f12 :: f13 :: f14 :: f15 :: f16 :: f17 :: f18 :: f19 :: f20 :: f21 :: f22 :: f23 :: .blk g t (intsA k zs) :: l) w) : BlkI w g t k zs := h.2.2.2.2.2.2.2.2.2.2.2.2.2.2.2.2.2.2.2.2.2.2.2.2.1
theorem Fx.r24 (h : Fx (f0 :: f1 :: f2 :: f3 :: f4 :: f5 :: f6 :: f7 :: f8 :: f9 :: f10 :: f11 :: f12 :: f13 :: f14 :: f15 :: f16 :: f17 :: f18 :: f19 :: f20 :: f21 :: f22 :: f23 :: .rdb k B A n zs :: l) w) : Rd k w w.heap.size A n zs := h.2.2.2.2.2.2.2.2.2.2.2.2.2.2.2.2.2.2.2.2.2.2.2.2.1.1.mono h.2.2.2.2.2.2.2.2.2.2.2.2.2.2.2.2.2.2.2.2.2.2.2.2.1.2
theorem Fx.q24 (h : Fx (f0 :: f1 :: f2 :: f3 :: f4 :: f5 :: f6 :: f7 :: f8 :: f9 :: f10 :: f11 :: f12 :: f13 :: f14 :: f15 :: f16 :: f17 :: f18 :: f19 :: f20 :: f21 :: f22 :: f23 :: .rdb k B A n zs :: l) w) : Rd k w B A n zs := h.2.2.2.2.2.2.2.2.2.2.2.2.2.2.2.2.2.2.2.2.2.2.2.2.1.1
theorem Fx.k24 {R : World → Prop} (h : Fx (f0 :: f1 :: f2 :: f3 :: f4 :: f5 :: f6 :: f7 :: f8 :: f9 :: f10 :: f11 :: f12 :: f13 :: f14 :: f15 :: f16 :: f17 :: f18 :: f19 :: f20 :: f21 :: f22 :: f23 :: .kept B R :: l) w) : R w := h.2.2.2.2.2.2.2.2.2.2.2.2.2.2.2.2.2.2.2.2.2.2.2.2.1.1 _ (Below.refl _ _)
theorem Fx.e24 (h : Fx (f0 :: f1 :: f2 :: f3 :: f4 :: f5 :: f6 :: f7 :: f8 :: f9 :: f10 :: f11 :: f12 :: f13 :: f14 :: f15 :: f16 :: f17 :: f18 :: f19 :: f20 :: f21 :: f22 :: f23 :: .bel w0 :: l) w) : Below w0.heap.size w0 w := h.2.2.2.2.2.2.2.2.2.2.2.2.2.2.2.2.2.2.2.2.2.2.2.2.1
theorem Fx.b25 (h : Fx (f0 :: f1 :: f2 :: f3 :: f4 :: f5 :: f6 :: f7 :: f8 :: f9 :: f10 :: f11 :: f12 :: f13 :: f14 :: f15 :: f16 :: f17 :: f18 :: f19 :: f20 :: f21 :: f22 :: f23 :: f24 :: .blk g t cs :: l) w) : Blk w g t cs := h.2.2.2.2.2.2.2.2.2.2.2.2.2.2.2.2.2.2.2.2.2.2.2.2.2.1
theorem Fx.i25 (h : Fx (f0 :: f1 :: f2 :: f3 :: f4 :: f5 :: f6 :: f7 :: f8 :: f9 :: f10 :: f11 :: f12 :: f13 :: f14 :: f15 :: f16 :: f17 :: f18 :: f19 :: f20 :: f21 :: f22 :: f23 :: f24 :: .blk g t (intsA k zs) :: l) w) : BlkI w g t k zs := h.2.2.2.2.2.2.2.2.2.2.2.2.2.2.2.2.2.2.2.2.2.2.2.2.2.1
theorem Fx.r25 (h : Fx (f0 :: f1 :: f2 :: f3 :: f4 :: f5 :: f6 :: f7 :: f8 :: f9 :: f10 :: f11 :: f12 :: f13 :: f14 :: f15 :: f16 :: f17 :: f18 :: f19 :: f20 :: f21 :: f22 :: f23 :: f24 :: .rdb k B A n zs :: l) w) : Rd k w w.heap.size A n zs := h.2.2.2.2.2.2.2.2.2.2.2.2.2.2.2.2.2.2.2.2.2.2.2.2.2.1.1.mono h.2.2.2.2.2.2.2.2.2.2.2.2.2.2.2.2.2.2.2.2.2.2.2.2.2.1.2
theorem Fx.q25 (h : Fx (f0 :: f1 :: f2 :: f3 :: f4 :: f5 :: f6 :: f7 :: f8 :: f9 :: f10 :: f11 :: f12 :: f13 :: f14 :: f15 :: f16 :: f17 :: f18 :: f19 :: f20 :: f21 :: f22 :: f23 :: f24 :: .rdb k B A n zs :: l) w) : Rd k w B A n zs := h.2.2.2.2.2.2.2.2.2.2.2.2.2.2.2.2.2.2.2.2.2.2.2.2.2.1.1
theorem Fx.k25 {R : World → Prop} (h : Fx (f0 :: f1 :: f2 :: f3 :: f4 :: f5 :: f6 :: f7 :: f8 :: f9 :: f10 :: f11 :: f12 :: f13 :: f14 :: f15 :: f16 :: f17 :: f18 :: f19 :: f20 :: f21 :: f22 :: f23 :: f24 :: .kept B R :: l) w) : R w := h.2.2.2.2.2.2.2.2.2.2.2.2.2.2.2.2.2.2.2.2.2.2.2.2.2.1.1 _ (Below.refl _ _)
theorem Fx.e25 (h : Fx (f0 :: f1 :: f2 :: f3 :: f4 :: f5 :: f6 :: f7 :: f8 :: f9 :: f10 :: f11 :: f12 :: f13 :: f14 :: f15 :: f16 :: f17 :: f18 :: f19 :: f20 :: f21 :: f22 :: f23 :: f24 :: .bel w0 :: l) w) : Below w0.heap.size w0 w := h.2.2.2.2.2.2.2.2.2.2.2.2.2.2.2.2.2.2.2.2.2.2.2.2.2.1
theorem Fx.b26 (h : Fx (f0 :: f1 :: f2 :: f3 :: f4 :: f5 :: f6 :: f7 :: f8 :: f9 :: f10 :: f11 :: f12 :: f13 :: f14 :: f15 :: f16 :: f17 :: f18 :: f19 :: f20 :: f21 :: f22 :: f23 :: f24 :: f25 :: .blk g t cs :: l) w) : Blk w g t cs := h.2.2.2.2.2.2.2.2.2.2.2.2.2.2.2.2.2.2.2.2.2.2.2.2.2.2.1
theorem Fx.i26 (h : Fx (f0 :: f1 :: f2 :: f3 :: f4 :: f5 :: f6 :: f7 :: f8 :: f9 :: f10 :: f11 :: f12 :: f13 :: f14 :: f15 :: f16 :: f17 :: f18 :: f19 :: f20 :: f21 :: f22 :: f23 :: f24 :: f25 :: .blk g t (intsA k zs) :: l) w) : BlkI w g t k zs := h.2.2.2.2.2.2.2.2.2.2.2.2.2.2.2.2.2.2.2.2.2.2.2.2.2.2.1
theorem Fx.r26 (h : Fx (f0 :: f1 :: f2 :: f3 :: f4 :: f5 :: f6 :: f7 :: f8 :: f9 :: f10 :: f11 :: f12 :: f13 :: f14 :: f15 :: f16 :: f17 :: f18 :: f19 :: f20 :: f21 :: f22 :: f23 :: f24 :: f25 :: .rdb k B A n zs :: l) w) : Rd k w w.heap.size A n zs := h.2.2.2.2.2.2.2.2.2.2.2.2.2.2.2.2.2.2.2.2.2.2.2.2.2.2.1.1.mono h.2.2.2.2.2.2.2.2.2.2.2.2.2.2.2.2.2.2.2.2.2.2.2.2.2.2.1.2
theorem Fx.q26 (h : Fx (f0 :: f1 :: f2 :: f3 :: f4 :: f5 :: f6 :: f7 :: f8 :: f9 :: f10 :: f11 :: f12 :: f13 :: f14 :: f15 :: f16 :: f17 :: f18 :: f19 :: f20 :: f21 :: f22 :: f23 :: f24 :: f25 :: .rdb k B A n zs :: l) w) : Rd k w B A n zs := h.2.2.2.2.2.2.2.2.2.2.2.2.2.2.2.2.2.2.2.2.2.2.2.2.2.2.1.1
theorem Fx.k26 {R : World → Prop} (h : Fx (f0 :: f1 :: f2 :: f3 :: f4 :: f5 :: f6 :: f7 :: f8 :: f9 :: f10 :: f11 :: f12 :: f13 :: f14 :: f15 :: f16 :: f17 :: f18 :: f19 :: f20 :: f21 :: f22 :: f23 :: f24 :: f25 :: .kept B R :: l) w) : R w := h.2.2.2.2.2.2.2.2.2.2.2.2.2.2.2.2.2.2.2.2.2.2.2.2.2.2.1.1 _ (Below.refl _ _)
theorem Fx.e26 (h : Fx (f0 :: f1 :: f2 :: f3 :: f4 :: f5 :: f6 :: f7 :: f8 :: f9 :: f10 :: f11 :: f12 :: f13 :: f14 :: f15 :: f16 :: f17 :: f18 :: f19 :: f20 :: f21 :: f22 :: f23 :: f24 :: f25 :: .bel w0 :: l) w) : Below w0.heap.size w0 w := h.2.2.2.2.2.2.2.2.2.2.2.2.2.2.2.2.2.2.2.2.2.2.2.2.2.2.1
theorem Fx.b27 (h : Fx (f0 :: f1 :: f2 :: f3 :: f4 :: f5 :: f6 :: f7 :: f8 :: f9 :: f10 :: f11 :: f12 :: f13 :: f14 :: f15 :: f16 :: f17 :: f18 :: f19 :: f20 :: f21 :: f22 :: f23 :: f24 :: f25 :: f26 :: .blk g t cs :: l) w) : Blk w g t cs := h.2.2.2.2.2.2.2.2.2.2.2.2.2.2.2.2.2.2.2.2.2.2.2.2.2.2.2.1
theorem Fx.i27 (h : Fx (f0 :: f1 :: f2 :: f3 :: f4 :: f5 :: f6 :: f7 :: f8 :: f9 :: f10 :: f11 :: f12 :: f13 :: f14 :: f15 :: f16 :: f17 :: f18 :: f19 :: f20 :: f21 :: f22 :: f23 :: f24 :: f25 :: f26 :: .blk g t (intsA k zs) :: l) w) : BlkI w g t k zs := h.2.2.2.2.2.2.2.2.2.2.2.2.2.2.2.2.2.2.2.2.2.2.2.2.2.2.2.1
theorem Fx.r27 (h : Fx (f0 :: f1 :: f2 :: f3 :: f4 :: f5 :: f6 :: f7 :: f8 :: f9 :: f10 :: f11 :: f12 :: f13 :: f14 :: f15 :: f16 :: f17 :: f18 :: f19 :: f20 :: f21 :: f22 :: f23 :: f24 :: f25 :: f26 :: .rdb k B A n zs :: l) w) : Rd k w w.heap.size A n zs := h.2.2.2.2.2.2.2.2.2.2.2.2.2.2.2.2.2.2.2.2.2.2.2.2.2.2.2.1.1.mono h.2.2.2.2.2.2.2.2.2.2.2.2.2.2.2.2.2.2.2.2.2.2.2.2.2.2.2.1.2
theorem Fx.q27 (h : Fx (f0 :: f1 :: f2 :: f3 :: f4 :: f5 :: f6 :: f7 :: f8 :: f9 :: f10 :: f11 :: f12 :: f13 :: f14 :: f15 :: f16 :: f17 :: f18 :: f19 :: f20 :: f21 :: f22 :: f23 :: f24 :: f25 :: f26 :: .rdb k B A n zs :: l) w) : Rd k w B A n zs := h.2.2.2.2.2.2.2.2.2.2.2.2.2.2.2.2.2.2.2.2.2.2.2.2.2.2.2.1.1
theorem Fx.k27 {R : World → Prop} (h : Fx (f0 :: f1 :: f2 :: f3 :: f4 :: f5 :: f6 :: f7 :: f8 :: f9 :: f10 :: f11 :: f12 :: f13 :: f14 :: f15 :: f16 :: f17 :: f18 :: f19 :: f20 :: f21 :: f22 :: f23 :: f24 :: f25 :: f26 :: .kept B R :: l) w) : R w := h.2.2.2.2.2.2.2.2.2.2.2.2.2.2.2.2.2.2.2.2.2.2.2.2.2.2.2.1.1 _ (Below.refl _ _)
theorem Fx.e27 (h : Fx (f0 :: f1 :: f2 :: f3 :: f4 :: f5 :: f6 :: f7 :: f8 :: f9 :: f10 :: f11 :: f12 :: f13 :: f14 :: f15 :: f16 :: f17 :: f18 :: f19 :: f20 :: f21 :: f22 :: f23 :: f24 :: f25 :: f26 :: .bel w0 :: l) w) : Below w0.heap.size w0 w := h.2.2.2.2.2.2.2.2.2.2.2.2.2.2.2.2.2.2.2.2.2.2.2.2.2.2.2.1
theorem Fx.b28 (h : Fx (f0 :: f1 :: f2 :: f3 :: f4 :: f5 :: f6 :: f7 :: f8 :: f9 :: f10 :: f11 :: f12 :: f13 :: f14 :: f15 :: f16 :: f17 :: f18 :: f19 :: f20 :: f21 :: f22 :: f23 :: f24 :: f25 :: f26 :: f27 :: .blk g t cs :: l) w) : Blk w g t cs := h.2.2.2.2.2.2.2.2.2.2.2.2.2.2.2.2.2.2.2.2.2.2.2.2.2.2.2.2.1
theorem Fx.i28 (h : Fx (f0 :: f1 :: f2 :: f3 :: f4 :: f5 :: f6 :: f7 :: f8 :: f9 :: f10 :: f11 :: f12 :: f13 :: f14 :: f15 :: f16 :: f17 :: f18 :: f19 :: f20 :: f21 :: f22 :: f23 :: f24 :: f25 :: f26 :: f27 :: .blk g t (intsA k zs) :: l) w) : BlkI w g t k zs := h.2.2.2.2.2.2.2.2.2.2.2.2.2.2.2.2.2.2.2.2.2.2.2.2.2.2.2.2.1
theorem Fx.r28 (h : Fx (f0 :: f1 :: f2 :: f3 :: f4 :: f5 :: f6 :: f7 :: f8 :: f9 :: f10 :: f11 :: f12 :: f13 :: f14 :: f15 :: f16 :: f17 :: f18 :: f19 :: f20 :: f21 :: f22 :: f23 :: f24 :: f25 :: f26 :: f27 :: .rdb k B A n zs :: l) w) : Rd k w w.heap.size A n zs := h.2.2.2.2.2.2.2.2.2.2.2.2.2.2.2.2.2.2.2.2.2.2.2.2.2.2.2.2.1.1.mono h.2.2.2.2.2.2.2.2.2.2.2.2.2.2.2.2.2.2.2.2.2.2.2.2.2.2.2.2.1.2
theorem Fx.q28 (h : Fx (f0 :: f1 :: f2 :: f3 :: f4 :: f5 :: f6 :: f7 :: f8 :: f9 :: f10 :: f11 :: f12 :: f13 :: f14 :: f15 :: f16 :: f17 :: f18 :: f19 :: f20 :: f21 :: f22 :: f23 :: f24 :: f25 :: f26 :: f27 :: .rdb k B A n zs :: l) w) : Rd k w B A n zs := h.2.2.2.2.2.2.2.2.2.2.2.2.2.2.2.2.2.2.2.2.2.2.2.2.2.2.2.2.1.1
theorem Fx.k28 {R : World → Prop} (h : Fx (f0 :: f1 :: f2 :: f3 :: f4 :: f5 :: f6 :: f7 :: f8 :: f9 :: f10 :: f11 :: f12 :: f13 :: f14 :: f15 :: f16 :: f17 :: f18 :: f19 :: f20 :: f21 :: f22 :: f23 :: f24 :: f25 :: f26 :: f27 :: .kept B R :: l) w) : R w := h.2.2.2.2.2.2.2.2.2.2.2.2.2.2.2.2.2.2.2.2.2.2.2.2.2.2.2.2.1.1 _ (Below.refl _ _)
theorem Fx.e28 (h : Fx (f0 :: f1 :: f2 :: f3 :: f4 :: f5 :: f6 :: f7 :: f8 :: f9 :: f10 :: f11 :: f12 :: f13 :: f14 :: f15 :: f16 :: f17 :: f18 :: f19 :: f20 :: f21 :: f22 :: f23 :: f24 :: f25 :: f26 :: f27 :: .bel w0 :: l) w) : Below w0.heap.size w0 w := h.2.2.2.2.2.2.2.2.2.2.2.2.2.2.2.2.2.2.2.2.2.2.2.2.2.2.2.2.1
theorem Fx.b29 (h : Fx (f0 :: f1 :: f2 :: f3 :: f4 :: f5 :: f6 :: f7 :: f8 :: f9 :: f10 :: f11 :: f12 :: f13 :: f14 :: f15 :: f16 :: f17 :: f18 :: f19 :: f20 :: f21 :: f22 :: f23 :: f24 :: f25 :: f26 :: f27 :: f28 :: .blk g t cs :: l) w) : Blk w g t cs := h.2.2.2.2.2.2.2.2.2.2.2.2.2.2.2.2.2.2.2.2.2.2.2.2.2.2.2.2.2.1
theorem Fx.i29 (h : Fx (f0 :: f1 :: f2 :: f3 :: f4 :: f5 :: f6 :: f7 :: f8 :: f9 :: f10 :: f11 :: f12 :: f13 :: f14 :: f15 :: f16 :: f17 :: f18 :: f19 :: f20 :: f21 :: f22 :: f23 :: f24 :: f25 :: f26 :: f27 :: f28 :: .blk g t (intsA k zs) :: l) w) : BlkI w g t k zs := h.2.2.2.2.2.2.2.2.2.2.2.2.2.2.2.2.2.2.2.2.2.2.2.2.2.2.2.2.2.1
theorem Fx.r29 (h : Fx (f0 :: f1 :: f2 :: f3 :: f4 :: f5 :: f6 :: f7 :: f8 :: f9 :: f10 :: f11 :: f12 :: f13 :: f14 :: f15 :: f16 :: f17 :: f18 :: f19 :: f20 :: f21 :: f22 :: f23 :: f24 :: f25 :: f26 :: f27 :: f28 :: .rdb k B A n zs :: l) w) : Rd k w w.heap.size A n zs := h.2.2.2.2.2.2.2.2.2.2.2.2.2.2.2.2.2.2.2.2.2.2.2.2.2.2.2.2.2.1.1.mono h.2.2.2.2.2.2.2.2.2.2.2.2.2.2.2.2.2.2.2.2.2.2.2.2.2.2.2.2.2.1.2
theorem Fx.q29 (h : Fx (f0 :: f1 :: f2 :: f3 :: f4 :: f5 :: f6 :: f7 :: f8 :: f9 :: f10 :: f11 :: f12 :: f13 :: f14 :: f15 :: f16 :: f17 :: f18 :: f19 :: f20 :: f21 :: f22 :: f23 :: f24 :: f25 :: f26 :: f27 :: f28 :: .rdb k B A n zs :: l) w) : Rd k w B A n zs := h.2.2.2.2.2.2.2.2.2.2.2.2.2.2.2.2.2.2.2.2.2.2.2.2.2.2.2.2.2.1.1
theorem Fx.k29 {R : World → Prop} (h : Fx (f0 :: f1 :: f2 :: f3 :: f4 :: f5 :: f6 :: f7 :: f8 :: f9 :: f10 :: f11 :: f12 :: f13 :: f14 :: f15 :: f16 :: f17 :: f18 :: f19 :: f20 :: f21 :: f22 :: f23 :: f24 :: f25 :: f26 :: f27 :: f28 :: .kept B R :: l) w) : R w := h.2.2.2.2.2.2.2.2.2.2.2.2.2.2.2.2.2.2.2.2.2.2.2.2.2.2.2.2.2.1.1 _ (Below.refl _ _)
theorem Fx.e29 (h : Fx (f0 :: f1 :: f2 :: f3 :: f4 :: f5 :: f6 :: f7 :: f8 :: f9 :: f10 :: f11 :: f12 :: f13 :: f14 :: f15 :: f16 :: f17 :: f18 :: f19 :: f20 :: f21 :: f22 :: f23 :: f24 :: f25 :: f26 :: f27 :: f28 :: .bel w0 :: l) w) : Below w0.heap.size w0 w := h.2.2.2.2.2.2.2.2.2.2.2.2.2.2.2.2.2.2.2.2.2.2.2.2.2.2.2.2.2.1
theorem Fx.b30 (h : Fx (f0 :: f1 :: f2 :: f3 :: f4 :: f5 :: f6 :: f7 :: f8 :: f9 :: f10 :: f11 :: f12 :: f13 :: f14 :: f15 :: f16 :: f17 :: f18 :: f19 :: f20 :: f21 :: f22 :: f23 :: f24 :: f25 :: f26 :: f27 :: f28 :: f29 :: .blk g t cs :: l) w) : Blk w g t cs := h.2.2.2.2.2.2.2.2.2.2.2.2.2.2.2.2.2.2.2.2.2.2.2.2.2.2.2.2.2.2.1
theorem Fx.i30 (h : Fx (f0 :: f1 :: f2 :: f3 :: f4 :: f5 :: f6 :: f7 :: f8 :: f9 :: f10 :: f11 :: f12 :: f13 :: f14 :: f15 :: f16 :: f17 :: f18 :: f19 :: f20 :: f21 :: f22 :: f23 :: f24 :: f25 :: f26 :: f27 :: f28 :: f29 :: .blk g t (intsA k zs) :: l) w) : BlkI w g t k zs := h.2.2.2.2.2.2.2.2.2.2.2.2.2.2.2.2.2.2.2.2.2.2.2.2.2.2.2.2.2.2.1
theorem Fx.r30 (h : Fx (f0 :: f1 :: f2 :: f3 :: f4 :: f5 :: f6 :: f7 :: f8 :: f9 :: f10 :: f11 :: f12 :: f13 :: f14 :: f15 :: f16 :: f17 :: f18 :: f19 :: f20 :: f21 :: f22 :: f23 :: f24 :: f25 :: f26 :: f27 :: f28 :: f29 :: .rdb k B A n zs :: l) w) : Rd k w w.heap.size A n zs := h.2.2.2.2.2.2.2.2.2.2.2.2.2.2.2.2.2.2.2.2.2.2.2.2.2.2.2.2.2.2.1.1.mono h.2.2.2.2.2.2.2.2.2.2.2.2.2.2.2.2.2.2.2.2.2.2.2.2.2.2.2.2.2.2.1.2
theorem Fx.q30 (h : Fx (f0 :: f1 :: f2 :: f3 :: f4 :: f5 :: f6 :: f7 :: f8 :: f9 :: f10 :: f11 :: f12 :: f13 :: f14 :: f15 :: f16 :: f17 :: f18 :: f19 :: f20 :: f21 :: f22 :: f23 :: f24 :: f25 :: f26 :: f27 :: f28 :: f29 :: .rdb k B A n zs :: l) w) : Rd k w B A n zs := h.2.2.2.2.2.2.2.2.2.2.2.2.2.2.2.2.2.2.2.2.2.2.2.2.2.2.2.2.2.2.1.1
theorem Fx.k30 {R : World → Prop} (h : Fx (f0 :: f1 :: f2 :: f3 :: f4 :: f5 :: f6 :: f7 :: f8 :: f9 :: f10 :: f11 :: f12 :: f13 :: f14 :: f15 :: f16 :: f17 :: f18 :: f19 :: f20 :: f21 :: f22 :: f23 :: f24 :: f25 :: f26 :: f27 :: f28 :: f29 :: .kept B R :: l) w) : R w := h.2.2.2.2.2.2.2.2.2.2.2.2.2.2.2.2.2.2.2.2.2.2.2.2.2.2.2.2.2.2.1.1 _ (Below.refl _ _)
theorem Fx.e30 (h : Fx (f0 :: f1 :: f2 :: f3 :: f4 :: f5 :: f6 :: f7 :: f8 :: f9 :: f10 :: f11 :: f12 :: f13 :: f14 :: f15 :: f16 :: f17 :: f18 :: f19 :: f20 :: f21 :: f22 :: f23 :: f24 :: f25 :: f26 :: f27 :: f28 :: f29 :: .bel w0 :: l) w) : Below w0.heap.size w0 w := h.2.2.2.2.2.2.2.2.2.2.2.2.2.2.2.2.2.2.2.2.2.2.2.2.2.2.2.2.2.2.1
theorem Fx.b31 (h : Fx (f0 :: f1 :: f2 :: f3 :: f4 :: f5 :: f6 :: f7 :: f8 :: f9 :: f10 :: f11 :: f12 :: f13 :: f14 :: f15 :: f16 :: f17 :: f18 :: f19 :: f20 :: f21 :: f22 :: f23 :: f24 :: f25 :: f26 :: f27 :: f28 :: f29 :: f30 :: .blk g t cs :: l) w) : Blk w g t cs := h.2.2.2.2.2.2.2.2.2.2.2.2.2.2.2.2.2.2.2.2.2.2.2.2.2.2.2.2.2.2.2.1
theorem Fx.i31 (h : Fx (f0 :: f1 :: f2 :: f3 :: f4 :: f5 :: f6 :: f7 :: f8 :: f9 :: f10 :: f11 :: f12 :: f13 :: f14 :: f15 :: f16 :: f17 :: f18 :: f19 :: f20 :: f21 :: f22 :: f23 :: f24 :: f25 :: f26 :: f27 :: f28 :: f29 :: f30 :: .blk g t (intsA k zs) :: l) w) : BlkI w g t k zs := h.2.2.2.2.2.2.2.2.2.2.2.2.2.2.2.2.2.2.2.2.2.2.2.2.2.2.2.2.2.2.2.1
theorem Fx.r31 (h : Fx (f0 :: f1 :: f2 :: f3 :: f4 :: f5 :: f6 :: f7 :: f8 :: f9 :: f10 :: f11 :: f12 :: f13 :: f14 :: f15 :: f16 :: f17 :: f18 :: f19 :: f20 :: f21 :: f22 :: f23 :: f24 :: f25 :: f26 :: f27 :: f28 :: f29 :: f30 :: .rdb k B A n zs :: l) w) : Rd k w w.heap.size A n zs := h.2.2.2.2.2.2.2.2.2.2.2.2.2.2.2.2.2.2.2.2.2.2.2.2.2.2.2.2.2.2.2.1.1.mono h.2.2.2.2.2.2.2.2.2.2.2.2.2.2.2.2.2.2.2.2.2.2.2.2.2.2.2.2.2.2.2.1.2
theorem Fx.q31 (h : Fx (f0 :: f1 :: f2 :: f3 :: f4 :: f5 :: f6 :: f7 :: f8 :: f9 :: f10 :: f11 :: f12 :: f13 :: f14 :: f15 :: f16 :: f17 :: f18 :: f19 :: f20 :: f21 :: f22 :: f23 :: f24 :: f25 :: f26 :: f27 :: f28 :: f29 :: f30 :: .rdb k B A n zs :: l) w) : Rd k w B A n zs := h.2.2.2.2.2.2.2.2.2.2.2.2.2.2.2.2.2.2.2.2.2.2.2.2.2.2.2.2.2.2.2.1.1
theorem Fx.k31 {R : World → Prop} (h : Fx (f0 :: f1 :: f2 :: f3 :: f4 :: f5 :: f6 :: f7 :: f8 :: f9 :: f10 :: f11 :: f12 :: f13 :: f14 :: f15 :: f16 :: f17 :: f18 :: f19 :: f20 :: f21 :: f22 :: f23 :: f24 :: f25 :: f26 :: f27 :: f28 :: f29 :: f30 :: .kept B R :: l) w) : R w := h.2.2.2.2.2.2.2.2.2.2.2.2.2.2.2.2.2.2.2.2.2.2.2.2.2.2.2.2.2.2.2.1.1 _ (Below.refl _ _)
theorem Fx.e31 (h : Fx (f0 :: f1 :: f2 :: f3 :: f4 :: f5 :: f6 :: f7 :: f8 :: f9 :: f10 :: f11 :: f12 :: f13 :: f14 :: f15 :: f16 :: f17 :: f18 :: f19 :: f20 :: f21 :: f22 :: f23 :: f24 :: f25 :: f26 :: f27 :: f28 :: f29 :: f30 :: .bel w0 :: l) w) : Below w0.heap.size w0 w := h.2.2.2.2.2.2.2.2.2.2.2.2.2.2.2.2.2.2.2.2.2.2.2.2.2.2.2.2.2.2.2.1
end
end Go.Proofs.YtomkidgmpbjgeaaGreatDoor
/-
  append([]uint64{}, l...): a copy of its own of a slice of 64-bit numbers, behind a plain region's step.
  Conditions: the slice has at most 100,000,000 numbers.
-/
set_option maxRecDepth 100000
set_option linter.unusedVariables false
set_option linter.unusedSimpArgs false
namespace Go.Proofs.YtomkidgmpbjgeaaGreatDoor
open Go.ChangeShapes Go.WideShapes Go.ChangeAt Go.RowKit
theorem info_u64d : (Tryz.prog.info? 22).map (fun i => (i.zero, i.size, i.bytes)) = some (some (.int .u64 0), 1, 8) := by kernel_rfl
theorem wpList_own_copy8 {ops : Array Oper} {rest : List Oper} {o : Oper} {a : Act} {Q : Exit → Act → World → Prop} (W0 : World) (hgd : o.guard = none) (s x : Operand)
    (ho : o.op = .call { callee := .builtin .append, args := #[s, x], argTypes := #[37, 37] })
    (hs : a.eval s = .slice (some ⟨W0.heap.size, 0, none⟩) 0 0) (A : Option Addr) (m c : Nat) (ys : List Int) (hx : a.eval x = .slice A m c) (hr : Rd .u64 W0 W0.heap.size A m ys) (hm : m ≤ 100000000)
    (h : ∀ A7 c7 w', Below W0.heap.size W0 w' → Rd .u64 w' w'.heap.size A7 ys.length ys → Hid (ys.length ≤ c7) → Hid (c7 ≤ maxLen) → wpList Tryz.prog ops Q rest (a.put o.dst (.slice A7 ys.length c7)) w') : wpList Tryz.prog ops Q (o :: rest) a (W0.alloc (.cells #[] 22)) := by
  obtain ⟨ti, hti, hz0, hz1, hzb⟩ := info_parts info_u64d
  have hw : W0.heap.size ≤ (W0.alloc (.cells #[] 22)).heap.size := ((Below.refl _ _).alloc (Nat.le_refl _) (.cells #[] 22)).size
  refine wpList_append_ints _ hgd s x 37 ho W0.heap.size 22 ti _ 8 .u64 Tryz.underlying37 hti hz0 hz1 hzb rfl _ [] hs (own_empty W0 22 .u64 (Nat.le_refl _)) W0.heap.size A m c ys hx (hr.alloc (Nat.le_refl _) _) (by simp [maxLen]; omega) (by simp; omega) hw ?_
  intro v w' hown hg hat
  have hb : Below W0.heap.size W0 w' := (own_empty W0 22 .u64 (Nat.le_refl _)).below_ ((Below.refl _ _).alloc (Nat.le_refl _) _) hw hg
  rw [List.nil_append] at hown
  obtain ⟨A7, c7, rfl, hc7, hm7⟩ := hown.form
  exact h A7 c7 w' hb (OwnI.rd hown rfl) hc7 hm7
end Go.Proofs.YtomkidgmpbjgeaaGreatDoor
/-
  What laws need of memory: slices of literal numbers, a cell of a block stored, answers said by what they are.
  Conditions: those that each theorem names.
-/
set_option maxRecDepth 100000
set_option linter.unusedVariables false
set_option linter.unusedSimpArgs false
namespace Go.Proofs.YtomkidgmpbjgeaaGreatDoor
open Go.ChangeShapes Go.WideShapes Go.ChangeAt Go.RowKit
section
variable {ops : Array Oper} {rest : List Oper} {o : Oper} {a : Act} {w : World} {Q : Exit → Act → World → Prop}
theorem wpList_run_gd {P : Program} (hw : Region.wanted o (yielded ops a.tmps) = true) (v : Value) (w' : World) (hv : (execOp a.eval o).run P w = .ok (.value v) w')
    (h : wpList P ops Q rest (a.put o.dst v) w') : wpList P ops Q (o :: rest) a w :=
  wpList_step fun K hK => by
    rw [if_pos hw]
    unfold Oper.wp
    simp only [hv]
    exact hK _ _ h
theorem run_build_u64_4 (x y z v : Int) (w : World) : (Instr.buildSlice 37 4 #[(0, .int .u64 x), (1, .int .u64 y), (2, .int .u64 z), (3, .int .u64 v)]).run Tryz.prog w = .ok (.slice (some ⟨w.heap.size, 0, none⟩) 4 4) (w.alloc (.cells #[.int .u64 x, .int .u64 y, .int .u64 z, .int .u64 v] 22)) := by
  go_simp
theorem run_build_u64_2 (x y : Int) (w : World) : (Instr.buildSlice 37 2 #[(0, .int .u64 x), (1, .int .u64 y)]).run Tryz.prog w = .ok (.slice (some ⟨w.heap.size, 0, none⟩) 2 2) (w.alloc (.cells #[.int .u64 x, .int .u64 y] 22)) := by
  go_simp
theorem rd_alloc (w : World) (e : TypeId) (k : IntKind) (zs : List Int) : Rd k (w.alloc (.cells (intsA k zs) e)) (w.alloc (.cells (intsA k zs) e)).heap.size (some ⟨w.heap.size, 0, none⟩) zs.length zs := by
  refine ⟨rfl, fun _ => ⟨w.heap.size, 0, rfl, (Blk.new w e (intsA k zs)).lt, fun j hj => ?_⟩⟩
  rw [(Blk.new w e (intsA k zs)).cell, Nat.zero_add]
  simp [intsA, hj]
theorem wpList_build4 (hw : Region.wanted o (yielded ops a.tmps) = true) (p q r s : Operand) (ho : o.op = .buildSlice 37 4 #[(0, p), (1, q), (2, r), (3, s)]) (x y z v : Int) (hp : a.eval p = .int .u64 x) (hq : a.eval q = .int .u64 y) (hr : a.eval r = .int .u64 z) (hs : a.eval s = .int .u64 v)
    (h : ∀ g w', Rd .u64 w' w'.heap.size (some ⟨g, 0, none⟩) 4 [x, y, z, v] → Below w.heap.size w w' → wpList Tryz.prog ops Q rest (a.put o.dst (.slice (some ⟨g, 0, none⟩) 4 4)) w') : wpList Tryz.prog ops Q (o :: rest) a w := by
  refine wpList_run_gd hw (.slice (some ⟨w.heap.size, 0, none⟩) 4 4) (w.alloc (.cells #[.int .u64 x, .int .u64 y, .int .u64 z, .int .u64 v] 22)) ?_ (h _ _ (rd_alloc w _ .u64 [x, y, z, v]) ((Below.refl _ _).alloc (Nat.le_refl _) _))
  have hr1 := run_build_u64_4 x y z v w
  unfold execOp
  simp only [ho, List.map_toArray, List.map_cons, List.map_nil, hp, hq, hr, hs]
  change ((Instr.buildSlice 37 4 #[(0, .int .u64 x), (1, .int .u64 y), (2, .int .u64 z), (3, .int .u64 v)]) >>= fun v => pure (Next.value v)).run Tryz.prog w = _
  simp only [Sem.run_bind, hr1, Result.andThen_ok, Sem.run_pure]
theorem wpList_build2 (hw : Region.wanted o (yielded ops a.tmps) = true) (p q : Operand) (ho : o.op = .buildSlice 37 2 #[(0, p), (1, q)]) (x y : Int) (hp : a.eval p = .int .u64 x) (hq : a.eval q = .int .u64 y)
    (h : ∀ g w', Rd .u64 w' w'.heap.size (some ⟨g, 0, none⟩) 2 [x, y] → Below w.heap.size w w' → wpList Tryz.prog ops Q rest (a.put o.dst (.slice (some ⟨g, 0, none⟩) 2 2)) w') : wpList Tryz.prog ops Q (o :: rest) a w := by
  refine wpList_run_gd hw (.slice (some ⟨w.heap.size, 0, none⟩) 2 2) (w.alloc (.cells #[.int .u64 x, .int .u64 y] 22)) ?_ (h _ _ (rd_alloc w _ .u64 [x, y]) ((Below.refl _ _).alloc (Nat.le_refl _) _))
  have hr1 := run_build_u64_2 x y w
  unfold execOp
  simp only [ho, List.map_toArray, List.map_cons, List.map_nil, hp, hq]
  change ((Instr.buildSlice 37 2 #[(0, .int .u64 x), (1, .int .u64 y)]) >>= fun v => pure (Next.value v)).run Tryz.prog w = _
  simp only [Sem.run_bind, hr1, Result.andThen_ok, Sem.run_pure]
end
theorem Fx.addS {l : List Fact} {w w' : World} {k : IntKind} {A : Option Addr} {n : Nat} {zs : List Int} (h : Fx l w) (hb : Below w.heap.size w w') (hr : Rd k w' w'.heap.size A n zs) : Fx (.rd k A n zs :: l) w' := ⟨hr, h.below hb⟩
theorem Fx.lit4 {l : List Fact} {w : World} (h : Fx l w) (x y z v : Int) : Fx (.rdb .u64 (w.alloc (.cells #[.int .u64 x, .int .u64 y, .int .u64 z, .int .u64 v] 22)).heap.size (some ⟨w.heap.size, 0, none⟩) 4 [x, y, z, v] :: l) (w.alloc (.cells #[.int .u64 x, .int .u64 y, .int .u64 z, .int .u64 v] 22)) :=
  Fx.addR h ((Below.refl _ _).alloc (Nat.le_refl _) _) (rd_alloc w _ .u64 [x, y, z, v])
section
variable {P : Program} {ops : Array Oper} {rest : List Oper} {o : Oper} {a : Act} {w : World} {Q : Exit → Act → World → Prop}
/-- A cell of a block is stored; what else stays, said as of a whole row. -/
theorem wpList_store_cell_any (hgd : o.guard = none) (ty : TypeId) (x y : Operand) (ho : o.op = .store ty x y) (g off : Nat) (hx : a.eval x = .pointer (some ⟨g, off, none⟩)) (t : TypeId) (cs : Array Value) (hb : Blk w g t cs)
    (v : Value) (hy : a.eval y = v) (hl : off < cs.size) (hz : (P.info? ty).map (·.size) = some 1) (h1 : v.cells = #[v]) (h2 : v.oneCell' = true)
    (h : ∀ w', Hid (Blk w' g t (cs.setIfInBounds off v)) → Hid (w'.heap.size = w.heap.size) → (∀ B, B ≤ g → Below B w w') → (∀ j, j ≠ g → w'.heap[j]? = w.heap[j]?) → wpList P ops Q rest (a.put o.dst undef) w') : wpList P ops Q (o :: rest) a w := by
  refine wpList_plain hgd fun K hK => ?_
  have hrun := run_storeVar_cell (P := P) (w := w) g off ty v (hb.there off 1 (by omega)) hz h1 h2
  unfold Oper.wp execOp
  simp only [ho, hx, hy, Instr.storeAt, Instr.sureAddr, Sem.run_bind, Sem.run_pure, Result.andThen_ok, hrun]
  exact hK _ _ (h _ (hb.set_ off v) (show _ = _ by simp [World.setCell]) (fun B hB => (Only.setCell g off w v).below hB (Nat.le_of_lt (Nat.lt_of_le_of_lt hB hb.lt))) (fun j hj => Below.heap_setCell w ⟨g, off, none⟩ v j hj))
end
theorem intsA_put (k : IntKind) (l : List Int) (j : Nat) (z : Int) : (intsA k l).setIfInBounds j (.int k z) = intsA k (l.set j z) := by
  apply Array.ext'
  simp [intsA, List.map_set]
theorem Fx.own {l : List Fact} {w : World} {k : IntKind} {g n : Nat} {t : TypeId} {zs : List Int} (h : Fx (.blk g t (intsA k zs) :: l) w) (hn : zs.length = n) : Rd k w w.heap.size (some ⟨g, 0, none⟩) n zs := by
  subst hn
  have hb : Blk w g t (intsA k zs) := h.1
  exact ⟨rfl, fun _ => ⟨g, 0, rfl, hb.lt, fun j hj => by rw [hb.cell, Nat.zero_add]; simp [intsA, hj]⟩⟩
theorem Fx.at0 {l : List Fact} {w : World} {k : IntKind} {g : Nat} {t : TypeId} {zs : List Int} (h : Fx (.blk g t (intsA k zs) :: l) w) (j : Nat) (x : Int) (hj : j < zs.length) (hx : zs.getD j 0 = x) : w.cell? ⟨g, j, none⟩ = some (.int k x) := by
  have hb : Blk w g t (intsA k zs) := h.1
  rw [hb.cell, ← hx]
  simp [intsA, hj]
section
variable {P : Program} {f : FuncId} {args : Array Value} {w : World}
theorem calls_val {v v' : Value} (h : Calls P f args w fun e w' => e = .returned v ∧ Below w.heap.size w w') (hv : v = v') : Calls P f args w fun e w' => e = .returned v' ∧ Below w.heap.size w w' := by
  subst hv
  exact h
theorem calls_pure {v v' : Value} (h : Calls P f args w fun e w' => e = .returned v ∧ w = w') (hv : v = v') : Calls P f args w fun e w' => e = .returned v' ∧ w = w' := by
  subst hv
  exact h
end
theorem tup_ub {a b : Int} {p q : Bool} (h : a = b) (h2 : p = q) : Value.tuple #[.int .u64 a, .bool p] = .tuple #[.int .u64 b, .bool q] := by rw [h, h2]
theorem tup_ui {a b c d : Int} (h : a = b) (h2 : c = d) : Value.tuple #[.int .u64 a, .int .i64 c] = .tuple #[.int .u64 b, .int .i64 d] := by rw [h, h2]
theorem tup_ii {a b c d : Int} (h : a = b) (h2 : c = d) : Value.tuple #[.int .i64 a, .int .i64 c] = .tuple #[.int .i64 b, .int .i64 d] := by rw [h, h2]
end Go.Proofs.YtomkidgmpbjgeaaGreatDoor
/-
  Slices of pairs of numbers in memory: what one reads as, and that reading kept.
  Conditions: those that each theorem names.
-/
set_option maxRecDepth 100000
set_option linter.unusedVariables false
set_option linter.unusedSimpArgs false
namespace Go.Proofs.YtomkidgmpbjgeaaGreatDoor
open Go.ChangeShapes Go.WideShapes Go.ChangeAt Go.RowKit
/-- The slice reads as pairs of numbers. -/
def RdPr (k0 k1 : IntKind) (w : World) (B : Nat) (A : Option Addr) (n : Nat) (ts : List (Int × Int)) : Prop :=
  ts.length = n ∧ (0 < n → ∃ b off, A = some ⟨b, off, none⟩ ∧ b < B ∧ ∀ j, j < n → w.cell? ⟨b, off + j * 2, none⟩ = some (.int k0 (ts.getD j (0, 0)).1) ∧ w.cell? ⟨b, off + j * 2 + 1, none⟩ = some (.int k1 (ts.getD j (0, 0)).2))
theorem RdPr.below {k0 k1 : IntKind} {w w' : World} {B n : Nat} {A : Option Addr} {ts : List (Int × Int)} (h : RdPr k0 k1 w B A n ts) (hb : Below B w w') : RdPr k0 k1 w' B A n ts :=
  ⟨h.1, fun hn => by
    obtain ⟨b, off, e, hlt, hc⟩ := h.2 hn
    exact ⟨b, off, e, hlt, fun j hj => ⟨(hb.cell (p := ⟨b, off + j * 2, none⟩) hlt).trans (hc j hj).1, (hb.cell (p := ⟨b, off + j * 2 + 1, none⟩) hlt).trans (hc j hj).2⟩⟩⟩
theorem RdPr.mono {k0 k1 : IntKind} {w : World} {B B' n : Nat} {A : Option Addr} {ts : List (Int × Int)} (h : RdPr k0 k1 w B A n ts) (hB : B ≤ B') : RdPr k0 k1 w B' A n ts :=
  ⟨h.1, fun hn => by
    obtain ⟨b, off, e, hlt, hc⟩ := h.2 hn
    exact ⟨b, off, e, Nat.lt_of_lt_of_le hlt hB, hc⟩⟩
theorem RdPr.len {k0 k1 : IntKind} {w : World} {B n : Nat} {A : Option Addr} {ts : List (Int × Int)} (h : RdPr k0 k1 w B A n ts) : ts.length = n := h.1
theorem RdPr.at_ {k0 k1 : IntKind} {w : World} {B n : Nat} {A : Option Addr} {ts : List (Int × Int)} (h : RdPr k0 k1 w B A n ts) (hn : 0 < n) : ∃ b off, A = some ⟨b, off, none⟩ ∧ b < B ∧ ∀ j, j < n → w.cell? ⟨b, off + j * 2, none⟩ = some (.int k0 (ts.getD j (0, 0)).1) ∧ w.cell? ⟨b, off + j * 2 + 1, none⟩ = some (.int k1 (ts.getD j (0, 0)).2) := h.2 hn
theorem RdPr.nil (k0 k1 : IntKind) (w : World) (B : Nat) (A : Option Addr) : RdPr k0 k1 w B A 0 [] := ⟨rfl, fun h => absurd h (by omega)⟩
theorem RdPr.to {k0 k1 : IntKind} {w w' : World} {n : Nat} {A : Option Addr} {ts : List (Int × Int)} (h : RdPr k0 k1 w w.heap.size A n ts) (hb : Below w.heap.size w w') : RdPr k0 k1 w' w'.heap.size A n ts := (h.below hb).mono hb.size
end Go.Proofs.YtomkidgmpbjgeaaGreatDoor
/-
  Sums, differences and products below 2^63 in plain Lean.
  Conditions: those that each theorem names.
-/
set_option maxRecDepth 100000
set_option linter.unusedVariables false
set_option linter.unusedSimpArgs false
namespace Go.Proofs.YtomkidgmpbjgeaaGreatDoor
def addO (a b : Int) : Bool := decide (a + b < 9223372036854775808)
def addV (a b : Int) : Int := if a + b < 9223372036854775808 then a + b else 0
def subO (a b : Int) : Bool := decide (b ≤ a ∧ a - b < 9223372036854775808)
def subV (a b : Int) : Int := if b ≤ a ∧ a - b < 9223372036854775808 then a - b else 0
def mulO (a b : Int) : Bool := decide (a * b < 9223372036854775808)
def mulV (a b : Int) : Int := if a * b < 9223372036854775808 then a * b else 0
def sumL : List Int → Int
  | [] => 0
  | x :: l => x + sumL l
def sumO (l : List Int) : Bool := decide (sumL l < 9223372036854775808)
def sumV (l : List Int) : Int := if sumL l < 9223372036854775808 then sumL l else 0
open Go.ChangeShapes Go.WideShapes Go.ChangeAt Go.RowKit in
theorem ret_pair {x y : Int} {p q : Bool} (h : x = y ∧ p = q) : Ending.returned (.tuple #[.int .u64 x, .bool p]) = .returned (.tuple #[.int .u64 y, .bool q]) := by rw [h.1, h.2]
theorem ret_bool {p q : Bool} (h : p = q) : Ending.returned (.bool p) = .returned (.bool q) := by rw [h]
theorem sym2 {x y : Int} {p q : Bool} (h : x = y ∧ p = q) : y = x ∧ q = p := ⟨h.1.symm, h.2.symm⟩
theorem addV_ok {a b : Int} (h : a + b < 9223372036854775808) : addV a b = a + b ∧ addO a b = true := ⟨if_pos h, decide_eq_true h⟩
theorem addV_no {a b : Int} (h : ¬ a + b < 9223372036854775808) : addV a b = 0 ∧ addO a b = false := ⟨if_neg h, decide_eq_false h⟩
theorem subV_ok {a b : Int} (h : b ≤ a) (h2 : a - b < 9223372036854775808) : subV a b = a - b ∧ subO a b = true := ⟨if_pos ⟨h, h2⟩, decide_eq_true ⟨h, h2⟩⟩
theorem subV_no {a b : Int} (h : ¬ (b ≤ a ∧ a - b < 9223372036854775808)) : subV a b = 0 ∧ subO a b = false := ⟨if_neg h, decide_eq_false h⟩
theorem mulV_ok {a b : Int} (h : a * b < 9223372036854775808) : mulV a b = a * b ∧ mulO a b = true := ⟨if_pos h, decide_eq_true h⟩
theorem mulV_no {a b : Int} (h : ¬ a * b < 9223372036854775808) : mulV a b = 0 ∧ mulO a b = false := ⟨if_neg h, decide_eq_false h⟩
theorem sumV_ok {l : List Int} (h : sumL l < 9223372036854775808) : sumV l = sumL l ∧ sumO l = true := ⟨if_pos h, decide_eq_true h⟩
theorem sumV_no {l : List Int} (h : ¬ sumL l < 9223372036854775808) : sumV l = 0 ∧ sumO l = false := ⟨if_neg h, decide_eq_false h⟩
theorem addV_in {a b : Int} (h : 0 ≤ a) (h2 : 0 ≤ b) : 0 ≤ addV a b ∧ addV a b < 9223372036854775808 := by unfold addV; split <;> omega
theorem subV_in (a b : Int) : 0 ≤ subV a b ∧ subV a b < 9223372036854775808 := by unfold subV; split <;> omega
theorem mulV_in {a b : Int} (h : 0 ≤ a) (h2 : 0 ≤ b) : 0 ≤ mulV a b ∧ mulV a b < 9223372036854775808 := by
  unfold mulV
  have := Int.mul_nonneg h h2
  split <;> omega
theorem addV_comm (a b : Int) : addV a b = addV b a ∧ addO a b = addO b a := by unfold addV addO; rw [Int.add_comm]; exact ⟨rfl, rfl⟩
theorem sumL_app (l m : List Int) : sumL (l ++ m) = sumL l + sumL m := by
  induction l with
  | nil => show sumL m = 0 + sumL m; omega
  | cons x l ih => show x + sumL (l ++ m) = x + sumL l + sumL m; omega
theorem sumL_nn {l : List Int} (h : ∀ z ∈ l, 0 ≤ z) : 0 ≤ sumL l := by
  induction l with
  | nil => exact Int.le_refl _
  | cons x l ih => have h1 := h x (by simp); have h2 := ih (fun z hz => h z (by simp [hz])); show 0 ≤ x + sumL l; omega
theorem sumL_take {l : List Int} {k : Nat} (h : k < l.length) : sumL (l.take (k + 1)) = sumL (l.take k) + l.getD k 0 := by
  rw [List.take_add_one, sumL_app, List.getElem?_eq_getElem h, List.getD_eq_getElem?_getD, List.getElem?_eq_getElem h]
  show sumL (l.take k) + (l[k] + 0) = sumL (l.take k) + l[k]
  omega
theorem sumL_le {l : List Int} (h : ∀ z ∈ l, 0 ≤ z) (k : Nat) : sumL (l.take k) ≤ sumL l := by
  have h1 : sumL l = sumL (l.take k) + sumL (l.drop k) := by rw [← sumL_app, List.take_append_drop]
  have h2 := sumL_nn (l := l.drop k) (fun z hz => h z (List.mem_of_mem_drop hz))
  omega
theorem sumL_rep (a : Int) : ∀ n : Nat, sumL (List.replicate n a) = a * (n : Int)
  | 0 => by simp [sumL]
  | n + 1 => by
    show a + sumL (List.replicate n a) = _
    rw [sumL_rep a n]
    push_cast
    rw [Int.mul_add]
    omega
theorem getD_in {l : List Int} {k : Nat} (h : k < l.length) : l.getD k 0 ∈ l := by
  rw [List.getD_eq_getElem?_getD, List.getElem?_eq_getElem h]
  exact List.getElem_mem h
/-- Two lists are the same if they have as many numbers, and the same ones. -/
theorem ext_getD {l m : List Int} (h : l.length = m.length) (h2 : ∀ j, j < l.length → l.getD j 0 = m.getD j 0) : l = m := by
  apply List.ext_getElem h
  intro j h3 h4
  have h5 := h2 j h3
  simpa [List.getD_eq_getElem?_getD, List.getElem?_eq_getElem h3, List.getElem?_eq_getElem h4] using h5
theorem lt_div (b a : Int) (hb : 0 < b) (ha : 0 ≤ a) : (9223372036854775807 / b < a) ↔ ¬ (a * b < 9223372036854775808) := by
  have h := Int.le_ediv_iff_mul_le (a := a) (b := 9223372036854775807) hb
  constructor
  · intro h1 h2; have := h.2 (by omega); omega
  · intro h1; exact Int.lt_of_not_ge fun h2 => h1 (by have := h.1 h2; omega)
end Go.Proofs.YtomkidgmpbjgeaaGreatDoor
/-
  Tables of stakes in plain Lean: what one may be, what it tells, how it is built, and that each place owns its stake as often as there are places.
  Conditions: those that each theorem names.
-/
set_option maxRecDepth 100000
set_option linter.unusedVariables false
set_option linter.unusedSimpArgs false
namespace Go.Proofs.YtomkidgmpbjgeaaGreatDoor
/-! ### what a table tells -/
def cellL (ts : List (Int × Int)) (k : Nat) : Int × Int := ts.getD k (0, 0)
def tabR (T : Int) (ts : List (Int × Int)) : Bool := decide (0 < ts.length ∧ 0 < T ∧ (ts.length : Int) * T < 9223372036854775808 ∧ ∀ k, k < ts.length → (cellL ts k).1 ≤ T ∧ 0 ≤ (cellL ts k).2 ∧ (cellL ts k).2 < ts.length)
def tabZ (T : Int) (ts : List (Int × Int)) : Int := if tabR T ts = true then (ts.length : Int) * T else 0
def lkE (T : Int) (ts : List (Int × Int)) (c u : Int) : Int := if tabR T ts = true then (if 0 ≤ c ∧ c < ts.length ∧ u < T then 0 else 3) else 1
def lkV (T : Int) (ts : List (Int × Int)) (c u : Int) : Int := if lkE T ts c u = 0 then (if u < (cellL ts c.toNat).1 then c else (cellL ts c.toNat).2) else 0
def owE (T : Int) (ts : List (Int × Int)) (u : Int) : Int := if tabR T ts = true then (if u < (ts.length : Int) * T then 0 else 3) else 1
def owV (T : Int) (ts : List (Int × Int)) (u : Int) : Int := if owE T ts u = 0 then lkV T ts (u / T) (u % T) else 0
/-- How often the column k has the place i. -/
def ownK (T i : Int) (k : Nat) (p : Int × Int) : Int := (if (k : Int) = i then p.1 else 0) + (if p.2 = i then T - p.1 else 0)
def ownsN (T : Int) (ts : List (Int × Int)) (i : Int) : Nat → Int
  | 0 => 0
  | k + 1 => ownsN T ts i k + ownK T i k (cellL ts k)
def osE (T : Int) (ts : List (Int × Int)) (i : Int) : Int := if tabR T ts = true then (if 0 ≤ i ∧ i < ts.length then 0 else 3) else 1
def osV (T : Int) (ts : List (Int × Int)) (i : Int) : Int := if osE T ts i = 0 then ownsN T ts i ts.length else 0
theorem tabR_iff {T : Int} {ts : List (Int × Int)} : tabR T ts = true ↔ (0 < ts.length ∧ 0 < T ∧ (ts.length : Int) * T < 9223372036854775808 ∧ ∀ k, k < ts.length → (cellL ts k).1 ≤ T ∧ 0 ≤ (cellL ts k).2 ∧ (cellL ts k).2 < ts.length) := by unfold tabR; exact decide_eq_true_iff
theorem cellL_mem {ts : List (Int × Int)} {k : Nat} (h : k < ts.length) : cellL ts k ∈ ts := by
  unfold cellL
  rw [List.getD_eq_getElem?_getD, List.getElem?_eq_getElem h]
  exact List.getElem_mem h
theorem cellL_set {ts : List (Int × Int)} {a : Nat} {p : Int × Int} (h : a < ts.length) (k : Nat) : cellL (ts.set a p) k = if k = a then p else cellL ts k := by
  unfold cellL
  simp only [List.getD_eq_getElem?_getD, List.getElem?_set]
  split
  · subst_vars; simp [h]
  · rw [if_neg (by omega)]
theorem ownK_in {T i : Int} {k : Nat} {p : Int × Int} (h0 : 0 ≤ p.1) (h1 : p.1 ≤ T) : 0 ≤ ownK T i k p ∧ ownK T i k p ≤ T := by
  unfold ownK
  split <;> split <;> omega
theorem ownsN_in {T i : Int} {ts : List (Int × Int)} : ∀ k : Nat, (∀ j, j < k → 0 ≤ (cellL ts j).1 ∧ (cellL ts j).1 ≤ T) → 0 ≤ ownsN T ts i k ∧ ownsN T ts i k ≤ (k : Int) * T
  | 0, _ => by simp [ownsN]
  | k + 1, h => by
    have h1 := ownsN_in (i := i) k (fun j hj => h j (by omega))
    have h2 := ownK_in (i := i) (k := k) (h k (by omega)).1 (h k (by omega)).2
    have h3 : ((k + 1 : Nat) : Int) * T = (k : Int) * T + T := by rw [Int.natCast_add, Int.add_mul]; simp
    unfold ownsN
    omega
theorem ownsN_set {T i : Int} {ts : List (Int × Int)} {a : Nat} {p : Int × Int} (ha : a < ts.length) : ∀ k : Nat, ownsN T (ts.set a p) i k = ownsN T ts i k + (if a < k then ownK T i a p - ownK T i a (cellL ts a) else 0)
  | 0 => by simp [ownsN]
  | k + 1 => by
    unfold ownsN
    rw [ownsN_set ha k, cellL_set ha]
    by_cases h : k = a
    · subst h
      rw [if_pos rfl, if_neg (by omega), if_pos (by omega)]
      omega
    · rw [if_neg h]
      by_cases h2 : a < k
      · rw [if_pos h2, if_pos (by omega)]; omega
      · rw [if_neg h2, if_neg (by omega)]; omega
/-! ### how it is built -/
structure AB where
  has : List Int
  ts : List (Int × Int)
  sm : List Int
  lg : List Int
def topL (l : List Int) : Int := l.getD (l.length - 1) 0
def abH (T : Int) (s : AB) : Int := s.has.getD (topL s.lg).toNat 0 - (T - s.has.getD (topL s.sm).toNat 0)
def abStep (T : Int) (s : AB) : AB where
  has := s.has.set (topL s.lg).toNat (abH T s)
  ts := s.ts.set (topL s.sm).toNat (s.has.getD (topL s.sm).toNat 0, topL s.lg)
  sm := if abH T s < T then s.sm.take (s.sm.length - 1) ++ [topL s.lg] else s.sm.take (s.sm.length - 1)
  lg := if abH T s < T then s.lg.take (s.lg.length - 1) else s.lg.take (s.lg.length - 1) ++ [topL s.lg]
def abRun (T : Int) : Nat → AB → AB
  | 0, s => s
  | f + 1, s => if s.sm.length = 0 ∨ s.lg.length = 0 then s else abRun T f (abStep T s)
def smL (T : Int) (hs : List Int) (k : Nat) : List Int := ((List.range k).filter fun i => decide (hs.getD i 0 < T)).map Int.ofNat
def lgL (T : Int) (hs : List Int) (k : Nat) : List Int := ((List.range k).filter fun i => !decide (hs.getD i 0 < T)).map Int.ofNat
def hasL (l : List Int) : List Int := l.map fun x => (l.length : Int) * x
def cellsL (T : Int) (n : Nat) : List (Int × Int) := (List.range n).map fun (i : Nat) => (T, (i : Int))
def abInit (T : Int) (l : List Int) : AB := ⟨hasL l, cellsL T l.length, smL T (hasL l) l.length, lgL T (hasL l) l.length⟩
def tbE (l : List Int) : Int := if l.length = 0 then 10 else if sumL l < 9223372036854775808 then (if sumL l = 0 then 10 else if (l.length : Int) * sumL l < 9223372036854775808 then 0 else 11) else 11
def tbT (l : List Int) : Int := if tbE l = 0 then sumL l else 0
def tbC (l : List Int) : List (Int × Int) := if tbE l = 0 then (abRun (sumL l) l.length (abInit (sumL l) l)).ts else []
theorem smL_succ (T : Int) (hs : List Int) (k : Nat) : smL T hs (k + 1) = if hs.getD k 0 < T then smL T hs k ++ [(k : Int)] else smL T hs k := by
  unfold smL
  rw [List.range_succ, List.filter_append, List.map_append]
  by_cases h : hs.getD k 0 < T
  · rw [if_pos h, List.filter_cons_of_pos (by simpa using h)]; rfl
  · rw [if_neg h, List.filter_cons_of_neg (by simpa using h)]; simp
theorem lgL_succ (T : Int) (hs : List Int) (k : Nat) : lgL T hs (k + 1) = if hs.getD k 0 < T then lgL T hs k else lgL T hs k ++ [(k : Int)] := by
  unfold lgL
  rw [List.range_succ, List.filter_append, List.map_append]
  by_cases h : hs.getD k 0 < T
  · rw [if_pos h, List.filter_cons_of_neg (by simpa using h)]; simp
  · rw [if_neg h, List.filter_cons_of_pos (by simpa using h)]; rfl
theorem sl_len (T : Int) (hs : List Int) : ∀ k : Nat, (smL T hs k).length + (lgL T hs k).length = k
  | 0 => rfl
  | k + 1 => by
    have := sl_len T hs k
    rw [smL_succ, lgL_succ]
    split <;> simp <;> omega
theorem abRun_stop {T : Int} {s : AB} (h : s.sm.length = 0 ∨ s.lg.length = 0) : ∀ f, abRun T f s = s
  | 0 => rfl
  | f + 1 => by unfold abRun; rw [if_pos h]
theorem abRun_go {T : Int} {s : AB} (h : s.sm.length ≠ 0) (h2 : s.lg.length ≠ 0) (f : Nat) : abRun T (f + 1) s = abRun T f (abStep T s) := by
  conv => lhs; unfold abRun
  rw [if_neg (by omega)]
theorem abStep_len {T : Int} {s : AB} (h : s.sm.length ≠ 0) (h2 : s.lg.length ≠ 0) : (abStep T s).sm.length + (abStep T s).lg.length + 1 = s.sm.length + s.lg.length := by
  unfold abStep
  dsimp only
  split <;> simp <;> omega
theorem top_split {l : List Int} (h : l.length ≠ 0) : l = l.take (l.length - 1) ++ [topL l] := by
  unfold topL
  conv => lhs; rw [← List.take_append_drop (l.length - 1) l]
  congr 1
  rw [List.drop_eq_getElem_cons (by omega), List.getD_eq_getElem?_getD, List.getElem?_eq_getElem (by omega), List.drop_eq_nil_of_le (by omega)]
  rfl
/-- What holds all along. -/
structure ABI (T : Int) (l : List Int) (s : AB) : Prop where
  hn : s.has.length = l.length
  tn : s.ts.length = l.length
  nd : (s.sm ++ s.lg).Nodup
  sm : ∀ a ∈ s.sm, 0 ≤ a ∧ a < l.length ∧ 0 ≤ s.has.getD a.toNat 0 ∧ s.has.getD a.toNat 0 < T
  lg : ∀ a ∈ s.lg, 0 ≤ a ∧ a < l.length ∧ T ≤ s.has.getD a.toNat 0 ∧ s.has.getD a.toNat 0 < 9223372036854775808
  ce : ∀ k, k < l.length → 0 ≤ (cellL s.ts k).1 ∧ (cellL s.ts k).1 ≤ T ∧ 0 ≤ (cellL s.ts k).2 ∧ (cellL s.ts k).2 < l.length
  ac : ∀ a : Nat, (a : Int) ∈ s.sm ++ s.lg → cellL s.ts a = (T, (a : Int))
  ow : ∀ i : Nat, i < l.length → ownsN T s.ts i l.length = (l.length : Int) * l.getD i 0 + (if (i : Int) ∈ s.sm ++ s.lg then T - s.has.getD i 0 else 0)
  su : sumL ((s.sm ++ s.lg).map fun a => s.has.getD a.toNat 0) = T * ((s.sm.length : Int) + (s.lg.length : Int))
theorem sumL_perm {l m : List Int} (h : l.Perm m) : sumL l = sumL m := by
  induction h with
  | nil => rfl
  | cons x _ ih => show x + _ = x + _; rw [ih]
  | swap x y l => show y + (x + sumL l) = x + (y + sumL l); omega
  | trans _ _ h1 h2 => exact h1.trans h2
theorem getD_setT {l : List Int} {a : Nat} {x : Int} (h : a < l.length) (k : Nat) : (l.set a x).getD k 0 = if k = a then x else l.getD k 0 := by
  simp only [List.getD_eq_getElem?_getD, List.getElem?_set]
  split
  · subst_vars; simp [h]
  · rw [if_neg (by omega)]
theorem sum_map_congr {l : List Int} {f g : Int → Int} (h : ∀ x ∈ l, f x = g x) : sumL (l.map f) = sumL (l.map g) := by rw [List.map_congr_left h]
theorem perm_two (x y : List Int) (a b : Int) : ((x ++ [a]) ++ (y ++ [b])).Perm (a :: b :: (x ++ y)) := by
  rw [List.append_assoc, List.singleton_append]
  refine List.perm_middle.trans (List.Perm.cons a ?_)
  rw [← List.append_assoc]
  exact List.perm_append_comm (l₂ := [b])
theorem perm_s (x y : List Int) (b : Int) : ((x ++ [b]) ++ y).Perm (b :: (x ++ y)) := by
  rw [List.append_assoc, List.singleton_append]
  exact List.perm_middle
theorem perm_l (x y : List Int) (b : Int) : (x ++ (y ++ [b])).Perm (b :: (x ++ y)) := by
  rw [← List.append_assoc]
  exact List.perm_append_comm (l₂ := [b])
/-- The lists with the last ones taken off. -/
def restL (s : AB) : List Int := s.sm.take (s.sm.length - 1) ++ s.lg.take (s.lg.length - 1)
theorem ab_perm {s : AB} (h : s.sm.length ≠ 0) (h2 : s.lg.length ≠ 0) : (s.sm ++ s.lg).Perm (topL s.sm :: topL s.lg :: restL s) := by
  have h3 := perm_two (s.sm.take (s.sm.length - 1)) (s.lg.take (s.lg.length - 1)) (topL s.sm) (topL s.lg)
  rw [← top_split h, ← top_split h2] at h3
  exact h3
theorem ab_perm2 (T : Int) (s : AB) : ((abStep T s).sm ++ (abStep T s).lg).Perm (topL s.lg :: restL s) := by
  unfold abStep restL
  dsimp only
  split
  · exact perm_s _ _ _
  · exact perm_l _ _ _
theorem ownK_self (T i : Int) (a : Nat) : ownK T i a (T, (a : Int)) = if (a : Int) = i then T else 0 := by unfold ownK; dsimp only; split <;> omega
set_option maxHeartbeats 1000000 in
theorem ABI.step {T : Int} {l : List Int} {s : AB} (I : ABI T l s) (h : s.sm.length ≠ 0) (h2 : s.lg.length ≠ 0) : ABI T l (abStep T s) := by
  have P := ab_perm h h2
  have P2 := ab_perm2 T s
  have ND := (P.nodup_iff).1 I.nd
  have am : topL s.sm ∈ s.sm := by have := top_split h; rw [this]; simp [topL]
  have bm : topL s.lg ∈ s.lg := by have := top_split h2; rw [this]; simp [topL]
  obtain ⟨a0, a1, a2, a3⟩ := I.sm _ am
  obtain ⟨b0, b1, b2, b3⟩ := I.lg _ bm
  have hH : abH T s = s.has.getD (topL s.lg).toNat 0 - (T - s.has.getD (topL s.sm).toNat 0) := rfl
  have hab : topL s.sm ≠ topL s.lg := by
    intro e
    rw [e] at ND
    have := (List.nodup_cons.1 ND).1
    simp at this
  have haR : topL s.sm ∉ restL s := fun hm => (List.nodup_cons.1 ND).1 (by simp [hm])
  have hbR : topL s.lg ∉ restL s := (List.nodup_cons.1 (List.nodup_cons.1 ND).2).1
  have hRd := (List.nodup_cons.1 (List.nodup_cons.1 ND).2).2
  have hc := I.ac (topL s.sm).toNat (by rw [Int.toNat_of_nonneg a0]; simp [am])
  have pos : ∀ x ∈ s.sm ++ s.lg, 0 ≤ x ∧ x < l.length := fun x hx => by
    rcases List.mem_append.1 hx with hx | hx
    · exact ⟨(I.sm x hx).1, (I.sm x hx).2.1⟩
    · exact ⟨(I.lg x hx).1, (I.lg x hx).2.1⟩
  have memR : ∀ x ∈ restL s, x ∈ s.sm ++ s.lg := fun x hx => P.mem_iff.2 (by simp [hx])
  have hbl : (topL s.lg).toNat < s.has.length := by rw [I.hn]; omega
  have hal : (topL s.sm).toNat < s.ts.length := by rw [I.tn]; omega
  have hget : ∀ x : Int, 0 ≤ x → (abStep T s).has.getD x.toNat 0 = if x = topL s.lg then abH T s else s.has.getD x.toNat 0 := fun x hx => by
    show (s.has.set (topL s.lg).toNat (abH T s)).getD x.toNat 0 = _
    rw [getD_setT hbl]
    by_cases e : x = topL s.lg
    · rw [if_pos e, if_pos (by rw [e])]
    · rw [if_neg e, if_neg (by omega)]
  have hcell : ∀ k : Nat, cellL (abStep T s).ts k = if k = (topL s.sm).toNat then (s.has.getD (topL s.sm).toNat 0, topL s.lg) else cellL s.ts k := fun k => cellL_set hal k
  have hsm : (abStep T s).sm = if abH T s < T then s.sm.take (s.sm.length - 1) ++ [topL s.lg] else s.sm.take (s.sm.length - 1) := rfl
  have hlg : (abStep T s).lg = if abH T s < T then s.lg.take (s.lg.length - 1) else s.lg.take (s.lg.length - 1) ++ [topL s.lg] := rfl
  have hln := abStep_len (T := T) h h2
  have hhl : (abStep T s).has.length = s.has.length := List.length_set
  have htl : (abStep T s).ts.length = s.ts.length := List.length_set
  have hown : ∀ i k, ownsN T (abStep T s).ts i k = _ := fun i k => ownsN_set hal k
  generalize topL s.sm = a at *
  generalize topL s.lg = b at *
  obtain ⟨ha, hha⟩ : ∃ x, s.has.getD a.toNat 0 = x := ⟨_, rfl⟩
  rw [hha] at a2 a3 hH hown hcell
  have mem2 : ∀ x : Int, x ∈ (abStep T s).sm ++ (abStep T s).lg ↔ x = b ∨ x ∈ restL s := fun x => by rw [P2.mem_iff]; simp
  have mem1 : ∀ x : Int, x ∈ s.sm ++ s.lg ↔ x = a ∨ x = b ∨ x ∈ restL s := fun x => by rw [P.mem_iff]; simp
  have hsR : ∀ x ∈ s.sm.take (s.sm.length - 1), x ∈ restL s := fun x hx => List.mem_append.2 (Or.inl hx)
  have hlR : ∀ x ∈ s.lg.take (s.lg.length - 1), x ∈ restL s := fun x hx => List.mem_append.2 (Or.inr hx)
  have hb' : (abStep T s).has.getD b.toNat 0 = abH T s := by rw [hget b b0, if_pos rfl]
  have hR' : ∀ x ∈ restL s, (abStep T s).has.getD x.toNat 0 = s.has.getD x.toNat 0 := fun x hx => by rw [hget x (pos x (memR x hx)).1, if_neg (by rintro rfl; exact hbR hx)]
  refine ⟨hhl.trans I.hn, htl.trans I.tn, (P2.nodup_iff).2 (List.nodup_cons.2 ⟨hbR, hRd⟩), ?_, ?_, ?_, ?_, ?_, ?_⟩
  · intro x hx
    have key : ∀ x ∈ s.sm.take (s.sm.length - 1), 0 ≤ x ∧ x < l.length ∧ 0 ≤ (abStep T s).has.getD x.toNat 0 ∧ (abStep T s).has.getD x.toNat 0 < T := fun x hx => by
      rw [hR' x (hsR x hx)]
      exact I.sm x (List.mem_of_mem_take hx)
    rw [hsm] at hx
    split at hx
    · rcases List.mem_append.1 hx with hx | hx
      · exact key x hx
      · rw [List.mem_singleton.1 hx, hb']
        exact ⟨b0, b1, by omega, by assumption⟩
    · exact key x hx
  · intro x hx
    have key : ∀ x ∈ s.lg.take (s.lg.length - 1), 0 ≤ x ∧ x < l.length ∧ T ≤ (abStep T s).has.getD x.toNat 0 ∧ (abStep T s).has.getD x.toNat 0 < 9223372036854775808 := fun x hx => by
      rw [hR' x (hlR x hx)]
      exact I.lg x (List.mem_of_mem_take hx)
    rw [hlg] at hx
    split at hx
    · exact key x hx
    · rcases List.mem_append.1 hx with hx | hx
      · exact key x hx
      · rw [List.mem_singleton.1 hx, hb']
        exact ⟨b0, b1, by omega, by omega⟩
  · intro k hk
    rw [hcell]
    split
    · exact ⟨by dsimp only; omega, by dsimp only; omega, b0, b1⟩
    · exact I.ce k hk
  · intro x hx
    have hx2 := (mem2 x).1 hx
    have hne : (x : Int) ≠ a := by
      rintro rfl
      rcases hx2 with e | hx2
      · exact hab e
      · exact haR hx2
    rw [hcell, if_neg (by omega)]
    exact I.ac x ((mem1 x).2 (Or.inr hx2))
  · intro i hi
    rw [hown, if_pos (by omega), hc, I.ow i hi]
    obtain ⟨A, rfl⟩ := Int.eq_ofNat_of_zero_le a0
    rw [Int.toNat_natCast, ownK_self]
    have e1 := mem1 i
    have e2 := mem2 i
    have e3 := hget i (by omega)
    rw [Int.toNat_natCast] at e3
    rw [e3]
    unfold ownK
    dsimp only
    by_cases c1 : (A : Int) = i
    · have hA : A = i := by omega
      subst hA
      have n1 : ¬ ((A : Int) ∈ (abStep T s).sm ++ (abStep T s).lg) := fun hm => by
        rcases e2.1 hm with e | e
        · exact hab e
        · exact haR e
      rw [if_pos (show (A : Int) ∈ s.sm ++ s.lg from e1.2 (Or.inl rfl)), if_neg n1, if_pos rfl, if_pos rfl, if_neg (show ¬ b = (A : Int) from fun e => hab e.symm)]
      have : s.has.getD A 0 = ha := by simpa using hha
      omega
    · rw [if_neg c1, if_neg c1]
      by_cases c2 : b = i
      · rw [if_pos (show (i : Int) ∈ s.sm ++ s.lg from e1.2 (Or.inr (Or.inl c2.symm))), if_pos (show (i : Int) ∈ (abStep T s).sm ++ (abStep T s).lg from e2.2 (Or.inl c2.symm)), if_pos c2, if_pos c2.symm]
        have : s.has.getD b.toNat 0 = s.has.getD i 0 := by rw [c2]; simp
        omega
      · rw [if_neg c2, if_neg (show ¬ (i : Int) = b from fun e => c2 e.symm)]
        by_cases c3 : (i : Int) ∈ restL s
        · rw [if_pos (show (i : Int) ∈ s.sm ++ s.lg from e1.2 (Or.inr (Or.inr c3))), if_pos (show (i : Int) ∈ (abStep T s).sm ++ (abStep T s).lg from e2.2 (Or.inr c3))]; omega
        · rw [if_neg (show ¬ (i : Int) ∈ s.sm ++ s.lg from fun hm => by rcases e1.1 hm with e | e | e; exact c1 e.symm; exact c2 e.symm; exact c3 e), if_neg (show ¬ (i : Int) ∈ (abStep T s).sm ++ (abStep T s).lg from fun hm => by rcases e2.1 hm with e | e; exact c2 e.symm; exact c3 e)]; omega
  · have q1 := sumL_perm (P.map fun x => s.has.getD x.toNat 0)
    have q2 := sumL_perm (P2.map fun x => (abStep T s).has.getD x.toNat 0)
    rw [List.map_cons, List.map_cons] at q1
    rw [List.map_cons, hb', List.map_congr_left hR'] at q2
    have q3 := I.su
    rw [q1] at q3
    rw [q2]
    have q4 : ((abStep T s).sm.length : Int) + ((abStep T s).lg.length : Int) = ((s.sm.length : Int) + (s.lg.length : Int)) - 1 := by omega
    rw [q4, Int.mul_sub, ← q3, hH]
    show _ + sumL _ = s.has.getD a.toNat 0 + (s.has.getD b.toNat 0 + sumL _) - _
    omega
end Go.Proofs.YtomkidgmpbjgeaaGreatDoor
/-
  Tables in memory: a struct of a number and a slice of pairs, in a block of two cells.
  Conditions: those that each theorem names.
-/
set_option maxRecDepth 100000
set_option linter.unusedVariables false
set_option linter.unusedSimpArgs false
namespace Go.Proofs.YtomkidgmpbjgeaaGreatDoor
open Go.ChangeShapes Go.WideShapes Go.ChangeAt Go.RowKit
/-- Numbers of pairs in their types' ranges. -/
def PrOk (ts : List (Int × Int)) : Prop := ∀ p ∈ ts, 0 ≤ p.1 ∧ p.1 < 18446744073709551616 ∧ -9223372036854775808 ≤ p.2 ∧ p.2 < 9223372036854775808
theorem PrOk.at_ {ts : List (Int × Int)} (h : PrOk ts) {k : Nat} (hk : k < ts.length) : 0 ≤ (cellL ts k).1 ∧ (cellL ts k).1 < 18446744073709551616 ∧ -9223372036854775808 ≤ (cellL ts k).2 ∧ (cellL ts k).2 < 9223372036854775808 := h _ (cellL_mem hk)
theorem RdPr.cells {w : World} {B n : Nat} {A : Option Addr} {ts : List (Int × Int)} {k0 k1 : IntKind} (h : RdPr k0 k1 w B A n ts) (hn : 0 < n) : ∃ b off, A = some ⟨b, off, none⟩ ∧ b < B ∧ ∀ j, j < n → w.cell? ⟨b, off + j * 2, none⟩ = some (.int k0 (cellL ts j).1) ∧ w.cell? ⟨b, off + j * 2 + 1, none⟩ = some (.int k1 (cellL ts j).2) := h.2 hn
theorem RdPr.cellAt {w : World} {B n k b off : Nat} {ts : List (Int × Int)} {k0 k1 : IntKind} (h : RdPr k0 k1 w B (some ⟨b, off, none⟩) n ts) (hk : k < n) : w.cell? ⟨b, off + k * 2, none⟩ = some (.int k0 (cellL ts k).1) ∧ w.cell? ⟨b, off + k * 2 + 1, none⟩ = some (.int k1 (cellL ts k).2) := by
  obtain ⟨b', off', e, _, h2⟩ := h.cells (by omega)
  cases e
  exact h2 k hk
theorem ret_u64v {a b : Int} (h : a = b) : Ending.returned (.int .u64 a) = .returned (.int .u64 b) := by rw [h]
theorem ret_ui {a b c d : Int} (h : a = b) (h2 : c = d) : Ending.returned (.tuple #[.int .u64 a, .int .i64 c]) = .returned (.tuple #[.int .u64 b, .int .i64 d]) := by rw [h, h2]
/-- A table boxed in the block g, beside older memory. -/
structure TbS (w0 : World) (g : Nat) (T : Int) (A : Option Addr) (n c : Nat) (w : World) : Prop where
  b : Blk w g 25 #[.int .u64 T, .slice A n c]
  bel : Below w0.heap.size w0 w
  le : w0.heap.size ≤ g
section
variable {w0 w w' : World} {g : Nat} {T : Int} {A : Option Addr} {n c : Nat} {ts : List (Int × Int)}
theorem TbS.new (w : World) (T : Int) (A : Option Addr) (n c : Nat) : TbS w w.heap.size T A n c (w.alloc (.cells #[.int .u64 T, .slice A n c] 25)) := ⟨Blk.new w _ _, (Below.refl _ _).alloc (Nat.le_refl _) _, Nat.le_refl _⟩
theorem TbS.two (h : TbS w0 g T A n c w) {U : Int} {B : Option Addr} {m d : Nat} : TbS w0 w.heap.size U B m d (w.alloc (.cells #[.int .u64 U, .slice B m d] 25)) := ⟨Blk.new w _ _, h.bel.trans (((Below.refl _ _).alloc (Nat.le_refl _) _).mono h.bel.size), h.bel.size⟩
theorem TbS.below (h : TbS w0 g T A n c w) (hb : Below w.heap.size w w') : TbS w0 g T A n c w' := ⟨h.b.below hb h.b.lt, h.bel.trans (hb.mono h.bel.size), h.le⟩
theorem TbS.alloc (h : TbS w0 g T A n c w) (o : Obj) : TbS w0 g T A n c (w.alloc o) := h.below ((Below.refl _ _).alloc (Nat.le_refl _) _)
theorem TbS.drew (h : TbS w0 g T A n c w) : TbS w0 g T A n c w.drew := h.below (Below.refl _ _).drew
theorem TbS.drewN (h : TbS w0 g T A n c w) (m : Nat) : TbS w0 g T A n c (w.drewN m) := h.below (below_drewN (Below.refl _ _) _)
theorem TbS.c0 (h : TbS w0 g T A n c w) : w.cell? ⟨g, 0, none⟩ = some (.int .u64 T) := by rw [h.b.cell]; rfl
theorem TbS.c1 (h : TbS w0 g T A n c w) : w.cell? ⟨g, 1, none⟩ = some (.slice A n c) := by rw [h.b.cell]; rfl
theorem TbS.pr (h : TbS w0 g T A n c w) (hr : RdPr .u64 .i64 w0 w0.heap.size A n ts) : RdPr .u64 .i64 w w.heap.size A n ts := hr.to h.bel
end
/-- Two tables are the same. -/
def sameT (T U : Int) (xs ys : List (Int × Int)) : Bool := decide (T = U ∧ xs = ys)
/-- Ways in which a table may be, or not. -/
theorem tabR_no {T : Int} {ts : List (Int × Int)} (h : ¬ (0 < ts.length ∧ 0 < T ∧ (ts.length : Int) * T < 9223372036854775808)) : tabR T ts = false := by
  rw [← Bool.not_eq_true, tabR_iff]
  exact fun g => h ⟨g.1, g.2.1, g.2.2.1⟩
theorem tabR_cell {T : Int} {ts : List (Int × Int)} {k : Nat} (hk : k < ts.length) (h : ¬ ((cellL ts k).1 ≤ T ∧ 0 ≤ (cellL ts k).2 ∧ (cellL ts k).2 < ts.length)) : tabR T ts = false := by
  rw [← Bool.not_eq_true, tabR_iff]
  exact fun g => h (g.2.2.2 k hk)
theorem tabR_all {T : Int} {ts : List (Int × Int)} (h : 0 < ts.length ∧ 0 < T ∧ (ts.length : Int) * T < 9223372036854775808) (hc : ∀ k, k < ts.length → (cellL ts k).1 ≤ T ∧ 0 ≤ (cellL ts k).2 ∧ (cellL ts k).2 < ts.length) : tabR T ts = true := tabR_iff.2 ⟨h.1, h.2.1, h.2.2, hc⟩
theorem ow_ok {T u : Int} {ts : List (Int × Int)} (hr : tabR T ts = true) (u0 : 0 ≤ u) (h : u < (ts.length : Int) * T) : owE T ts u = 0 ∧ owV T ts u = lkV T ts (u / T) (u % T) ∧ lkE T ts (u / T) (u % T) = 0 ∧ 0 ≤ u / T ∧ u / T < (ts.length : Int) ∧ 0 ≤ u % T ∧ u % T < T := by
  have hT := (tabR_iff.1 hr).2.1
  have h0 : owE T ts u = 0 := by unfold owE; rw [if_pos hr, if_pos h]
  have q0 : 0 ≤ u / T := Int.ediv_nonneg u0 (by omega)
  have q1 : u / T < (ts.length : Int) := Int.ediv_lt_of_lt_mul hT h
  have r0 := Int.emod_nonneg u (show T ≠ 0 by omega)
  have r1 := Int.emod_lt_of_pos u hT
  exact ⟨h0, by unfold owV; rw [if_pos h0], by unfold lkE; rw [if_pos hr, if_pos ⟨q0, q1, r1⟩], q0, q1, r0, r1⟩
theorem ow_no {T u : Int} {ts : List (Int × Int)} (h : tabR T ts = false) : owE T ts u = 1 ∧ owV T ts u = 0 := by
  have h0 : owE T ts u = 1 := if_neg (by rw [h]; simp)
  exact ⟨h0, if_neg (by rw [h0]; decide)⟩
theorem ow_big {T u : Int} {ts : List (Int × Int)} (hr : tabR T ts = true) (h : ¬ u < (ts.length : Int) * T) : owE T ts u = 3 ∧ owV T ts u = 0 := by
  have h0 : owE T ts u = 3 := by unfold owE; rw [if_pos hr, if_neg h]
  exact ⟨h0, if_neg (by rw [h0]; decide)⟩
theorem os_no {T i : Int} {ts : List (Int × Int)} (h : tabR T ts = false) : osE T ts i = 1 ∧ osV T ts i = 0 := by
  have h0 : osE T ts i = 1 := if_neg (by rw [h]; simp)
  exact ⟨h0, if_neg (by rw [h0]; decide)⟩
theorem os_out {T i : Int} {ts : List (Int × Int)} (hr : tabR T ts = true) (h : ¬ (0 ≤ i ∧ i < (ts.length : Int))) : osE T ts i = 3 ∧ osV T ts i = 0 := by
  have h0 : osE T ts i = 3 := by unfold osE; rw [if_pos hr, if_neg h]
  exact ⟨h0, if_neg (by rw [h0]; decide)⟩
theorem os_ok {T i : Int} {ts : List (Int × Int)} (hr : tabR T ts = true) (h : 0 ≤ i ∧ i < (ts.length : Int)) : osE T ts i = 0 ∧ osV T ts i = ownsN T ts i ts.length := by
  have h0 : osE T ts i = 0 := by unfold osE; rw [if_pos hr, if_pos h]
  exact ⟨h0, if_pos h0⟩
end Go.Proofs.YtomkidgmpbjgeaaGreatDoor
/-
  A table that is built, in memory: stakes and cells in blocks, two rows that grow, what each step leaves of them.
  Conditions: those that each theorem names.
-/
set_option maxRecDepth 100000
set_option linter.unusedVariables false
set_option linter.unusedSimpArgs false
namespace Go.Proofs.YtomkidgmpbjgeaaGreatDoor
open Go.ChangeShapes Go.WideShapes Go.ChangeAt Go.RowKit
def prC : List (Int × Int) → List Value
  | [] => []
  | p :: ts => .int .u64 p.1 :: .int .i64 p.2 :: prC ts
def cellsA (ts : List (Int × Int)) : Array Value := (prC ts).toArray
theorem prC_len : ∀ ts : List (Int × Int), (prC ts).length = ts.length * 2
  | [] => rfl
  | p :: ts => by simp [prC, prC_len ts]; omega
theorem cellsA_size (ts : List (Int × Int)) : (cellsA ts).size = ts.length * 2 := by simp [cellsA, prC_len]
theorem prC_get : ∀ (ts : List (Int × Int)) (k : Nat), k < ts.length → (prC ts)[k * 2]? = some (.int .u64 (cellL ts k).1) ∧ (prC ts)[k * 2 + 1]? = some (.int .i64 (cellL ts k).2)
  | [], k, h => absurd h (by simp)
  | p :: ts, 0, _ => ⟨rfl, rfl⟩
  | p :: ts, k + 1, h => by
    have := prC_get ts k (by simpa using h)
    rw [show (k + 1) * 2 = k * 2 + 1 + 1 from by omega, show k * 2 + 1 + 1 + 1 = (k * 2 + 1) + 1 + 1 from rfl]
    exact this
theorem prC_set : ∀ (ts : List (Int × Int)) (k : Nat) (x y : Int), ((prC ts).set (k * 2) (.int .u64 x)).set (k * 2 + 1) (.int .i64 y) = prC (ts.set k (x, y))
  | [], k, x, y => rfl
  | p :: ts, 0, x, y => rfl
  | p :: ts, k + 1, x, y => by
    rw [show (k + 1) * 2 = k * 2 + 1 + 1 from by omega]
    show _ :: _ :: ((prC ts).set (k * 2) _).set (k * 2 + 1) _ = _ :: _ :: prC (ts.set k (x, y))
    rw [prC_set ts k x y]
theorem cellsA_put (ts : List (Int × Int)) (k : Nat) (x y : Int) : ((cellsA ts).setIfInBounds (k * 2) (.int .u64 x)).setIfInBounds (k * 2 + 1) (.int .i64 y) = cellsA (ts.set k (x, y)) := by
  apply Array.ext'
  simp [cellsA, prC_set]
theorem cellsA_rep : ∀ n : Nat, prC (List.replicate n (0, 0)) = (List.replicate n [Value.int .u64 0, Value.int .i64 0]).flatten
  | 0 => rfl
  | n + 1 => by
    rw [List.replicate_succ, List.replicate_succ, List.flatten_cons, ← cellsA_rep n]
    rfl
theorem RdPr.of_blk {w : World} {g : Nat} {t : TypeId} {ts : List (Int × Int)} (h : Blk w g t (cellsA ts)) : RdPr .u64 .i64 w w.heap.size (some ⟨g, 0, none⟩) ts.length ts := by
  refine ⟨rfl, fun _ => ⟨g, 0, rfl, h.lt, fun j hj => ?_⟩⟩
  have := prC_get ts j hj
  rw [h.cell, h.cell, Nat.zero_add]
  simpa [cellsA, cellL] using this
/-- A table, and an error, are handed back. -/
def RetTab (w : World) (T : Int) (n : Nat) (ts : List (Int × Int)) (er : Int) (e : Ending) (w' : World) : Prop := ∃ A c, e = .returned (.tuple #[.agg #[.int .u64 T, .slice A n c], .int .i64 er]) ∧ RdPr .u64 .i64 w' w'.heap.size A n ts ∧ n ≤ c ∧ c ≤ maxLen ∧ Below w.heap.size w w'
/-! ### rows filled one by one -/
def fillT {α : Type} (xs : List α) (d : α) (k : Nat) : List α := xs.take k ++ List.replicate (xs.length - k) d
theorem fill_len {α : Type} (xs : List α) (d : α) (k : Nat) (h : k ≤ xs.length) : (fillT xs d k).length = xs.length := by simp [fillT]; omega
theorem fill_zero {α : Type} (xs : List α) (d : α) : fillT xs d 0 = List.replicate xs.length d := by simp [fillT]
theorem fill_all {α : Type} (xs : List α) (d : α) : fillT xs d xs.length = xs := by simp [fillT]
theorem fill_next {α : Type} (xs : List α) (d : α) (k : Nat) (h : k < xs.length) : (fillT xs d k).set k xs[k] = fillT xs d (k + 1) := by
  unfold fillT
  have h1 : (xs.take k).length = k := by rw [List.length_take]; omega
  rw [List.set_append, if_neg (by rw [h1]; omega), h1, Nat.sub_self, show xs.length - k = (xs.length - (k + 1)) + 1 from by omega, List.replicate_succ, List.set_cons_zero, List.take_succ_eq_append_getElem h, List.append_assoc]
  rfl
/-! ### two rows that grow -/
theorem OwnI.other_row {w w' : World} {base : Nat} {e : TypeId} {k : IntKind} {v u : Value} {zs : List Int} (h : OwnI w base e k v zs) (ha : ∀ g, v.ownBlock = some g → u.ownBlock ≠ some g) (hg : w.grownBy w' u.ownBlock) : OwnI w' base e k v zs := by
  refine ⟨h.1, ?_⟩
  rcases h.2 with h1 | ⟨g, cap, cur, h1, h2, h3, h4⟩
  · exact .inl h1
  · have hlt : g < w.heap.size := by
      rcases Nat.lt_or_ge g w.heap.size with h5 | h5
      · exact h5
      · rw [Array.getElem?_eq_none h5] at h3; cases h3
    exact .inr ⟨g, cap, cur, h1, h2, (hg.block g hlt (fun e => ha g (by rw [h1]; rfl) e.symm)).trans h3, h4⟩
theorem OwnI.block_lt {w : World} {base : Nat} {e : TypeId} {k : IntKind} {v : Value} {zs : List Int} (h : OwnI w base e k v zs) : ∀ g, v.ownBlock = some g → g < w.heap.size := by
  intro g hg
  rcases h.2 with ⟨rfl, _⟩ | ⟨g', cap, cur, rfl, _, h3, _⟩
  · simp [Value.ownBlock] at hg
  · obtain rfl : g' = g := by simpa [Value.ownBlock] using hg
    rcases Nat.lt_or_ge g' w.heap.size with h5 | h5
    · exact h5
    · rw [Array.getElem?_eq_none h5] at h3; cases h3
theorem OwnI.cut {w : World} {base n c j : Nat} {e : TypeId} {k : IntKind} {A : Option Addr} {zs : List Int} (h : OwnI w base e k (.slice A n c) zs) (hj : j ≤ zs.length) : OwnI w base e k (.slice A j c) (zs.take j) := by
  have hl : (zs.take j).length = j := by rw [List.length_take]; omega
  refine ⟨by simp, ?_⟩
  rcases h.2 with ⟨h1, h2⟩ | ⟨g, cap, cur, h1, h2, h3, h4, h5, h6, h7⟩
  · injection h1 with e1 e2 e3
    obtain rfl : j = 0 := by omega
    exact .inl ⟨by rw [e1, e3], by simp⟩
  · injection h1 with e1 e2 e3
    subst e1 e3
    rw [hl]
    refine .inr ⟨g, c, cur, rfl, h2, h3, by omega, h5, h6, ?_⟩
    rw [Nat.mul_one] at h7 ⊢
    rw [List.map_take, ← h7, List.take_take, Nat.min_eq_left hj]
theorem Blk.ne {w : World} {g g' : Nat} {t t' : TypeId} {cs cs' : Array Value} (h : Blk w g t cs) (h' : Blk w g' t' cs') (hne : t ≠ t') : g ≠ g' := by
  rintro rfl
  unfold Blk at h h'
  rw [h] at h'
  injection h' with h'
  injection h' with _ h'
  exact hne h'
theorem OwnI.lenV {w : World} {base : Nat} {e : TypeId} {k : IntKind} {v : Value} {zs : List Int} (h : OwnI w base e k v zs) : lenV v = zs.length := by
  obtain ⟨A, c, rfl, _⟩ := h.form
  rfl
/-- A table that is built: what is handed back at g2, the stakes at gH, the cells at gC, small and large places in rows of the call's own. -/
structure BldS (w0 : World) (g2 gH gC : Nat) (hs : List Int) (ts : List (Int × Int)) (vS vL : Value) (sm lg : List Int) (w : World) : Prop where
  b2 : Blk w g2 25 #[.int .u64 0, .slice none 0 0]
  bH : Blk w gH 22 (intsA .u64 hs)
  bC : Blk w gC 58 (cellsA ts)
  oS : OwnI w w0.heap.size 3 .i64 vS sm
  oL : OwnI w w0.heap.size 3 .i64 vL lg
  ap : ∀ g, vS.ownBlock = some g → vL.ownBlock ≠ some g
  bel : Below w0.heap.size w0 w
  le2 : w0.heap.size ≤ g2
  leH : w0.heap.size ≤ gH
  leC : w0.heap.size ≤ gC
section
variable {w0 w w' : World} {g2 gH gC n c k : Nat} {hs sm lg : List Int} {ts : List (Int × Int)} {vS vL v' : Value} {A : Option Addr} {x y : Int}
theorem BldS.below (h : BldS w0 g2 gH gC hs ts vS vL sm lg w) (hb : Below w.heap.size w w') : BldS w0 g2 gH gC hs ts vS vL sm lg w' :=
  ⟨h.b2.below hb h.b2.lt, h.bH.below hb h.bH.lt, h.bC.below hb h.bC.lt, h.oS.below hb, h.oL.below hb, h.ap, h.bel.trans (hb.mono h.bel.size), h.le2, h.leH, h.leC⟩
theorem BldS.alloc (h : BldS w0 g2 gH gC hs ts vS vL sm lg w) (o : Obj) : BldS w0 g2 gH gC hs ts vS vL sm lg (w.alloc o) := h.below ((Below.refl _ _).alloc (Nat.le_refl _) _)
theorem BldS.drew (h : BldS w0 g2 gH gC hs ts vS vL sm lg w) : BldS w0 g2 gH gC hs ts vS vL sm lg w.drew := h.below (Below.refl _ _).drew
theorem BldS.drewN (h : BldS w0 g2 gH gC hs ts vS vL sm lg w) (m : Nat) : BldS w0 g2 gH gC hs ts vS vL sm lg (w.drewN m) := h.below (below_drewN (Below.refl _ _) _)
theorem BldS.size (h : BldS w0 g2 gH gC hs ts vS vL sm lg w) : w0.heap.size ≤ w.heap.size := h.bel.size
theorem BldS.rd (h : BldS w0 g2 gH gC hs ts vS vL sm lg w) {l : List Int} (hr : Rd .u64 w0 w0.heap.size A n l) : Rd .u64 w w.heap.size A n l := (hr.below h.bel).mono h.size
theorem BldS.atH (h : BldS w0 g2 gH gC hs ts vS vL sm lg w) (hk : k < hs.length) : w.cell? ⟨gH, k, none⟩ = some (.int .u64 (hs.getD k 0)) := by
  rw [h.bH.cell]
  simp [intsA, hk]
theorem BldS.frzH (h : BldS w0 g2 gH gC hs ts vS vL sm lg w) (k : Nat) : w.frozen? ⟨gH, k, none⟩ = false := h.bH.frozen k
theorem BldS.putH (h : BldS w0 g2 gH gC hs ts vS vL sm lg w) (hk : Blk w' gH 22 ((intsA .u64 hs).setIfInBounds k (.int .u64 x))) (ho : Only gH w w') : BldS w0 g2 gH gC (hs.set k x) ts vS vL sm lg w' := by
  have n2 : g2 ≠ gH := h.b2.ne h.bH (by decide)
  have nC : gC ≠ gH := h.bC.ne h.bH (by decide)
  refine ⟨h.b2.only ho n2, ?_, h.bC.only ho nC, h.oS.only h.bH (by decide) ho, h.oL.only h.bH (by decide) ho, h.ap, h.bel.trans (ho.below h.leH h.size), h.le2, h.leH, h.leC⟩
  have e : (intsA .u64 hs).setIfInBounds k (.int .u64 x) = intsA .u64 (hs.set k x) := by
    apply Array.ext'
    simp [intsA, List.map_set]
  rw [← e]
  exact hk
theorem BldS.putC (h : BldS w0 g2 gH gC hs ts vS vL sm lg w) (hk : Blk w' gC 58 (putAll (cellsA ts) (k * 2) [.int .u64 x, .int .i64 y])) (ho : Only gC w w') : BldS w0 g2 gH gC hs (ts.set k (x, y)) vS vL sm lg w' := by
  have n2 : g2 ≠ gC := h.b2.ne h.bC (by decide)
  have nH : gH ≠ gC := h.bH.ne h.bC (by decide)
  refine ⟨h.b2.only ho n2, h.bH.only ho nH, ?_, h.oS.only h.bC (by decide) ho, h.oL.only h.bC (by decide) ho, h.ap, h.bel.trans (ho.below h.leC h.size), h.le2, h.leH, h.leC⟩
  rw [← cellsA_put]
  exact hk
theorem BldS.growS (h : BldS w0 g2 gH gC hs ts vS vL sm lg w) (hg : w.grownBy w' vS.ownBlock) (ho : OwnI w' w0.heap.size 3 .i64 v' (sm ++ [x])) (hat : v'.ownBlock = vS.ownBlock ∨ v'.ownBlock = some w.heap.size) : BldS w0 g2 gH gC hs ts v' vL (sm ++ [x]) lg w' :=
  ⟨h.b2.grown h.oS (by decide) hg, h.bH.grown h.oS (by decide) hg, h.bC.grown h.oS (by decide) hg, ho, h.oL.other_row (fun g e1 e2 => h.ap g e2 e1) hg, fun g e => by
    rcases hat with e2 | e2
    · exact h.ap g (by rw [← e2]; exact e)
    · intro e3
      have := h.oL.block_lt g e3
      rw [e] at e2
      injection e2 with e2
      omega, h.oS.below_ h.bel h.size hg, h.le2, h.leH, h.leC⟩
theorem BldS.growL (h : BldS w0 g2 gH gC hs ts vS vL sm lg w) (hg : w.grownBy w' vL.ownBlock) (ho : OwnI w' w0.heap.size 3 .i64 v' (lg ++ [x])) (hat : v'.ownBlock = vL.ownBlock ∨ v'.ownBlock = some w.heap.size) : BldS w0 g2 gH gC hs ts vS v' sm (lg ++ [x]) w' :=
  ⟨h.b2.grown h.oL (by decide) hg, h.bH.grown h.oL (by decide) hg, h.bC.grown h.oL (by decide) hg, h.oS.other_row h.ap hg, ho, fun g e1 e => by
    rcases hat with e2 | e2
    · exact h.ap g e1 (by rw [← e2]; exact e)
    · have := h.oS.block_lt g e1
      rw [e] at e2
      injection e2 with e2
      omega, h.oL.below_ h.bel h.size hg, h.le2, h.leH, h.leC⟩
theorem own_slice (A : Option Addr) (n m c d : Nat) : (Value.slice A n c).ownBlock = (Value.slice A m d).ownBlock := by cases A <;> rfl
theorem BldS.cutS {j : Nat} (h : BldS w0 g2 gH gC hs ts (.slice A n c) vL sm lg w) (hj : j ≤ sm.length) : BldS w0 g2 gH gC hs ts (.slice A j c) vL (sm.take j) lg w :=
  ⟨h.b2, h.bH, h.bC, h.oS.cut hj, h.oL, fun g e => h.ap g (by rw [own_slice A n j c c]; exact e), h.bel, h.le2, h.leH, h.leC⟩
theorem BldS.cutL {j : Nat} (h : BldS w0 g2 gH gC hs ts vS (.slice A n c) sm lg w) (hj : j ≤ lg.length) : BldS w0 g2 gH gC hs ts vS (.slice A j c) sm (lg.take j) w :=
  ⟨h.b2, h.bH, h.bC, h.oS, h.oL.cut hj, fun g e => by rw [own_slice A j n c c]; exact h.ap g e, h.bel, h.le2, h.leH, h.leC⟩
theorem OwnI.last {w : World} {base : Nat} {e : TypeId} {kk : IntKind} {v : Value} {zs : List Int} (h : OwnI w base e kk v zs) (hn : zs.length ≠ 0) : ∃ g c, v = .slice (some ⟨g, 0, none⟩) zs.length c ∧ zs.length ≤ c ∧ c ≤ maxLen ∧ w.cell? ⟨g, zs.length - 1, none⟩ = some (.int kk (topL zs)) := by
  obtain ⟨B, c, rfl, hc, hc2⟩ := h.form
  obtain ⟨g, cur, rfl, _, hb, _, hcc⟩ := h.whole (by omega)
  exact ⟨g, c, rfl, hc, hc2, by rw [hb.cell, hcc _ (by omega)]; rfl⟩
end
section
variable {P : Program} {w : World} {ops : Array Oper} {rest : List Oper} {o : Oper} {a : Act} {Q : Exit → Act → World → Prop}
/-- A struct is stored into a part of a block. -/
theorem wpList_store_mid (hgd : o.guard = none) (ty : TypeId) (x y : Operand) (ho : o.op = .store ty x y) (g off : Nat) (hx : a.eval x = .pointer (some ⟨g, off, none⟩)) (t : TypeId) (cs ys : Array Value) (hb : Blk w g t cs)
    (hy : a.eval y = .agg ys) (hl : off + ys.size ≤ cs.size) (hz : (P.info? ty).map (·.size) = some ys.size) (h1 : ys.all (·.oneCell') = true)
    (h : ∀ w', Hid (Blk w' g t (putAll cs off ys.toList)) → Only g w w' → wpList P ops Q rest (a.put o.dst undef) w') : wpList P ops Q (o :: rest) a w := by
  refine wpList_plain hgd fun K hK => ?_
  exact wp_store_mid ty x y ho g off ys hx hy (hb.there off ys.size hl) hz h1 (hK _ _ (h _ (Blk.setCells _ _ hb) (Only.setCells g _ _ _)))
end
end Go.Proofs.YtomkidgmpbjgeaaGreatDoor
/-
  Tables of stakes in plain Lean: the build begins as it should, ends as it should; each place owns its stake as often as there are places.
  Conditions: those that each theorem names.
-/
set_option maxRecDepth 100000
set_option linter.unusedVariables false
set_option linter.unusedSimpArgs false
namespace Go.Proofs.YtomkidgmpbjgeaaGreatDoor
theorem sl_perm (T : Int) (hs : List Int) : ∀ k : Nat, (smL T hs k ++ lgL T hs k).Perm ((List.range k).map Int.ofNat)
  | 0 => List.Perm.refl _
  | k + 1 => by
    rw [smL_succ, lgL_succ, List.range_succ, List.map_append]
    have h := sl_perm T hs k
    have h2 : ((k : Int) :: (smL T hs k ++ lgL T hs k)).Perm ((List.range k).map Int.ofNat ++ [Int.ofNat k]) := (List.Perm.cons _ h).trans (List.perm_append_comm (l₁ := [(k : Int)]))
    split
    · exact (perm_s _ _ _).trans h2
    · exact (perm_l _ _ _).trans h2
theorem hasL_len (l : List Int) : (hasL l).length = l.length := by simp [hasL]
theorem hasL_at {l : List Int} {i : Nat} (h : i < l.length) : (hasL l).getD i 0 = (l.length : Int) * l.getD i 0 := by simp [hasL, h]
theorem cells_at {T : Int} {n k : Nat} (h : k < n) : cellL (cellsL T n) k = (T, (k : Int)) := by simp [cellL, cellsL, h]
theorem cells_len (T : Int) (n : Nat) : (cellsL T n).length = n := by simp [cellsL]
theorem sumL_mul (c : Int) : ∀ l : List Int, sumL (l.map fun x => c * x) = c * sumL l
  | [] => by simp [sumL]
  | x :: l => by
    show c * x + sumL (l.map _) = c * (x + sumL l)
    rw [sumL_mul c l, Int.mul_add]
theorem sum_range (hs : List Int) : ∀ k : Nat, k ≤ hs.length → sumL (((List.range k).map Int.ofNat).map fun a => hs.getD a.toNat 0) = sumL (hs.take k)
  | 0, _ => rfl
  | k + 1, h => by
    rw [List.range_succ, List.map_append, List.map_append, sumL_app, sum_range hs k (by omega), sumL_take (by omega)]
    simp [sumL]
theorem owns_init {T : Int} {n i : Nat} (hi : i < n) : ∀ k : Nat, k ≤ n → ownsN T (cellsL T n) i k = if i < k then T else 0
  | 0, _ => by simp [ownsN]
  | k + 1, h => by
    unfold ownsN
    rw [owns_init hi k (by omega), cells_at (by omega), ownK_self]
    by_cases h1 : k = i
    · subst h1; simp
    · by_cases h2 : i < k
      · rw [if_pos h2, if_neg (by omega), if_pos (by omega)]; omega
      · rw [if_neg h2, if_neg (by omega), if_neg (by omega)]; omega
theorem getD_le {l : List Int} (h : ∀ z ∈ l, 0 ≤ z) {i : Nat} (hi : i < l.length) : 0 ≤ l.getD i 0 ∧ l.getD i 0 ≤ sumL l := by
  have h0 := h _ (getD_in hi)
  have h1 := sumL_take hi
  have h2 := sumL_le h (i + 1)
  have h3 := sumL_nn (l := l.take i) (fun z hz => h z (List.mem_of_mem_take hz))
  exact ⟨h0, by omega⟩
theorem mul_le_of {n x T : Int} (hn : 0 ≤ n) (h : x ≤ T) : n * x ≤ n * T := Int.mul_le_mul_of_nonneg_left h hn
theorem ABI.init {l : List Int} (hz : ∀ z ∈ l, 0 ≤ z) (h0 : 0 < sumL l) (hs : (l.length : Int) * sumL l < 9223372036854775808) : ABI (sumL l) l (abInit (sumL l) l) := by
  have P := sl_perm (sumL l) (hasL l) l.length
  have ND : ((List.range l.length).map Int.ofNat).Nodup := by
    exact List.pairwise_map.2 (List.Pairwise.imp (fun h e => h (by injection e)) List.nodup_range)
  have hb : ∀ i, i < l.length → 0 ≤ (hasL l).getD i 0 ∧ (hasL l).getD i 0 < 9223372036854775808 := fun i hi => by
    rw [hasL_at hi]
    have h1 := getD_le hz hi
    have h2 := mul_le_of (n := (l.length : Int)) (by omega) h1.2
    exact ⟨Int.mul_nonneg (by omega) h1.1, by omega⟩
  have memS : ∀ a ∈ smL (sumL l) (hasL l) l.length, ∃ i : Nat, i < l.length ∧ a = (i : Int) ∧ (hasL l).getD i 0 < sumL l := fun a ha => by
    unfold smL at ha
    obtain ⟨i, hi, rfl⟩ := List.mem_map.1 ha
    obtain ⟨h1, h2⟩ := List.mem_filter.1 hi
    exact ⟨i, List.mem_range.1 h1, rfl, of_decide_eq_true h2⟩
  have memL : ∀ a ∈ lgL (sumL l) (hasL l) l.length, ∃ i : Nat, i < l.length ∧ a = (i : Int) ∧ ¬ (hasL l).getD i 0 < sumL l := fun a ha => by
    unfold lgL at ha
    obtain ⟨i, hi, rfl⟩ := List.mem_map.1 ha
    obtain ⟨h1, h2⟩ := List.mem_filter.1 hi
    exact ⟨i, List.mem_range.1 h1, rfl, by simpa using h2⟩
  have memA : ∀ i : Nat, (i : Int) ∈ smL (sumL l) (hasL l) l.length ++ lgL (sumL l) (hasL l) l.length ↔ i < l.length := fun i => by
    rw [P.mem_iff, List.mem_map]
    constructor
    · rintro ⟨j, hj, e⟩
      have : j = i := by injection e
      exact this ▸ List.mem_range.1 hj
    · exact fun h => ⟨i, List.mem_range.2 h, rfl⟩
  refine ⟨hasL_len l, cells_len _ _, P.nodup_iff.2 ND, ?_, ?_, ?_, ?_, ?_, ?_⟩
  · intro a ha
    obtain ⟨i, hi, rfl, h1⟩ := memS a ha
    exact ⟨by omega, by omega, (hb i hi).1, h1⟩
  · intro a ha
    obtain ⟨i, hi, rfl, h1⟩ := memL a ha
    exact ⟨by omega, by omega, by rw [Int.toNat_natCast]; show sumL l ≤ (hasL l).getD i 0; omega, (hb i hi).2⟩
  · intro k hk
    show 0 ≤ (cellL (cellsL _ _) k).1 ∧ _
    rw [show cellL (abInit (sumL l) l).ts k = (sumL l, (k : Int)) from cells_at hk, cells_at hk]
    exact ⟨by show 0 ≤ sumL l; omega, Int.le_refl _, by show 0 ≤ (k : Int); omega, by show (k : Int) < _; omega⟩
  · intro a ha
    exact cells_at ((memA a).1 ha)
  · intro i hi
    rw [if_pos (show (i : Int) ∈ (abInit (sumL l) l).sm ++ (abInit (sumL l) l).lg from (memA i).2 hi)]
    show ownsN _ (cellsL _ _) i _ = _ + (_ - (hasL l).getD i 0)
    rw [owns_init hi _ (Nat.le_refl _), if_pos hi, hasL_at hi]
    omega
  · have q := sumL_perm (P.map fun a => (hasL l).getD a.toNat 0)
    show sumL ((smL _ _ _ ++ lgL _ _ _).map fun a => (hasL l).getD a.toNat 0) = _ * (((smL (sumL l) (hasL l) l.length).length : Int) + ((lgL (sumL l) (hasL l) l.length).length : Int))
    have hl := sl_len (sumL l) (hasL l) l.length
    rw [q, sum_range _ _ (by rw [hasL_len]; exact Nat.le_refl _), show (hasL l).take l.length = hasL l from List.take_of_length_le (by rw [hasL_len]; exact Nat.le_refl _)]
    unfold hasL
    rw [sumL_mul, Int.mul_comm]
    congr 1
    unfold hasL at hl
    omega
theorem ABI.run {T : Int} {l : List Int} : ∀ (f : Nat) {s : AB}, ABI T l s → s.sm.length + s.lg.length ≤ f → ABI T l (abRun T f s) ∧ ((abRun T f s).sm.length = 0 ∨ (abRun T f s).lg.length = 0)
  | 0, s, I, h => ⟨I, by show s.sm.length = 0 ∨ _; omega⟩
  | f + 1, s, I, h => by
    by_cases h1 : s.sm.length = 0 ∨ s.lg.length = 0
    · rw [abRun_stop h1]; exact ⟨I, h1⟩
    · rw [abRun_go (by omega) (by omega)]
      have := abStep_len (T := T) (s := s) (by omega) (by omega)
      exact ABI.run f (I.step (by omega) (by omega)) (by omega)
theorem all_eq {T : Int} : ∀ {l : List Int}, (∀ z ∈ l, T ≤ z) → sumL l = T * (l.length : Int) → ∀ z ∈ l, z = T
  | [], _, _, z, hz => by cases hz
  | x :: l, h, hs, z, hz => by
    have h1 := h x (by simp)
    have h2 : T * (l.length : Int) ≤ sumL l := by
      have h3 : ∀ m : List Int, (∀ z ∈ m, T ≤ z) → T * (m.length : Int) ≤ sumL m := fun m => by
        induction m with
        | nil => intro _; simp [sumL]
        | cons y m ih =>
          intro hm
          have h4 := ih (fun z hz => hm z (by simp [hz]))
          have h5 := hm y (by simp)
          show T * ((m.length + 1 : Nat) : Int) ≤ y + sumL m
          rw [Int.natCast_add, Int.mul_add]
          simp
          omega
      exact h3 l (fun z hz => h z (by simp [hz]))
    have h3 : x + sumL l = T * (l.length : Int) + T := by
      have : sumL (x :: l) = x + sumL l := rfl
      rw [← this, hs]
      show T * ((l.length + 1 : Nat) : Int) = _
      rw [Int.natCast_add, Int.mul_add]
      simp
    rcases List.mem_cons.1 hz with rfl | hz
    · omega
    · exact all_eq (l := l) (fun z hz => h z (by simp [hz])) (by omega) z hz
theorem sum_lt {T : Int} : ∀ {l : List Int}, l ≠ [] → (∀ z ∈ l, z < T) → sumL l < T * (l.length : Int)
  | [x], _, h => by have := h x (by simp); show x + 0 < T * 1; omega
  | x :: y :: l, _, h => by
    have h1 := sum_lt (T := T) (l := y :: l) (by simp) (fun z hz => h z (by simp [List.mem_cons.1 hz]))
    have h2 := h x (by simp)
    show x + sumL (y :: l) < T * (((y :: l).length + 1 : Nat) : Int)
    rw [Int.natCast_add, Int.mul_add]
    simp at h1 ⊢
    omega
/-- At the end each place that is left has just the sum. -/
theorem ABI.fin {T : Int} {l : List Int} {s : AB} (I : ABI T l s) (h : s.sm.length = 0 ∨ s.lg.length = 0) : ∀ i : Nat, i < l.length → ownsN T s.ts i l.length = (l.length : Int) * l.getD i 0 := by
  intro i hi
  rw [I.ow i hi]
  have S := I.su
  have key : ∀ x ∈ s.sm ++ s.lg, s.has.getD x.toNat 0 = T := by
    have hsm : s.sm = [] := by
      rcases h with h | h
      · exact List.eq_nil_of_length_eq_zero h
      · have hl := List.eq_nil_of_length_eq_zero h
        rw [hl] at S
        simp only [List.append_nil, List.length_nil] at S
        by_cases hn : s.sm = []
        · exact hn
        · have := sum_lt (T := T) (l := s.sm.map fun a => s.has.getD a.toNat 0) (by simpa using hn) (fun z hz => by
            obtain ⟨a, ha, rfl⟩ := List.mem_map.1 hz
            exact (I.sm a ha).2.2.2)
          rw [List.length_map, S] at this
          simp at this
    rw [hsm] at S ⊢
    simp only [List.nil_append, List.length_nil] at S ⊢
    intro x hx
    exact all_eq (T := T) (l := s.lg.map fun a => s.has.getD a.toNat 0) (fun z hz => by
      obtain ⟨a, ha, rfl⟩ := List.mem_map.1 hz
      exact (I.lg a ha).2.2.1) (by rw [List.length_map, S]; simp) _ (List.mem_map.2 ⟨x, hx, rfl⟩)
  by_cases hm : (i : Int) ∈ s.sm ++ s.lg
  · rw [if_pos hm]
    have := key _ hm
    rw [Int.toNat_natCast] at this
    omega
  · rw [if_neg hm]; omega
theorem nodup_len : ∀ (n : Nat) (l : List Int), l.Nodup → (∀ z ∈ l, 0 ≤ z ∧ z < (n : Int)) → l.length ≤ n
  | 0, [], _, _ => Nat.le_refl _
  | 0, x :: l, _, h => by have := h x (by simp); omega
  | n + 1, l, hd, h => by
    by_cases hn : (n : Int) ∈ l
    · have hp := List.perm_cons_erase hn
      have hd2 := (hp.nodup_iff).1 hd
      have hr := List.nodup_cons.1 hd2
      have := nodup_len n (l.erase (n : Int)) hr.2 (fun z hz => by
        have h1 := h z (List.mem_of_mem_erase hz)
        have h2 : z ≠ (n : Int) := by rintro rfl; exact hr.1 hz
        omega)
      have h3 := hp.length_eq
      simp at h3
      omega
    · have := nodup_len n l hd (fun z hz => by
        have h1 := h z hz
        have h2 : z ≠ (n : Int) := by rintro rfl; exact hn hz
        omega)
      omega
theorem ABI.nd_len {T : Int} {l : List Int} {s : AB} (I : ABI T l s) : s.sm.length + s.lg.length ≤ l.length := by
  have := nodup_len l.length (s.sm ++ s.lg) I.nd (fun z hz => by
    rcases List.mem_append.1 hz with hz | hz
    · exact ⟨(I.sm z hz).1, (I.sm z hz).2.1⟩
    · exact ⟨(I.lg z hz).1, (I.lg z hz).2.1⟩)
  rwa [List.length_append] at this
/-- The last ones of both lists, and what a step makes. -/
theorem ABI.tops {T : Int} {l : List Int} {s : AB} (I : ABI T l s) (h : s.sm.length ≠ 0) (h2 : s.lg.length ≠ 0) : ∃ ia ib : Nat, topL s.sm = (ia : Int) ∧ topL s.lg = (ib : Int) ∧ ia < l.length ∧ ib < l.length ∧ 0 ≤ s.has.getD ia 0 ∧ s.has.getD ia 0 < T ∧ T ≤ s.has.getD ib 0 ∧ s.has.getD ib 0 < 9223372036854775808 ∧
    (abStep T s).has = s.has.set ib (s.has.getD ib 0 - (T - s.has.getD ia 0)) ∧ (abStep T s).ts = s.ts.set ia (s.has.getD ia 0, (ib : Int)) ∧
    (abStep T s).sm = (if s.has.getD ib 0 - (T - s.has.getD ia 0) < T then s.sm.take (s.sm.length - 1) ++ [(ib : Int)] else s.sm.take (s.sm.length - 1)) ∧
    (abStep T s).lg = (if s.has.getD ib 0 - (T - s.has.getD ia 0) < T then s.lg.take (s.lg.length - 1) else s.lg.take (s.lg.length - 1) ++ [(ib : Int)]) := by
  have am : topL s.sm ∈ s.sm := by have := top_split h; rw [this]; simp [topL]
  have bm : topL s.lg ∈ s.lg := by have := top_split h2; rw [this]; simp [topL]
  obtain ⟨a0, a1, a2, a3⟩ := I.sm _ am
  obtain ⟨b0, b1, b2, b3⟩ := I.lg _ bm
  unfold abStep abH
  obtain ⟨ia, ha⟩ := Int.eq_ofNat_of_zero_le a0
  obtain ⟨ib, hb⟩ := Int.eq_ofNat_of_zero_le b0
  rw [ha] at a1 a2 a3
  rw [hb] at b1 b2 b3
  rw [ha, hb]
  exact ⟨ia, ib, rfl, rfl, by omega, by omega, a2, a3, b2, b3, rfl, rfl, rfl, rfl⟩
/-! ### what a build answers -/
theorem tbE_none : tbE [] = 10 := rfl
theorem tbE_big {l : List Int} (h : l.length ≠ 0) (h2 : ¬ sumL l < 9223372036854775808) : tbE l = 11 := by unfold tbE; rw [if_neg h, if_neg h2]
theorem tbE_zero {l : List Int} (h : l.length ≠ 0) (h2 : sumL l < 9223372036854775808) (h3 : sumL l = 0) : tbE l = 10 := by unfold tbE; rw [if_neg h, if_pos h2, if_pos h3]
theorem tbE_mul {l : List Int} (h : l.length ≠ 0) (h2 : sumL l < 9223372036854775808) (h3 : sumL l ≠ 0) (h4 : ¬ (l.length : Int) * sumL l < 9223372036854775808) : tbE l = 11 := by unfold tbE; rw [if_neg h, if_pos h2, if_neg h3, if_neg h4]
theorem tbE_ok {l : List Int} (h : l.length ≠ 0) (h2 : sumL l < 9223372036854775808) (h3 : sumL l ≠ 0) (h4 : (l.length : Int) * sumL l < 9223372036854775808) : tbE l = 0 := by unfold tbE; rw [if_neg h, if_pos h2, if_neg h3, if_pos h4]
theorem tbE_iff {l : List Int} : tbE l = 0 ↔ (l.length ≠ 0 ∧ sumL l < 9223372036854775808 ∧ sumL l ≠ 0 ∧ (l.length : Int) * sumL l < 9223372036854775808) := by
  constructor
  · intro h
    unfold tbE at h
    split at h
    · cases h
    · split at h
      · split at h
        · cases h
        · split at h
          · exact ⟨by assumption, by assumption, by assumption, by assumption⟩
          · cases h
      · cases h
  · exact fun ⟨a, b, c, d⟩ => tbE_ok a b c d
theorem tb_no {l : List Int} (h : tbE l ≠ 0) : tbT l = 0 ∧ tbC l = [] := ⟨if_neg h, if_neg h⟩
theorem tb_abi {l : List Int} (hz : ∀ z ∈ l, 0 ≤ z) (h : tbE l = 0) : tbT l = sumL l ∧ ABI (sumL l) l (abRun (sumL l) l.length (abInit (sumL l) l)) ∧ tbC l = (abRun (sumL l) l.length (abInit (sumL l) l)).ts ∧ ((abRun (sumL l) l.length (abInit (sumL l) l)).sm.length = 0 ∨ (abRun (sumL l) l.length (abInit (sumL l) l)).lg.length = 0) := by
  obtain ⟨h1, h2, h3, h4⟩ := tbE_iff.1 h
  have h5 := sumL_nn hz
  have I := ABI.init hz (by omega) h4
  have R := ABI.run l.length I (by have := sl_len (sumL l) (hasL l) l.length; show (smL _ _ _).length + (lgL _ _ _).length ≤ _; omega)
  exact ⟨if_pos h, R.1, if_pos h, R.2⟩
/-- The table of stakes may be; its cells are as many, its numbers in range; each place owns its stake as often as there are places. -/
theorem tb_right {l : List Int} (hz : ∀ z ∈ l, 0 ≤ z) (h : tbE l = 0) : (tbC l).length = l.length ∧ tabR (tbT l) (tbC l) = true ∧ (∀ k, k < l.length → 0 ≤ (cellL (tbC l) k).1) ∧ ∀ i : Nat, i < l.length → ownsN (tbT l) (tbC l) i l.length = (l.length : Int) * l.getD i 0 := by
  obtain ⟨h1, h2, h3, h4⟩ := tbE_iff.1 h
  obtain ⟨e1, I, e2, hf⟩ := tb_abi hz h
  have h5 := sumL_nn hz
  rw [e1, e2]
  refine ⟨I.tn, tabR_iff.2 ⟨by rw [I.tn]; omega, by omega, by rw [I.tn]; exact h4, fun k hk => ?_⟩, fun k hk => (I.ce k hk).1, fun i hi => I.fin hf i hi⟩
  rw [I.tn] at hk ⊢
  exact (I.ce k hk).2
end Go.Proofs.YtomkidgmpbjgeaaGreatDoor

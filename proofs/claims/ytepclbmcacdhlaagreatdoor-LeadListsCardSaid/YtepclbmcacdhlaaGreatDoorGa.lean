/-
  Texts of this claim, joined: MemA, CopyA, ArrM, HeldA, HeldB, RegA, SafP, FenP, OwnD, FenM, RowP, Fact, FxM, FxP, LitL, FenL, RefP, RefX, FenQ. What each shows, and its conditions, stand at its own head.
-/
import Derived.Handy
import Derived.Lib.Hide
import Derived.Below
import Derived.Deep.Draws
import Derived.Maps.AppendAt
import Derived.Deep.AppendLies
import Derived.OwnWalk
import Derived.Laws.BytesString
import Derived.Deep.MidRow
import Derived.Great.BuildSlice
import Derived.Deep.QuietTactic
import Derived.BigQuiet
import Derived.Laws.CopyOwn
import Derived.Laws.MakeOwn
import Derived.Deep.WholeRow
import Derived.Deep.RegionHeld3
import Derived.Test.YtepclbmcacdhlaaGreatDoorRows
/-
  Slices of integers in memory: what one reads as, that reading kept, cut, made a string, and appended to a row of the call's own.
  Conditions: those that each theorem names.
-/
set_option maxRecDepth 100000
namespace Go.Proofs.YtepclbmcacdhlaaGreatDoor
open Go.ChangeShapes Go.WideShapes Go.ChangeAt Go.RowKit

/-- The slice (A, n, ..) reads as the numbers zs, and lies below block B; nil and empty ones let in. -/
def Rd (k : IntKind) (w : World) (B : Nat) (A : Option Addr) (n : Nat) (zs : List Int) : Prop :=
  zs.length = n ∧ (0 < n → ∃ b off, A = some ⟨b, off, none⟩ ∧ b < B ∧ ∀ j, j < n → w.cell? ⟨b, off + j, none⟩ = some (.int k (zs.getD j 0)))

theorem add_flat (b off j : Nat) : (⟨b, off, none⟩ : Addr).add j = ⟨b, off + j, none⟩ := by
  unfold Addr.add
  split
  · rename_i h; rw [h]; rfl
  · rfl

section
variable {k : IntKind} {w w' : World} {B B' n : Nat} {A : Option Addr} {zs ys : List Int}
theorem Rd.len (h : Rd k w B A n zs) : zs.length = n := h.1
theorem Rd.none_ : Rd k w B A 0 [] := ⟨rfl, fun h => absurd h (by omega)⟩
theorem Rd.at_ (h : Rd k w B A n zs) (hn : 0 < n) : ∃ b off, A = some ⟨b, off, none⟩ ∧ b < B ∧ ∀ j, j < n → w.cell? ⟨b, off + j, none⟩ = some (.int k (zs.getD j 0)) := h.2 hn
theorem Rd.keep (h : Rd k w B A n zs) (hk : ∀ p : Addr, p.block < B → w'.cell? p = w.cell? p) : Rd k w' B A n zs :=
  ⟨h.1, fun hn => by
    obtain ⟨b, off, e, hb, hc⟩ := h.2 hn
    exact ⟨b, off, e, hb, fun j hj => (hk ⟨b, off + j, none⟩ hb).trans (hc j hj)⟩⟩
theorem Rd.mono (h : Rd k w B A n zs) (hB : B ≤ B') : Rd k w B' A n zs :=
  ⟨h.1, fun hn => by
    obtain ⟨b, off, e, hb, hc⟩ := h.2 hn
    exact ⟨b, off, e, by omega, hc⟩⟩
theorem Rd.below (h : Rd k w B A n zs) (hb : Below B w w') : Rd k w' B A n zs := h.keep fun _ hp => hb.cell hp
theorem Rd.drew (h : Rd k w B A n zs) : Rd k w.drew B A n zs := h
theorem Rd.drewN (h : Rd k w B A n zs) (m : Nat) : Rd k (w.drewN m) B A n zs := h
theorem Rd.alloc (h : Rd k w B A n zs) (hB : B ≤ w.heap.size) (o : Obj) : Rd k (w.alloc o) B A n zs := h.keep fun p hp => World.cell?_alloc_lt w o p (by omega)
/-- Within the world's own size. -/
theorem Rd.fit (h : Rd k w B A n zs) : Rd k w w.heap.size A n zs :=
  ⟨h.1, fun hn => by
    obtain ⟨b, off, e, hb, hc⟩ := h.2 hn
    exact ⟨b, off, e, World.block_lt_of_cell? w _ (hc 0 hn), hc⟩⟩
/-- What a row of the call's own reads as. -/
theorem Rd.of_own {base c : Nat} {e : TypeId} (h : w.ownsRow base e 1 (.slice A n c) n (zs.map (Value.int k))) : Rd k w w.heap.size A n zs := by
  refine ⟨by have := h.1; simpa using this, fun hn => ?_⟩
  obtain ⟨g, cap, hv, _, hlt⟩ := h.form hn
  have hA : A = some ⟨g, 0, none⟩ := by injection hv
  subst hA
  refine ⟨g, 0, rfl, hlt, fun j hj => ?_⟩
  have hl : j < zs.length := by have := h.1; simp at this; omega
  have hc := h.cells (g := g) rfl j (.int k (zs.getD j 0)) (by simp [hl])
  rw [add_flat] at hc
  exact hc
/-- Cut: from i on, up to j. -/
theorem Rd.cut (h : Rd k w B A n zs) {i j cap : Nat} (hi : i ≤ j) (hj : j ≤ n) (hc : n ≤ cap) :
    Rd k w B (if cap = i then A else A.map (·.add (i * 1))) (j - i) ((zs.take j).drop i) := by
  refine ⟨by rw [List.length_drop, List.length_take, h.1]; omega, fun hn => ?_⟩
  obtain ⟨b, off, rfl, hb, hcell⟩ := h.2 (by omega)
  rw [if_neg (by omega)]
  refine ⟨b, off + i, by rw [Option.map_some, Nat.mul_one, add_flat], hb, fun m hm => ?_⟩
  rw [Nat.add_assoc, hcell (i + m) (by omega)]
  congr 2
  simp only [List.getD_eq_getElem?_getD, List.getElem?_drop, List.getElem?_take]
  rw [if_pos (by omega)]
theorem Rd.from_ (h : Rd k w B A n zs) {i cap : Nat} (hi : i ≤ n) (hc : n ≤ cap) :
    Rd k w B (if cap = i then A else A.map (·.add (i * 1))) (n - i) (zs.drop i) := by
  have := h.cut hi (Nat.le_refl n) hc
  rwa [List.take_of_length_le (by rw [h.1]; exact Nat.le_refl _)] at this
theorem Rd.upto (h : Rd k w B A n zs) {j : Nat} (hj : j ≤ n) : Rd k w B A j (zs.take j) := by
  refine ⟨by rw [List.length_take, h.1]; omega, fun hn => ?_⟩
  obtain ⟨b, off, rfl, hb, hcell⟩ := h.2 (by omega)
  refine ⟨b, off, rfl, hb, fun m hm => ?_⟩
  rw [hcell m (by omega)]
  congr 2
  simp only [List.getD_eq_getElem?_getD, List.getElem?_take]
  rw [if_pos (by omega)]
/-- As the cells that an append takes. -/
theorem Rd.news {ad : Addr} (h : Rd k w B (some ad) n zs) : ∀ j u, (zs.map (Value.int k))[j]? = some u → w.cell? (ad.add j) = some u := by
  intro j u hu
  have hj : j < zs.length := by
    rcases Nat.lt_or_ge j zs.length with h1 | h1
    · exact h1
    · rw [List.getElem?_eq_none (by simpa using h1)] at hu; cases hu
  obtain ⟨b, off, e, _, hc⟩ := h.2 (by rw [← h.1]; omega)
  injection e with e
  subst e
  rw [add_flat, hc j (by rw [← h.1]; exact hj)]
  rw [← hu]
  simp [hj]
end

theorem ints_one (k : IntKind) (zs : List Int) : ∀ u ∈ zs.map (Value.int k), u.oneCell' = true := by
  intro u hu
  obtain ⟨z, _, rfl⟩ := List.mem_map.1 hu
  rfl

/-! ### append onto a row of the call's own -/
section
variable {P : Program} (w : World)
/-- A row of the call's own that holds the numbers zs. -/
def OwnI (w : World) (base : Nat) (e : TypeId) (k : IntKind) (v : Value) (zs : List Int) : Prop := w.ownsRow base e 1 v zs.length (zs.map (Value.int k))
theorem OwnI.form {w : World} {base : Nat} {e : TypeId} {k : IntKind} {v : Value} {zs : List Int} (h : OwnI w base e k v zs) : ∃ A c, v = .slice A zs.length c ∧ zs.length ≤ c ∧ c ≤ maxLen := by
  rcases h.2 with ⟨rfl, hn⟩ | ⟨g, cap, cur, rfl, _, _, h1, h2, _⟩
  · exact ⟨none, 0, by rw [hn], by omega, by simp [maxLen]⟩
  · exact ⟨_, _, rfl, h1, h2⟩
theorem OwnI.rd {w : World} {base : Nat} {e : TypeId} {k : IntKind} {A : Option Addr} {n c : Nat} {zs : List Int} (h : OwnI w base e k (.slice A n c) zs) (hn : zs.length = n) : Rd k w w.heap.size A n zs := by
  subst hn
  exact Rd.of_own h
theorem OwnI.block_ge {w : World} {base : Nat} {e : TypeId} {k : IntKind} {v : Value} {zs : List Int} (h : OwnI w base e k v zs) : ∀ g, v.ownBlock = some g → base ≤ g := by
  intro g hg
  rcases h.2 with ⟨rfl, _⟩ | ⟨g', cap, cur, rfl, hb, _⟩
  · simp [Value.ownBlock] at hg
  · simp [Value.ownBlock] at hg
    omega
theorem OwnI.drew {w : World} {base : Nat} {e : TypeId} {k : IntKind} {v : Value} {zs : List Int} (h : OwnI w base e k v zs) : OwnI w.drew base e k v zs := h

theorem run_append_nothing (base : Nat) (t ty e : TypeId) (i : TypeInfo) (ht : P.underlying t = some (.slice e)) (hi : P.info? e = some i)
    (v : Value) (n : Nat) (xs : List Value) (hown : w.ownsRow base e 1 v n xs) (c : Nat) : (Builtin.append_ #[t, t] ty #[v, .slice none 0 c]).run P w = .ok v w := by
  rcases hown.2 with ⟨rfl, rfl⟩ | ⟨g, cap, cur, rfl, _, _, hnc, _⟩
  · simp [Builtin.append_, run_underlying ht, sizeOf, typeInfo, hi, Builtin.lenOf, Builtin.firstCells]
  · simp [Builtin.append_, run_underlying ht, sizeOf, typeInfo, hi, Builtin.lenOf, Builtin.firstCells, hnc, storeCells]

theorem run_append_ints (base : Nat) (t ty e : TypeId) (i : TypeInfo) (z : Value) (bytes : Nat) (k : IntKind) (ht : P.underlying t = some (.slice e)) (hi : P.info? e = some i) (hz : i.zero = some z)
    (hsize : i.size = 1) (hby : i.bytes = bytes) (hzs : z.cells.size = 1) (v : Value) (zs : List Int) (hown : OwnI w base e k v zs)
    (B : Nat) (A : Option Addr) (m c : Nat) (ys : List Int) (hr : Rd k w B A m ys)
    (h63 : zs.length + m ≤ maxLen) (hbytes : (zs.length + m) * bytes ≤ 140737488355328) (hbase : base ≤ w.heap.size) :
    ∃ v' w', (Builtin.append_ #[t, t] ty #[v, .slice A m c]).run P w = .ok v' w' ∧ OwnI w' base e k v' (zs ++ ys) ∧ w.grownBy w' v.ownBlock ∧
      (v'.ownBlock = v.ownBlock ∨ v'.ownBlock = some w.heap.size) := by
  rcases A with _ | ad
  · have hm : m = 0 := by
      rcases Nat.eq_zero_or_pos m with h0 | h0
      · exact h0
      · obtain ⟨b, off, e, _⟩ := hr.2 h0
        cases e
    subst hm
    have hn : ys = [] := List.eq_nil_of_length_eq_zero hr.1
    subst hn
    exact ⟨v, w, run_append_nothing w base t ty e i ht hi v _ _ hown c, by simpa using hown, World.grownBy.refl w _, .inl rfl⟩
  · obtain ⟨v', w', hrun, h2, h3, _, h5⟩ := run_append_own_at (P := P) w base t ty e i z 1 bytes ht hi hz hsize hby hzs (by omega) v zs.length _ hown ad m c (ys.map (Value.int k)) (by simpa using hr.1) hr.news (ints_one k ys) h63 hbytes hbase
    refine ⟨v', w', hrun, ?_, h3, h5⟩
    unfold OwnI
    rw [List.length_append, hr.1, List.map_append]
    exact h2

theorem wp_append_ints {o : Oper} {a : Act} {K : Act → World → Prop} {Q : Exit → Act → World → Prop} (s x : Operand) (t : TypeId)
    (ho : o.op = .call { callee := .builtin .append, args := #[s, x], argTypes := #[t, t] })
    (base : Nat) (e : TypeId) (i : TypeInfo) (z : Value) (bytes : Nat) (k : IntKind) (ht : P.underlying t = some (.slice e)) (hi : P.info? e = some i) (hz : i.zero = some z)
    (hsize : i.size = 1) (hby : i.bytes = bytes) (hzs : z.cells.size = 1) (v : Value) (zs : List Int) (hs : a.eval s = v) (hown : OwnI w base e k v zs)
    (B : Nat) (A : Option Addr) (m c : Nat) (ys : List Int) (hx : a.eval x = .slice A m c) (hr : Rd k w B A m ys)
    (h63 : zs.length + m ≤ maxLen) (hbytes : (zs.length + m) * bytes ≤ 140737488355328) (hbase : base ≤ w.heap.size)
    (h : ∀ v' w', OwnI w' base e k v' (zs ++ ys) → w.grownBy w' v.ownBlock → (v'.ownBlock = v.ownBlock ∨ v'.ownBlock = some w.heap.size) → K (a.put o.dst v') w') : o.wp P a w K Q := by
  obtain ⟨v', w', hrun, h2, h3, h4⟩ := run_append_ints (P := P) w base t o.type e i z bytes k ht hi hz hsize hby hzs v zs hown B A m c ys hr h63 hbytes hbase
  unfold Oper.wp execOp
  simp only [ho, resolve, invoke, builtin, Sem.run_bind, Sem.run_pure, Result.andThen_ok, List.map_toArray, List.map_cons, List.map_nil, hs, hx, hrun]
  exact h v' w' h2 h3 h4

theorem wpList_append_ints {ops : Array Oper} {rest : List Oper} {o : Oper} {a : Act} {Q : Exit → Act → World → Prop} (hgd : o.guard = none) (s x : Operand) (t : TypeId)
    (ho : o.op = .call { callee := .builtin .append, args := #[s, x], argTypes := #[t, t] })
    (base : Nat) (e : TypeId) (i : TypeInfo) (z : Value) (bytes : Nat) (k : IntKind) (ht : P.underlying t = some (.slice e)) (hi : P.info? e = some i) (hz : i.zero = some z)
    (hsize : i.size = 1) (hby : i.bytes = bytes) (hzs : z.cells.size = 1) (v : Value) (zs : List Int) (hs : a.eval s = v) (hown : OwnI w base e k v zs)
    (B : Nat) (A : Option Addr) (m c : Nat) (ys : List Int) (hx : a.eval x = .slice A m c) (hr : Rd k w B A m ys)
    (h63 : zs.length + m ≤ maxLen) (hbytes : (zs.length + m) * bytes ≤ 140737488355328) (hbase : base ≤ w.heap.size)
    (h : ∀ v' w', OwnI w' base e k v' (zs ++ ys) → w.grownBy w' v.ownBlock → (v'.ownBlock = v.ownBlock ∨ v'.ownBlock = some w.heap.size) → wpList P ops Q rest (a.put o.dst v') w') : wpList P ops Q (o :: rest) a w :=
  wpList_plain hgd fun _ hK => wp_append_ints w s x t ho base e i z bytes k ht hi hz hsize hby hzs v zs hs hown B A m c ys hx hr h63 hbytes hbase fun v' w' h2 h3 h4 => hK _ _ (h v' w' h2 h3 h4)
end

theorem step_append_ints {P : Program} (w : World) {ops : Array Oper} {o : Oper} {a : Act} {K : Act → World → Prop} {Q : Exit → Act → World → Prop} {E : Prop} (hgd : o.guard = none) (s x : Operand) (t : TypeId)
    (ho : o.op = .call { callee := .builtin .append, args := #[s, x], argTypes := #[t, t] })
    (base : Nat) (e : TypeId) (i : TypeInfo) (z : Value) (bytes : Nat) (k : IntKind) (ht : P.underlying t = some (.slice e)) (hi : P.info? e = some i) (hz : i.zero = some z)
    (hsize : i.size = 1) (hby : i.bytes = bytes) (hzs : z.cells.size = 1) (v : Value) (zs : List Int) (hs : a.eval s = v) (hown : OwnI w base e k v zs)
    (B : Nat) (A : Option Addr) (m c : Nat) (ys : List Int) (hx : a.eval x = .slice A m c) (hr : Rd k w B A m ys)
    (h63 : zs.length + m ≤ maxLen) (hbytes : (zs.length + m) * bytes ≤ 140737488355328) (hbase : base ≤ w.heap.size)
    (h : ∀ v' w', OwnI w' base e k v' (zs ++ ys) → w.grownBy w' v.ownBlock → (v'.ownBlock = v.ownBlock ∨ v'.ownBlock = some w.heap.size) → K (a.put o.dst v') w') :
    if Region.wanted o (yielded ops a.tmps) = true then Oper.wp P o a w K Q else E := by
  rw [if_pos (by simp [Region.wanted, hgd])]
  exact wp_append_ints w s x t ho base e i z bytes k ht hi hz hsize hby hzs v zs hs hown B A m c ys hx hr h63 hbytes hbase h

/-! ### bytes as a string -/
def strB (zs : List Int) : ByteArray := zs.foldl (fun r n => r.push (UInt8.ofNat n.toNat)) ByteArray.empty
theorem run_str {P : Program} {w : World} {src dst e : TypeId} {B : Nat} {A : Option Addr} {n c : Nat} {zs : List Int}
    (hs : P.underlying src = some (.slice e)) (he : P.underlying e = some (.int .u8)) (hd : P.underlying dst = some .string) (h : Rd .u8 w B A n zs) (hA : A = none → n = 0) :
    (convert src dst (.slice A n c)).run P w = .ok (.string (strB zs)) w := by
  rw [run_convert_bytes_string w src dst e A n c hs he hd]
  rcases A with _ | ad
  · have hn := hA rfl
    subst hn
    have : zs = [] := List.eq_nil_of_length_eq_zero h.1
    subst this
    simp [Conv.bytesToString, strB, go_sem]
  · have hl := run_loadCells_list (P := P) (w := w) ad (zs.map (Value.int .u8)) h.news
    rw [List.length_map, h.1] at hl
    exact run_bytesToString w ad n c zs hl
theorem strB_foldl (zs : List Int) : ∀ r : ByteArray, (zs.foldl (fun r n => r.push (UInt8.ofNat n.toNat)) r).data.toList = r.data.toList ++ zs.map fun n => UInt8.ofNat n.toNat := by
  induction zs with
  | nil => intro r; simp
  | cons z zs ih =>
    intro r
    rw [List.foldl_cons, ih]
    simp
theorem strB_list (zs : List Int) : (strB zs).data.toList = zs.map fun n => UInt8.ofNat n.toNat := by
  unfold strB
  rw [strB_foldl]
  simp
theorem strB_inj {zs ys : List Int} (hz : ∀ z ∈ zs, 0 ≤ z ∧ z < 256) (hy : ∀ z ∈ ys, 0 ≤ z ∧ z < 256) (h : strB zs = strB ys) : zs = ys := by
  have h1 : zs.map (fun n => UInt8.ofNat n.toNat) = ys.map fun n => UInt8.ofNat n.toNat := by rw [← strB_list, ← strB_list, h]
  have back : ∀ l : List Int, (∀ z ∈ l, 0 ≤ z ∧ z < 256) → (l.map fun n => UInt8.ofNat n.toNat).map (fun u => (u.toNat : Int)) = l := by
    intro l hl
    rw [List.map_map]
    conv => rhs; rw [← List.map_id l]
    apply List.map_congr_left
    intro z hz
    have := hl z hz
    simp only [Function.comp_def, UInt8.toNat_ofNat', id]
    omega
  rw [← back zs hz, ← back ys hy, h1]
theorem strB_eq {zs ys : List Int} (hz : ∀ z ∈ zs, 0 ≤ z ∧ z < 256) (hy : ∀ z ∈ ys, 0 ≤ z ∧ z < 256) : (strB zs = strB ys) ↔ zs = ys := ⟨strB_inj hz hy, fun h => by rw [h]⟩

theorem below_of_drew {B : Nat} {w w' : World} (h : Below B w.drew w') : Below B w w' := ⟨h.os, h.tape, h.output, h.size, h.block⟩
theorem belNext {W w1 w2 : World} (hb : Below w1.heap.size w1 w2) (h : Below W.heap.size W w1) : Below W.heap.size W w2 := h.trans (hb.mono h.size)
theorem below_drewN {B : Nat} {a w : World} (h : Below B a w) (n : Nat) : Below B a (w.drewN n) := ⟨h.os, h.tape, h.output, h.size, h.block⟩

/-! ### blocks that are known whole; what an append leaves -/
def Blk (w : World) (g : Nat) (t : TypeId) (cs : Array Value) : Prop := w.heap[g]? = some (.cells cs t (0, 0))
section
variable {w w' : World} {g base : Nat} {t e : TypeId} {cs : Array Value} {k : IntKind} {v : Value} {zs : List Int}
theorem Blk.lt (h : Blk w g t cs) : g < w.heap.size := by
  rcases Nat.lt_or_ge g w.heap.size with hlt | hge
  · exact hlt
  · unfold Blk at h; rw [Array.getElem?_eq_none hge] at h; cases h
theorem Blk.cell (h : Blk w g t cs) (i : Nat) : w.cell? ⟨g, i, none⟩ = cs[i]? := cell_of_row w g i cs t (0, 0) h
theorem Blk.new (w : World) (t : TypeId) (cs : Array Value) : Blk (w.alloc (.cells cs t)) w.heap.size t cs := heap_alloc_new w _
theorem Blk.frozen (h : Blk w g t cs) (i : Nat) : w.frozen? ⟨g, i, none⟩ = false := by
  unfold Blk at h
  simp [World.frozen?, h]
theorem Blk.set_ (h : Blk w g t cs) (i : Nat) (u : Value) : Blk (w.setCell ⟨g, i, none⟩ u) g t (cs.setIfInBounds i u) := by
  unfold Blk at h ⊢
  simp [World.setCell, Array.getElem?_modify, h]
theorem Blk.far (h : Blk w g t cs) {p : Addr} (hp : g ≠ p.block) (u : Value) : Blk (w.setCell p u) g t cs := (Below.heap_setCell w p u g hp).trans h
theorem Blk.range (h : Blk w g t cs) : w.rangeAt g 0 cs.toList := by
  intro j v hv
  rw [Nat.zero_add, h.cell j]
  simpa using hv
theorem Blk.drew (h : Blk w g t cs) : Blk w.drew g t cs := h
theorem Blk.alloc (h : Blk w g t cs) (o : Obj) : Blk (w.alloc o) g t cs := (Below.heap_alloc w o g h.lt).trans h
theorem Blk.below {B : Nat} (h : Blk w g t cs) (hb : Below B w w') (hg : g < B) : Blk w' g t cs := (hb.block g hg).trans h
/-- An append onto a row of another element type leaves it. -/
theorem Blk.grown (h : Blk w g t cs) (ho : OwnI w base e k v zs) (hne : e ≠ t) (hb : w.grownBy w' v.ownBlock) : Blk w' g t cs := by
  refine (hb.block g h.lt ?_).trans h
  rcases ho.2 with ⟨rfl, _⟩ | ⟨g', cap, cur, rfl, _, hh, _⟩
  · simp [Value.ownBlock]
  · intro he
    have hgg : g = g' := by simpa [Value.ownBlock] using he
    subst hgg
    unfold Blk at h
    rw [hh] at h
    injection h with h
    injection h with _ ht
    exact hne ht
theorem OwnI.alloc (h : OwnI w base e k v zs) (o : Obj) : OwnI (w.alloc o) base e k v zs := World.ownsRow.alloc h o
theorem OwnI.below_ (h : OwnI w base e k v zs) {w0 : World} (hb : Below base w0 w) (hbase : base ≤ w.heap.size) (hg : w.grownBy w' v.ownBlock) : Below base w0 w' :=
  hb.grown hg hbase (fun _ hk => h.block_ge _ hk)
/-- What a callee leaves of it. -/
theorem OwnI.below (h : OwnI w base e k v zs) (hb : Below w.heap.size w w') : OwnI w' base e k v zs := by
  refine ⟨h.1, ?_⟩
  rcases h.2 with h1 | ⟨g, cap, cur, h1, h2, h3, h4⟩
  · exact .inl h1
  · have hlt : g < w.heap.size := by
      rcases Nat.lt_or_ge g w.heap.size with h5 | h5
      · exact h5
      · rw [Array.getElem?_eq_none h5] at h3; cases h3
    exact .inr ⟨g, cap, cur, h1, h2, (hb.block g hlt).trans h3, h4⟩
/-- An empty slice of the call's own. -/
theorem own_empty (w : World) (e : TypeId) (k : IntKind) (hB : base ≤ w.heap.size) : OwnI (w.alloc (.cells #[] e)) base e k (.slice (some ⟨w.heap.size, 0, none⟩) 0 0) [] :=
  ⟨rfl, .inr ⟨w.heap.size, 0, #[], rfl, hB, heap_alloc_new w _, Nat.le_refl _, by simp [maxLen], rfl, rfl⟩⟩
theorem own_nil (w : World) (e : TypeId) (k : IntKind) : OwnI w base e k (.slice none 0 0) [] := ⟨rfl, .inl ⟨rfl, rfl⟩⟩
/-- The one element that is about to be appended. -/
theorem rd_one (w : World) (e : TypeId) (k : IntKind) (z : Int) : Rd k (w.alloc (.cells #[.int k z] e)) (w.heap.size + 1) (some ⟨w.heap.size, 0, none⟩) 1 [z] := by
  refine ⟨rfl, fun _ => ⟨w.heap.size, 0, rfl, by omega, fun j hj => ?_⟩⟩
  obtain rfl : j = 0 := by omega
  rw [(Blk.new w e #[.int k z]).cell]
  rfl
end
/-- The slice's cells lie apart from the row. -/
def Apart (n : Nat) (A : Option Addr) (v : Value) : Prop := ∀ b off, 0 < n → A = some ⟨b, off, none⟩ → v.ownBlock ≠ some b
theorem Rd.grownA {k : IntKind} {w w' : World} {B n : Nat} {A : Option Addr} {zs : List Int} {v : Value} (h : Rd k w B A n zs) (ha : Apart n A v) (hB : B ≤ w.heap.size) (hg : w.grownBy w' v.ownBlock) : Rd k w' B A n zs :=
  ⟨h.1, fun hn => by
    obtain ⟨b, off, e, hb, hc⟩ := h.2 hn
    refine ⟨b, off, e, hb, fun j hj => ?_⟩
    rw [← hc j hj]
    exact World.cell?_of_block (hg.block b (by omega) (fun h1 => ha b off hn e h1.symm))⟩
/-- A row without room lies apart from whatever has cells; so does what an append makes of it. -/
theorem keep_empty {k k' : IntKind} {w w' : World} {B n base g : Nat} {e : TypeId} {A : Option Addr} {zs : List Int} {v' : Value} (h : Rd k w B A n zs) (hB : B ≤ w.heap.size) (ho : OwnI w base e k' (.slice (some ⟨g, 0, none⟩) 0 0) [])
    (hg : w.grownBy w' (some g)) (hat : v'.ownBlock = some g ∨ v'.ownBlock = some w.heap.size) : Rd k w' B A n zs ∧ Apart n A v' := by
  have hne : ∀ b off, 0 < n → A = some ⟨b, off, none⟩ → b ≠ g ∧ b < w.heap.size := by
    intro b off hn eA
    obtain ⟨b1, off1, e1, hb1, hc1⟩ := h.2 hn
    rw [eA] at e1
    injection e1 with e1
    injection e1 with e2 e3
    subst e2
    subst e3
    refine ⟨?_, by omega⟩
    intro hbg
    subst hbg
    rcases ho.2 with ⟨h1, _⟩ | ⟨g', cap, cur, h1, _, h3, _, _, h6, _⟩
    · cases h1
    · injection h1 with h1 _ h2
      injection h1 with h1
      injection h1 with h1
      subst h1
      subst h2
      have h0 := hc1 0 hn
      rw [Nat.add_zero, cell_of_row w b off cur e (0, 0) h3, Array.getElem?_eq_none (by omega)] at h0
      cases h0
  refine ⟨h.grownA (v := .slice (some ⟨g, 0, none⟩) 0 0) (fun b off hn e h1 => ?_) hB hg, fun b off hn e h1 => ?_⟩
  · have := (hne b off hn e).1
    simp [Value.ownBlock] at h1
    exact this h1.symm
  · obtain ⟨h2, h3⟩ := hne b off hn e
    rcases hat with h4 | h4 <;> rw [h1] at h4 <;> injection h4 <;> omega
def lenV : Value → Nat
  | .slice _ n _ => n
  | _ => 0


/-! ### slices of arrays of integers -/
/-- A row of the call's own that holds arrays of s numbers each. -/
def OwnA (w : World) (base : Nat) (e : TypeId) (s : Nat) (k : IntKind) (v : Value) (bs : List (List Int)) : Prop :=
  w.ownsRow base e s v bs.length (bs.flatten.map (Value.int k)) ∧ ∀ x ∈ bs, x.length = s
/-- The slice reads as the arrays bs. -/
def RdA (k : IntKind) (s : Nat) (w : World) (B : Nat) (A : Option Addr) (n : Nat) (bs : List (List Int)) : Prop :=
  bs.length = n ∧ (∀ x ∈ bs, x.length = s) ∧ (0 < n → ∃ b off, A = some ⟨b, off, none⟩ ∧ b < B ∧ w.rangeAt b off (bs.flatten.map (Value.int k)))
theorem flatten_len {s : Nat} : ∀ {bs : List (List Int)}, (∀ x ∈ bs, x.length = s) → bs.flatten.length = bs.length * s
  | [], _ => by simp
  | x :: bs, h => by
    rw [List.flatten_cons, List.length_append, h x (by simp), flatten_len (bs := bs) fun y hy => h y (by simp [hy]), List.length_cons, Nat.add_mul]
    omega
theorem flatten_at {s : Nat} : ∀ {bs : List (List Int)}, (∀ x ∈ bs, x.length = s) → ∀ {i j : Nat}, i < bs.length → j < s → bs.flatten[i * s + j]? = (bs.getD i [])[j]?
  | [], _, i, j, hi, _ => by simp at hi
  | x :: bs, h, i, j, hi, hj => by
    have hx := h x (by simp)
    rw [List.flatten_cons]
    rcases i with _ | i
    · rw [Nat.zero_mul, Nat.zero_add, List.getElem?_append_left (by omega)]
      rfl
    · rw [List.getElem?_append_right (by rw [hx, Nat.add_mul]; omega), hx, show (i + 1) * s + j - s = i * s + j by rw [Nat.add_mul]; omega,
        flatten_at (bs := bs) (fun y hy => h y (by simp [hy])) (by simpa using hi) hj]
      rfl
section
variable {k : IntKind} {s : Nat} {w w' : World} {B B' n base : Nat} {A : Option Addr} {bs : List (List Int)} {e : TypeId} {v : Value}
theorem RdA.below (h : RdA k s w B A n bs) (hb : Below B w w') : RdA k s w' B A n bs :=
  ⟨h.1, h.2.1, fun hn => by
    obtain ⟨b, off, e, hlt, hc⟩ := h.2.2 hn
    exact ⟨b, off, e, hlt, fun j u hu => (hb.cell (p := ⟨b, off + j, none⟩) hlt).trans (hc j u hu)⟩⟩
theorem RdA.mono (h : RdA k s w B A n bs) (hB : B ≤ B') : RdA k s w B' A n bs :=
  ⟨h.1, h.2.1, fun hn => by
    obtain ⟨b, off, e, hlt, hc⟩ := h.2.2 hn
    exact ⟨b, off, e, by omega, hc⟩⟩
/-- One of its arrays. -/
theorem RdA.at_ (h : RdA k s w B A n bs) {i : Nat} (hi : i < n) : ∃ b off, A = some ⟨b, off, none⟩ ∧ b < B ∧ w.rangeAt b (off + i * s) ((bs.getD i []).map (Value.int k)) := by
  obtain ⟨b, off, e, hlt, hc⟩ := h.2.2 (by omega)
  refine ⟨b, off, e, hlt, fun j u hu => ?_⟩
  have hi' : i < bs.length := by rw [h.1]; exact hi
  have hl : (bs.getD i []).length = s := h.2.1 _ (by simp [List.getD, List.getElem?_eq_getElem hi'])
  have hj : j < s := by
    rcases Nat.lt_or_ge j s with h1 | h1
    · exact h1
    · rw [List.getElem?_eq_none (by rw [List.length_map, hl]; exact h1)] at hu; cases hu
  rw [Nat.add_assoc]
  apply hc
  rw [List.getElem?_map] at hu ⊢
  rw [flatten_at h.2.1 hi' hj]
  exact hu
theorem OwnA.below (h : OwnA w base e s k v bs) (hb : Below w.heap.size w w') : OwnA w' base e s k v bs := by
  refine ⟨⟨h.1.1, ?_⟩, h.2⟩
  rcases h.1.2 with h1 | ⟨g, cap, cur, h1, h2, h3, h4⟩
  · exact .inl h1
  · have hlt : g < w.heap.size := by
      rcases Nat.lt_or_ge g w.heap.size with h5 | h5
      · exact h5
      · rw [Array.getElem?_eq_none h5] at h3; cases h3
    exact .inr ⟨g, cap, cur, h1, h2, (hb.block g hlt).trans h3, h4⟩
theorem OwnA.alloc (h : OwnA w base e s k v bs) (o : Obj) : OwnA (w.alloc o) base e s k v bs := ⟨World.ownsRow.alloc h.1 o, h.2⟩
theorem OwnA.form (h : OwnA w base e s k v bs) : ∃ A c, v = .slice A bs.length c ∧ bs.length ≤ c ∧ c ≤ maxLen := by
  rcases h.1.2 with ⟨rfl, hn⟩ | ⟨g, cap, cur, rfl, _, _, h1, h2, _⟩
  · exact ⟨none, 0, by rw [hn], by omega, by simp [maxLen]⟩
  · exact ⟨_, _, rfl, h1, h2⟩
theorem OwnA.block_ge (h : OwnA w base e s k v bs) : ∀ g, v.ownBlock = some g → base ≤ g := by
  intro g hg
  rcases h.1.2 with ⟨rfl, _⟩ | ⟨g', cap, cur, rfl, hb, _⟩
  · simp [Value.ownBlock] at hg
  · simp [Value.ownBlock] at hg
    omega
theorem OwnA.below_ (h : OwnA w base e s k v bs) {w0 : World} (hb : Below base w0 w) (hbase : base ≤ w.heap.size) (hg : w.grownBy w' v.ownBlock) : Below base w0 w' :=
  hb.grown hg hbase (fun _ hk => h.block_ge _ hk)
theorem OwnA.rd {c : Nat} (h : OwnA w base e s k (.slice A n c) bs) (hn : bs.length = n) : RdA k s w w.heap.size A n bs := by
  subst hn
  refine ⟨rfl, h.2, fun hn => ?_⟩
  obtain ⟨g, cap, hv, _, hlt⟩ := h.1.form hn
  have hA : A = some ⟨g, 0, none⟩ := by injection hv
  subst hA
  refine ⟨g, 0, rfl, hlt, fun j u hu => ?_⟩
  have hc := h.1.cells (g := g) rfl j u hu
  rw [add_flat] at hc
  exact hc
theorem ownA_nil (w : World) (e : TypeId) (k : IntKind) (base s : Nat) : OwnA w base e s k (.slice none 0 0) [] := ⟨⟨by simp, .inl ⟨rfl, rfl⟩⟩, fun _ h => by cases h⟩
theorem OwnA.more {v' : Value} {x : List Int} (h : OwnA w base e s k v bs) (hx : x.length = s) (h2 : w'.ownsRow base e s v' (bs.length + 1) (bs.flatten.map (Value.int k) ++ x.map (Value.int k))) : OwnA w' base e s k v' (bs ++ [x]) := by
  refine ⟨?_, fun y hy => ?_⟩
  · rw [List.length_append, List.flatten_append, List.map_append]
    simpa using h2
  · rcases List.mem_append.1 hy with h3 | h3
    · exact h.2 y h3
    · rw [List.mem_singleton.1 h3]; exact hx
end

/-! ### the one array that is about to be appended -/
theorem fill_one (s : Nat) (hs : 0 < s) (xs cells : Array Value) (hx : xs.size = s) (hc : cells.size = s) : Instr.fill (fun i => some (i * s, s)) cells [(0, .agg xs)] = some xs := by
  obtain ⟨r, hr, hsz, hk⟩ := Great.fill_dense hs [.agg xs] 0 cells (fun v hv => by rw [List.mem_singleton.1 hv]; exact hx) (by simp [hc])
  rw [show ([Value.agg xs].zipIdx 0).map (fun x => (x.2, x.1)) = [(0, .agg xs)] from rfl] at hr
  rw [hr]
  congr 1
  apply Array.ext_getElem?
  intro k
  rw [hk k]
  by_cases h : k < s
  · rw [if_pos (by simp; exact h), Nat.div_eq_of_lt h, Nat.mod_eq_of_lt h]
    rfl
  · rw [if_neg (by simp; omega), Array.getElem?_eq_none (by omega), Array.getElem?_eq_none (by omega)]
theorem wpList_build_one {P : Program} {ops : Array Oper} {rest : List Oper} {o : Oper} {a : Act} {w : World} {Q : Exit → Act → World → Prop} (hg : o.guard = none) (t e : TypeId) (x : Operand) (ho : o.op = .buildSlice t 1 #[(0, x)])
    (ie : TypeInfo) (z : Value) (hu : P.underlying t = some (.slice e)) (hie : P.info? e = some ie) (hz : ie.zero = some z) (s : Nat) (hs : ie.size = s) (h0 : 0 < s) (h1 : s ≤ 65536)
    (xs : Array Value) (hx : a.eval x = .agg xs) (hxs : xs.size = s)
    (h : wpList P ops Q rest (a.put o.dst (.slice (some ⟨w.heap.size, 0, none⟩) 1 1)) (w.alloc (.cells xs e))) : wpList P ops Q (o :: rest) a w := by
  refine wpList_buildSlice hg t e 1 #[(0, x)] ho xs ie z hu hie hz (by rw [hs]; omega) (by rw [hs]; omega) ?_ h
  rw [hs]
  simp only [List.map_toArray, List.map_cons, List.map_nil, hx]
  exact fill_one s h0 xs _ hxs (by simp)

/-- A long array, loaded in a region that only reads. -/
theorem wpQuiet_load_mid {P : Program} {ops : Array Oper} {Q : Act → Prop} {a : Act} {o : Oper} {rest : List Oper} {w : World} (hgd : o.guard = none) (ty : TypeId) (x : Operand) (ho : o.op = .load ty x)
    (b off : Nat) (hx : a.eval x = .pointer (some ⟨b, off, none⟩)) (cs : List Value) (d : TypeDesc) (hc : w.rangeAt b off cs)
    (hu : P.underlying ty = some d) (hd : d.isRow = true) (hi : (P.info? ty).map (·.size) = some cs.length)
    (h : wpQuiet P ops (fun w' => ∃ n, w' = w.drewN n) Q rest (a.put o.dst (.agg cs.toArray))) : wpQuiet P ops (fun w' => ∃ n, w' = w.drewN n) Q (o :: rest) a := by
  refine wpQuiet_step fun K hK => ?_
  rw [if_pos (by simp [Region.wanted, hgd])]
  refine ⟨.agg cs.toArray, ?_, hK _ h⟩
  rintro w' ⟨n, rfl⟩
  unfold Oper.quietAt execOp
  simp only [ho, hx, Instr.loadAt, Instr.sureAddr, Sem.run_bind, Sem.run_pure, Result.andThen_ok, run_loadVar_mid (w.drewN n) b off ty cs d hc hu hd hi]
  exact ⟨rfl, rfl⟩

end Go.Proofs.YtepclbmcacdhlaaGreatDoor
/-
  make and copy, for slices of integers: a block that the call itself made, known whole as a list of numbers.
  Conditions: those that each theorem names.
-/
set_option maxRecDepth 100000
namespace Go.Proofs.YtepclbmcacdhlaaGreatDoor
open Go.ChangeShapes Go.WideShapes Go.ChangeAt Go.RowKit

def intsA (k : IntKind) (zs : List Int) : Array Value := (zs.map (Value.int k)).toArray
theorem intsA_size (k : IntKind) (zs : List Int) : (intsA k zs).size = zs.length := by simp [intsA]
theorem intsA_at (k : IntKind) (zs : List Int) (j : Nat) (hj : j < zs.length) : (intsA k zs)[j]? = some (.int k (zs.getD j 0)) := by simp [intsA, hj]
/-- The block g holds the numbers zs, and nothing else. -/
def BlkI (w : World) (g : Nat) (t : TypeId) (k : IntKind) (zs : List Int) : Prop := Blk w g t (intsA k zs)

theorem splice_map {α β : Type} (f : α → β) (L : List α) (off : Nat) (cs : List α) : splice (L.map f) off (cs.map f) = (splice L off cs).map f := by simp [splice]
theorem madeCells_same (v : Value) (m n : Nat) (hm : 0 < m) : madeCells (List.replicate m v).toArray n = (List.replicate n v).toArray := by
  unfold madeCells
  apply Array.ext
  · simp
  · intro i h1 h2
    have h3 : i % m < m := Nat.mod_lt _ hm
    simp [h3]

section
variable {w w' : World} {g B : Nat} {t : TypeId} {k : IntKind} {zs : List Int}
theorem BlkI.lt (h : BlkI w g t k zs) : g < w.heap.size := Blk.lt h
theorem BlkI.cell (h : BlkI w g t k zs) {j : Nat} (hj : j < zs.length) : w.cell? ⟨g, j, none⟩ = some (.int k (zs.getD j 0)) := by rw [Blk.cell h, intsA_at k zs j hj]
theorem BlkI.new (w : World) (t : TypeId) (k : IntKind) (zs : List Int) : BlkI (w.alloc (.cells (intsA k zs) t)) w.heap.size t k zs := Blk.new _ _ _
theorem BlkI.frozen (h : BlkI w g t k zs) (j : Nat) : w.frozen? ⟨g, j, none⟩ = false := Blk.frozen h j
theorem BlkI.set_ (h : BlkI w g t k zs) (j : Nat) (z : Int) : BlkI (w.setCell ⟨g, j, none⟩ (.int k z)) g t k (zs.set j z) := by
  have h1 := Blk.set_ h j (.int k z)
  unfold BlkI
  rw [show intsA k (zs.set j z) = (intsA k zs).setIfInBounds j (.int k z) by simp [intsA, List.map_set]]
  exact h1
theorem BlkI.drew (h : BlkI w g t k zs) : BlkI w.drew g t k zs := h
theorem BlkI.alloc (h : BlkI w g t k zs) (o : Obj) : BlkI (w.alloc o) g t k zs := Blk.alloc h o
theorem BlkI.below (h : BlkI w g t k zs) (hb : Below B w w') (hg : g < B) : BlkI w' g t k zs := Blk.below h hb hg
theorem BlkI.far (h : BlkI w g t k zs) {p : Addr} (hp : g ≠ p.block) (u : Value) : BlkI (w.setCell p u) g t k zs := Blk.far h hp u
theorem BlkI.other (h : BlkI w g t k zs) {r : Nat} (ho : ∀ j, j ≠ r → w'.heap[j]? = w.heap[j]?) (hg : g ≠ r) : BlkI w' g t k zs := (ho g hg).trans h
theorem BlkI.rdAt (h : BlkI w g t k zs) {off n : Nat} (hn : off + n ≤ zs.length) : Rd k w w.heap.size (some ⟨g, off, none⟩) n ((zs.drop off).take n) := by
  refine ⟨by rw [List.length_take, List.length_drop]; omega, fun _ => ⟨g, off, rfl, h.lt, fun j hj => ?_⟩⟩
  rw [h.cell (by omega)]
  congr 2
  simp only [List.getD_eq_getElem?_getD, List.getElem?_take, List.getElem?_drop]
  rw [if_pos hj]
theorem BlkI.rd (h : BlkI w g t k zs) : Rd k w w.heap.size (some ⟨g, 0, none⟩) zs.length zs := by
  have := h.rdAt (off := 0) (n := zs.length) (by omega)
  rwa [List.drop_zero, List.take_of_length_le (Nat.le_refl _)] at this
theorem BlkI.rdA (h : BlkI w g t k zs) {s : Nat} {bs : List (List Int)} (hz : zs = bs.flatten) (hs : ∀ x ∈ bs, x.length = s) : RdA k s w w.heap.size (some ⟨g, 0, none⟩) bs.length bs := by
  refine ⟨rfl, hs, fun _ => ⟨g, 0, rfl, h.lt, fun j u hu => ?_⟩⟩
  rw [Nat.zero_add, Blk.cell h, hz]
  simpa [intsA] using hu
end

section
variable {P : Program}
theorem run_make_ints (t e : TypeId) (i : TypeInfo) (k : IntKind) (ht : P.underlying t = some (.slice e)) (hi : P.info? e = some i) (hz : i.zero = some (.int k 0)) (hs : i.size = 1)
    (kl kc : IntKind) (n : Nat) (hb : i.bytes * n ≤ 281474976710656) (h63 : n ≤ 9223372036854775807) (w : World) :
    (Instr.makeSlice t (.int kl (n : Int)) (.int kc (n : Int))).run P w = .ok (.slice (some ⟨w.heap.size, 0, none⟩) n n) (w.alloc (.cells (intsA k (List.replicate n 0)) e)) := by
  have hb' : (i.bytes : Int) * (n : Int) ≤ 281474976710656 := by
    have h : ((i.bytes * n : Nat) : Int) ≤ 281474976710656 := by omega
    rwa [Int.natCast_mul] at h
  have hr := run_make (P := P) w t e i _ ht hi hz kl kc n n (by omega) (by omega) hb' (by omega)
  simp only [Int.toNat_natCast, hs, Nat.mul_one] at hr
  rw [hr, show madeCells (Value.int k 0).cells n = intsA k (List.replicate n 0) from ?_]
  have h1 := madeCells_same (.int k 0) 1 n (by omega)
  simpa [intsA, Value.cells] using h1
theorem run_make_arrs (t e : TypeId) (i : TypeInfo) (k : IntKind) (s : Nat) (hs0 : 0 < s) (ht : P.underlying t = some (.slice e)) (hi : P.info? e = some i) (hz : i.zero = some (.agg (List.replicate s (Value.int k 0)).toArray)) (hs : i.size = s)
    (kl kc : IntKind) (n : Nat) (hb : i.bytes * n ≤ 281474976710656) (h63 : n ≤ 9223372036854775807) (w : World) :
    (Instr.makeSlice t (.int kl (n : Int)) (.int kc (n : Int))).run P w = .ok (.slice (some ⟨w.heap.size, 0, none⟩) n n) (w.alloc (.cells (intsA k (List.replicate (n * s) 0)) e)) := by
  have hb' : (i.bytes : Int) * (n : Int) ≤ 281474976710656 := by
    have h : ((i.bytes * n : Nat) : Int) ≤ 281474976710656 := by omega
    rwa [Int.natCast_mul] at h
  have hr := run_make (P := P) w t e i _ ht hi hz kl kc n n (by omega) (by omega) hb' (by omega)
  simp only [Int.toNat_natCast, hs] at hr
  rw [hr, show madeCells (Value.agg (List.replicate s (Value.int k 0)).toArray).cells (n * s) = intsA k (List.replicate (n * s) 0) from ?_]
  have h1 := madeCells_same (.int k 0) s (n * s) hs0
  simpa [intsA, Value.cells] using h1

/-- Guards for an arm of a walk: only at an operation; only at the one that writes slot d. -/
theorem at_any {w : World} {ops : Array Oper} {rest : List Oper} {a : Act} {Q : Exit → Act → World → Prop} {o : Oper} (h : wpList P ops Q (o :: rest) a w) : wpList P ops Q (o :: rest) a w := h
theorem at_dst {w : World} {ops : Array Oper} {rest : List Oper} {a : Act} {Q : Exit → Act → World → Prop} {o : Oper} (d : Tmp) (_ : o.dst = some d) (h : wpList P ops Q (o :: rest) a w) : wpList P ops Q (o :: rest) a w := h
/-- Only at a store through slot d. -/
theorem at_store {w : World} {ops : Array Oper} {rest : List Oper} {a : Act} {Q : Exit → Act → World → Prop} {o : Oper} (d : Tmp) {t : TypeId} {x : Operand} (_ : o.op = .store t (.tmp d) x) (h : wpList P ops Q (o :: rest) a w) : wpList P ops Q (o :: rest) a w := h
/-- An operation whose value is known. -/
theorem wpList_val {w : World} {ops : Array Oper} {rest : List Oper} {o : Oper} {a : Act} {Q : Exit → Act → World → Prop} (hgd : o.guard = none) (v : Value) (hv : (execOp a.eval o).run P w = .ok (.value v) w)
    (h : wpList P ops Q rest (a.put o.dst v) w) : wpList P ops Q (o :: rest) a w := by
  refine wpList_plain hgd fun K hK => ?_
  unfold Oper.wp
  simp only [hv]
  exact hK _ _ h
theorem step_dst {w : World} {ops : Array Oper} {a : Act} {o : Oper} {K : Act → World → Prop} {Q : Exit → Act → World → Prop} {E : Prop} (d : Tmp) (_ : o.dst = some d)
    (h : if Region.wanted o (yielded ops a.tmps) = true then Oper.wp P o a w K Q else E) : if Region.wanted o (yielded ops a.tmps) = true then Oper.wp P o a w K Q else E := h
/-- copy onto a block that is known whole: n numbers go over. -/
theorem wpList_copy_ints {w : World} {ops : Array Oper} {rest : List Oper} {o : Oper} {a : Act} {Q : Exit → Act → World → Prop} (hgd : o.guard = none) (d s : Operand) (dT sT : TypeId)
    (ho : o.op = .call { callee := .builtin .copy, args := #[d, s], argTypes := #[dT, sT] }) (elem : TypeId) (hu : P.underlying dT = some (.slice elem)) (hsz : (P.info? elem).map (·.size) = some 1)
    (dp sp : Option Addr) (dLen dCap sLen sCap : Nat) (hd : a.eval d = .slice dp dLen dCap) (hs : a.eval s = .slice sp sLen sCap)
    (g off : Nat) (k : IntKind) (zs : List Int) (t : TypeId) (hg : BlkI w g t k zs) (n : Nat) (hn : n ≤ sLen ∧ n ≤ dLen ∧ (n = sLen ∨ n = dLen)) (B' : Nat) (ys : List Int) (hr : Rd k w B' sp n ys)
    (hdp : 0 < n → dp = some ⟨g, off, none⟩) (hfit : off + n ≤ zs.length) (B : Nat) (w0 : World) (hb : Below B w0 w) (hBg : B ≤ g)
    (h : ∀ w', Hid (BlkI w' g t k (splice zs off ys)) → Below B w0 w' → wpList P ops Q rest (a.put o.dst (.int .i64 (n : Int))) w') :
    wpList P ops Q (o :: rest) a w := by
  have hl := hr.len
  refine wpList_copy_splice hgd d s dT sT ho elem hu hsz dp sp dLen dCap sLen sCap hd hs g off (zs.map (Value.int k)) t hg (ys.map (Value.int k)) (show (ys.map (Value.int k)).length = min sLen dLen by rw [List.length_map, hl]; omega) ?_ (by simp [hl]; exact hfit) (ints_one k ys) B w0 hb hBg ?_
  · intro h0
    have h1 : 0 < n := by simpa [hl] using h0
    obtain ⟨b, o', e, _, _⟩ := hr.at_ h1
    subst e
    exact ⟨hdp h1, _, rfl, hr.news⟩
  · intro w' h1 h2
    have h3 := h w' (show _ from by rw [splice_map] at h1; exact h1) h2
    rwa [show goInt (ys.map (Value.int k)).length = Value.int .i64 (n : Int) by simp [goInt, hl]]
theorem step_copy_ints {ops : Array Oper} {o : Oper} {a : Act} {w : World} {K : Act → World → Prop} {Q : Exit → Act → World → Prop} {E : Prop} (hgd : o.guard = none) (d s : Operand) (dT sT : TypeId)
    (ho : o.op = .call { callee := .builtin .copy, args := #[d, s], argTypes := #[dT, sT] }) (elem : TypeId) (hu : P.underlying dT = some (.slice elem)) (hsz : (P.info? elem).map (·.size) = some 1)
    (dp sp : Option Addr) (dLen dCap sLen sCap : Nat) (hd : a.eval d = .slice dp dLen dCap) (hs : a.eval s = .slice sp sLen sCap)
    (g off : Nat) (k : IntKind) (zs : List Int) (t : TypeId) (hg : BlkI w g t k zs) (n : Nat) (hn : n ≤ sLen ∧ n ≤ dLen ∧ (n = sLen ∨ n = dLen)) (B' : Nat) (ys : List Int) (hr : Rd k w B' sp n ys)
    (hdp : 0 < n → dp = some ⟨g, off, none⟩) (hfit : off + n ≤ zs.length) (B : Nat) (w0 : World) (hb : Below B w0 w) (hBg : B ≤ g)
    (h : ∀ w', Hid (BlkI w' g t k (splice zs off ys)) → Below B w0 w' → K (a.put o.dst (.int .i64 (n : Int))) w') :
    if Region.wanted o (yielded ops a.tmps) = true then Oper.wp P o a w K Q else E := by
  have hl := hr.len
  refine step_copy_splice hgd d s dT sT ho elem hu hsz dp sp dLen dCap sLen sCap hd hs g off (zs.map (Value.int k)) t hg (ys.map (Value.int k)) (show (ys.map (Value.int k)).length = min sLen dLen by rw [List.length_map, hl]; omega) ?_ (by simp [hl]; exact hfit) (ints_one k ys) B w0 hb hBg ?_
  · intro h0
    have h1 : 0 < n := by simpa [hl] using h0
    obtain ⟨b, o', e, _, _⟩ := hr.at_ h1
    subst e
    exact ⟨hdp h1, _, rfl, hr.news⟩
  · intro w' h1 h2
    have h3 := h w' (show _ from by rw [splice_map] at h1; exact h1) h2
    rwa [show goInt (ys.map (Value.int k)).length = Value.int .i64 (n : Int) by simp [goInt, hl]]
end
end Go.Proofs.YtepclbmcacdhlaaGreatDoor
/-
  Arrays of integers in blocks of their own: boxed, allocated, loaded and stored whole, handed back as a result that lies in memory.
  Conditions: those that each theorem names.
-/
set_option maxRecDepth 100000
namespace Go.Proofs.YtepclbmcacdhlaaGreatDoor
open Go.ChangeShapes Go.WideShapes Go.ChangeAt Go.RowKit

section
variable {P : Program} {w : World} {ops : Array Oper} {rest : List Oper} {o : Oper} {a : Act} {Q : Exit → Act → World → Prop}
/-- A value boxed. -/
theorem wpList_box_ints (hgd : o.guard = none) (ty : TypeId) (x : Operand) (ho : o.op = .box ty x) (k : IntKind) (zs : List Int) (hx : a.eval x = .agg (intsA k zs))
    (h : ∀ w', Hid (BlkI w' w.heap.size ty k zs) → Hid (w'.heap.size = w.heap.size + 1) → Below w.heap.size w w' → wpList P ops Q rest (a.put o.dst (.pointer (some ⟨w.heap.size, 0, none⟩))) w') : wpList P ops Q (o :: rest) a w := by
  refine wpList_plain hgd fun K hK => ?_
  unfold Oper.wp execOp
  simp only [ho, hx, Instr.box, newVar, newRow, Value.cells]
  exact hK _ _ (h _ (BlkI.new w ty k zs) (show _ = _ by simp) ((Below.refl _ _).alloc (Nat.le_refl _) _))
/-- A new array. -/
theorem wpList_alloc_ints (hgd : o.guard = none) (ty : TypeId) (ho : o.op = .alloc ty) (k : IntKind) (zs : List Int) (hz : ∀ W, (zeroValue ty).run P W = .ok (.agg (intsA k zs)) W)
    (h : ∀ w', Hid (BlkI w' w.heap.size ty k zs) → Hid (w'.heap.size = w.heap.size + 1) → Below w.heap.size w w' → wpList P ops Q rest (a.put o.dst (.pointer (some ⟨w.heap.size, 0, none⟩))) w') : wpList P ops Q (o :: rest) a w := by
  refine wpList_plain hgd fun K hK => ?_
  unfold Oper.wp execOp
  simp only [ho, Instr.alloc, Sem.run_bind, hz, Result.andThen_ok, newVar, newRow, Value.cells]
  exact hK _ _ (h _ (BlkI.new w ty k _) (show _ = _ by simp) ((Below.refl _ _).alloc (Nat.le_refl _) _))
theorem blk_range {g : Nat} {t : TypeId} {k : IntKind} {zs : List Int} (h : BlkI w g t k zs) : w.rangeAt g 0 (zs.map (Value.int k)) := Blk.range h
/-- The whole array loaded. -/
theorem wpList_load_ints (hgd : o.guard = none) (ty : TypeId) (x : Operand) (ho : o.op = .load ty x) (g : Nat) (hx : a.eval x = .pointer (some ⟨g, 0, none⟩)) (t : TypeId) (k : IntKind) (zs : List Int) (hb : BlkI w g t k zs)
    (d : TypeDesc) (hu : P.underlying ty = some d) (hd : d.isRow = true) (hi : (P.info? ty).map (·.size) = some zs.length)
    (h : wpList P ops Q rest (a.put o.dst (.agg (intsA k zs))) w) : wpList P ops Q (o :: rest) a w :=
  wpList_load_mid hgd ty x ho g 0 hx (zs.map (Value.int k)) d (blk_range hb) hu hd (by rw [List.length_map]; exact hi) h
/-- The same behind a guard that holds. -/
theorem wpList_load_gd (hw : Region.wanted o (yielded ops a.tmps) = true) (ty : TypeId) (x : Operand) (ho : o.op = .load ty x) (g : Nat) (hx : a.eval x = .pointer (some ⟨g, 0, none⟩)) (t : TypeId) (k : IntKind) (zs : List Int) (hb : BlkI w g t k zs)
    (d : TypeDesc) (hu : P.underlying ty = some d) (hd : d.isRow = true) (hi : (P.info? ty).map (·.size) = some zs.length)
    (h : wpList P ops Q rest (a.put o.dst (.agg (intsA k zs))) w) : wpList P ops Q (o :: rest) a w :=
  wpList_step fun K hK => by
    rw [if_pos hw]
    exact wp_load_mid ty x ho g 0 hx (zs.map (Value.int k)) d (blk_range hb) hu hd (by rw [List.length_map]; exact hi) (hK _ _ h)
/-- The whole array stored. -/
theorem wpList_store_ints (hgd : o.guard = none) (ty : TypeId) (x y : Operand) (ho : o.op = .store ty x y) (g : Nat) (hx : a.eval x = .pointer (some ⟨g, 0, none⟩)) (t : TypeId) (k : IntKind) (zs ys : List Int) (hb : BlkI w g t k zs)
    (hy : a.eval y = .agg (intsA k ys)) (hl : zs.length = ys.length) (hi : (P.info? ty).map (·.size) = some ys.length)
    (h : ∀ w', Hid (BlkI w' g t k ys) → Hid (w'.heap.size = w.heap.size) → (∀ B, B ≤ g → Below B w w') → (∀ j, j ≠ g → w'.heap[j]? = w.heap[j]?) → wpList P ops Q rest (a.put o.dst undef) w') : wpList P ops Q (o :: rest) a w := by
  refine wpList_plain hgd fun K hK => ?_
  have hrun := run_storeVar_row (P := P) w g t ty (intsA k zs) (intsA k ys) hb (by rw [intsA_size]; exact hi) (by rw [intsA_size, intsA_size]; exact hl) (all_oneCell_toArray (ints_one k ys))
  unfold Oper.wp execOp
  simp only [ho, hx, hy, Instr.storeAt, Instr.sureAddr, Sem.run_bind, Sem.run_pure, Result.andThen_ok, hrun]
  exact hK _ _ (h _ (setRow_heap w g _ _ t _ hb) (show _ = _ by simp) (fun B hB => below_setRow (Below.refl _ _) hB _) (fun j hj => setRow_other w g j _ hj))
/-- What is handed back out of memory. -/
theorem bodyPost_cell {fn : Func} {R : Ending → World → Prop} (p : Tmp) (ty : TypeId) (h : fn.results = #[.cell p ty]) (g : Nat) (ht : a.tmps.getD p undef = .pointer (some ⟨g, 0, none⟩)) (t : TypeId) (k : IntKind) (zs : List Int) (hb : BlkI w g t k zs)
    (d : TypeDesc) (hu : P.underlying ty = some d) (hd : d.isRow = true) (hi : (P.info? ty).map (·.size) = some zs.length) (hdf : a.defers = []) (hR : R (.returned (.agg (intsA k zs))) w) : bodyPost P fn R .ret a w := by
  refine bodyPost_ret (v := .agg (intsA k zs)) ?_ hdf hR
  have hl := run_loadVar_mid (P := P) w g 0 ty (zs.map (Value.int k)) d (blk_range hb) hu hd (by rw [List.length_map]; exact hi)
  have ht' : a.tmps[p]?.getD undef = .pointer (some ⟨g, 0, none⟩) := by rw [← ht, Array.getD_eq_getD_getElem?]
  simp only [results, h]
  simp [ht', asAddr, hl, intsA]
end

/-! ### three blocks at a time -/
/-- The blocks g1, g2 and g3 hold these numbers; what lay there when the call came is as it was. -/
def In3 (w : World) (g1 g2 g3 : Nat) (t1 t2 t3 : TypeId) (k1 k2 k3 : IntKind) (l1 l2 l3 : List Int) (w' : World) : Prop :=
  BlkI w' g1 t1 k1 l1 ∧ BlkI w' g2 t2 k2 l2 ∧ BlkI w' g3 t3 k3 l3 ∧ Below w.heap.size w w' ∧ w.heap.size ≤ g3 ∧ g1 ≠ g3 ∧ g2 ≠ g3
section
variable {w w' w'' : World} {g1 g2 g3 : Nat} {t1 t2 t3 : TypeId} {k1 k2 k3 : IntKind} {l1 l2 l3 : List Int}
theorem In3.below (h : In3 w g1 g2 g3 t1 t2 t3 k1 k2 k3 l1 l2 l3 w') (hb : Below w'.heap.size w' w'') : In3 w g1 g2 g3 t1 t2 t3 k1 k2 k3 l1 l2 l3 w'' := by
  obtain ⟨h1, h2, h3, h4, h5, h6, h7⟩ := h
  exact ⟨h1.below hb h1.lt, h2.below hb h2.lt, h3.below hb h3.lt, h4.trans (hb.mono h4.size), h5, h6, h7⟩
theorem In3.set_ (h : In3 w g1 g2 g3 t1 t2 t3 k1 k2 k3 l1 l2 l3 w') (i : Nat) (z : Int) : In3 w g1 g2 g3 t1 t2 t3 k1 k2 k3 l1 l2 (l3.set i z) (w'.setCell ⟨g3, i, none⟩ (.int k3 z)) := by
  obtain ⟨h1, h2, h3, h4, h5, h6, h7⟩ := h
  exact ⟨h1.far h6 _, h2.far h7 _, h3.set_ i z, h4.setCell (p := ⟨g3, i, none⟩) h5 _, h5, h6, h7⟩
theorem In3.drew (h : In3 w g1 g2 g3 t1 t2 t3 k1 k2 k3 l1 l2 l3 w') : In3 w g1 g2 g3 t1 t2 t3 k1 k2 k3 l1 l2 l3 w'.drew := by
  obtain ⟨h1, h2, h3, h4, h5, h6, h7⟩ := h
  exact ⟨h1, h2, h3, h4.drew, h5, h6, h7⟩
theorem In3.fst (h : In3 w g1 g2 g3 t1 t2 t3 k1 k2 k3 l1 l2 l3 w') : BlkI w' g1 t1 k1 l1 := h.1
theorem In3.snd (h : In3 w g1 g2 g3 t1 t2 t3 k1 k2 k3 l1 l2 l3 w') : BlkI w' g2 t2 k2 l2 := h.2.1
theorem In3.trd (h : In3 w g1 g2 g3 t1 t2 t3 k1 k2 k3 l1 l2 l3 w') : BlkI w' g3 t3 k3 l3 := h.2.2.1
theorem In3.bel (h : In3 w g1 g2 g3 t1 t2 t3 k1 k2 k3 l1 l2 l3 w') : Below w.heap.size w w' := h.2.2.2.1
/-- With place i of the third written or not. -/
def In3W (w : World) (g1 g2 g3 : Nat) (t1 t2 t3 : TypeId) (k1 k2 k3 : IntKind) (l1 l2 l3 : List Int) (i : Nat) (w' : World) : Prop := ∃ u, In3 w g1 g2 g3 t1 t2 t3 k1 k2 k3 l1 l2 (l3.set i u) w'
theorem In3.open_ (h : In3 w g1 g2 g3 t1 t2 t3 k1 k2 k3 l1 l2 l3 w') {i : Nat} (hi : i < l3.length) : In3W w g1 g2 g3 t1 t2 t3 k1 k2 k3 l1 l2 l3 i w' := ⟨l3.getD i 0, by
  have e : l3.set i (l3.getD i 0) = l3 := by
    apply List.ext_getElem?
    intro j
    rw [List.getElem?_set]
    by_cases hj : i = j
    · subst hj; simp [hi]
    · simp [hj]
  rw [e]; exact h⟩
theorem In3W.below {i : Nat} (h : In3W w g1 g2 g3 t1 t2 t3 k1 k2 k3 l1 l2 l3 i w') (hb : Below w'.heap.size w' w'') : In3W w g1 g2 g3 t1 t2 t3 k1 k2 k3 l1 l2 l3 i w'' := by
  obtain ⟨u, hu⟩ := h
  exact ⟨u, hu.below hb⟩
theorem In3W.set_ {i : Nat} (h : In3W w g1 g2 g3 t1 t2 t3 k1 k2 k3 l1 l2 l3 i w') (z : Int) : In3 w g1 g2 g3 t1 t2 t3 k1 k2 k3 l1 l2 (l3.set i z) (w'.setCell ⟨g3, i, none⟩ (.int k3 z)) := by
  obtain ⟨u, hu⟩ := h
  have h1 := hu.set_ i z
  rwa [List.set_set] at h1
theorem In3W.again {i : Nat} (h : In3W w g1 g2 g3 t1 t2 t3 k1 k2 k3 l1 l2 l3 i w') (z : Int) : In3W w g1 g2 g3 t1 t2 t3 k1 k2 k3 l1 l2 l3 i (w'.setCell ⟨g3, i, none⟩ (.int k3 z)) := ⟨z, h.set_ z⟩
theorem In3W.cell1 {i j : Nat} (h : In3W w g1 g2 g3 t1 t2 t3 k1 k2 k3 l1 l2 l3 i w') (hj : j < l1.length) : w'.cell? ⟨g1, j, none⟩ = some (.int k1 (l1.getD j 0)) := by
  obtain ⟨u, hu⟩ := h
  exact hu.1.cell hj
theorem In3W.cell3 {i j : Nat} (h : In3W w g1 g2 g3 t1 t2 t3 k1 k2 k3 l1 l2 l3 i w') (hj : j < l3.length) (hij : j ≠ i) : w'.cell? ⟨g3, j, none⟩ = some (.int k3 (l3.getD j 0)) := by
  obtain ⟨u, hu⟩ := h
  have h1 := hu.2.2.1.cell (j := j) (by rw [List.length_set]; exact hj)
  rw [h1]
  congr 2
  simp [List.getD_eq_getElem?_getD, Ne.symm hij]
theorem In3W.at_ {i : Nat} (h : In3W w g1 g2 g3 t1 t2 t3 k1 k2 k3 l1 l2 l3 i w') (hi : i < l3.length) : (∃ u, w'.cell? ⟨g3, i, none⟩ = some (.int k3 u)) ∧ w'.frozen? ⟨g3, i, none⟩ = false := by
  obtain ⟨u, hu⟩ := h
  exact ⟨⟨_, hu.2.2.1.cell (j := i) (by rw [List.length_set]; exact hi)⟩, hu.2.2.1.frozen i⟩
end
end Go.Proofs.YtepclbmcacdhlaaGreatDoor
/-
  Steps by hand through a region that draws its order: a long array loaded, a value that is the same in every world that meets S, a call.
  Conditions: those that each theorem names.
-/
set_option maxRecDepth 100000
namespace Go.Proofs.YtepclbmcacdhlaaGreatDoor
open Go.ChangeShapes Go.WideShapes Go.ChangeAt Go.RowKit
section
variable {P : Program} {ops : Array Oper} {Q : Exit → Act → World → Prop} {md : Region.Mode} {S : World → Prop} {fuel : Nat} {listed : Array Bool} {a : Act} {w : World}
/-- A long array is loaded: taken first. -/
theorem held_load {oi : Oper} (i : Nat) (hi : ops[i]? = some oi) (hs : Region.noSelect ops = true) (hf : Region.free md ops listed i = true) (hr : (Region.ready md ops listed).contains i = true)
    (hQ2 : ∀ c a v w, Q (.panic c) (a.put oi.dst v) w → Q (.panic c) a w) (hw : Region.wanted oi (yielded ops a.tmps) = true)
    (ty : TypeId) (x : Operand) (ho : oi.op = .load ty x) (g : Nat) (hx : a.eval x = .pointer (some ⟨g, 0, none⟩)) (t : TypeId) (k : IntKind) (zs : List Int) (hS : ∀ w, S w → BlkI w g t k zs)
    (d : TypeDesc) (hu : P.underlying ty = some d) (hd : d.isRow = true) (hz : (P.info? ty).map (·.size) = some zs.length) (hSw : S w)
    (h : wpAnyH P md ops Q S fuel (listed.setIfInBounds i true) (a.put oi.dst (.agg (intsA k zs))) w) : wpAnyH P md ops Q S (fuel + 1) listed a w :=
  wpAnyH_take hi hs hf hr (fun c a w => hQ2 c a _ w) (yieldsIf_load_mid hw ty x ho g 0 hx (zs.map (Value.int k)) d (fun w h => blk_range (hS w h)) hu hd (by rw [List.length_map]; exact hz)) hSw h
/-- A value that is the same in every world that meets S: taken first. -/
theorem held_val {oi : Oper} (i : Nat) (hi : ops[i]? = some oi) (hs : Region.noSelect ops = true) (hf : Region.free md ops listed i = true) (hr : (Region.ready md ops listed).contains i = true)
    (hQ2 : ∀ c a v w, Q (.panic c) (a.put oi.dst v) w → Q (.panic c) a w) (hw : Region.wanted oi (yielded ops a.tmps) = true) (v : Value) (hv : ∀ w, S w → (execOp a.eval oi).run P w = .ok (.value v) w) (hSw : S w)
    (h : wpAnyH P md ops Q S fuel (listed.setIfInBounds i true) (a.put oi.dst v) w) : wpAnyH P md ops Q S (fuel + 1) listed a w :=
  wpAnyH_take hi hs hf hr (fun c a w => hQ2 c a _ w) (.inl ⟨hw, hv⟩) hSw h
/-- A whole array is stored, when nothing else may come up. -/
theorem held_store {oi : Oper} (i : Nat) (hi : ops[i]? = some oi) (hr : Region.ready md ops listed = [i]) (hw : Region.wanted oi (yielded ops a.tmps) = true)
    (ty : TypeId) (x y : Operand) (ho : oi.op = .store ty x y) (g : Nat) (hx : a.eval x = .pointer (some ⟨g, 0, none⟩)) (t : TypeId) (k : IntKind) (zs ys : List Int) (hb : BlkI w g t k zs)
    (hy : a.eval y = .agg (intsA k ys)) (hl : zs.length = ys.length) (hz : (P.info? ty).map (·.size) = some ys.length)
    (h : ∀ w', Hid (BlkI w' g t k ys) → (∀ B, B ≤ g → Below B w w') → (∀ j, j ≠ g → w'.heap[j]? = w.heap[j]?) → S w' ∧ wpAnyH P md ops Q S fuel (listed.setIfInBounds i true) (a.put oi.dst undef) w') : wpAnyH P md ops Q S (fuel + 1) listed a w := by
  refine wpAnyH_ready (rs := [i]) hr (by simp) (AllReadyH.cons hi (fun K hK => ?_) AllReadyH.nil)
  rw [if_pos hw]
  have hrun := run_storeVar_row (P := P) w g t ty (intsA k zs) (intsA k ys) hb (by rw [intsA_size]; exact hz) (by rw [intsA_size, intsA_size]; exact hl) (all_oneCell_toArray (ints_one k ys))
  unfold Oper.wp execOp
  simp only [ho, hx, hy, Instr.storeAt, Instr.sureAddr, Sem.run_bind, Sem.run_pure, Result.andThen_ok, hrun]
  obtain ⟨h1, h2⟩ := h _ (setRow_heap w g _ _ t _ hb) (fun B hB => below_setRow (Below.refl _ _) hB _) (fun j hj => setRow_other w g j _ hj)
  exact hK.out _ _ h1 (fun _ => h2)
/-- A whole array is loaded, where it comes up. -/
theorem step_load_ints {o : Oper} {K : Act → World → Prop} {E : Prop} (hw : Region.wanted o (yielded ops a.tmps) = true) (ty : TypeId) (x : Operand) (ho : o.op = .load ty x) (g : Nat) (hx : a.eval x = .pointer (some ⟨g, 0, none⟩)) (t : TypeId) (k : IntKind) (zs : List Int)
    (hb : BlkI w g t k zs) (d : TypeDesc) (hu : P.underlying ty = some d) (hd : d.isRow = true) (hz : (P.info? ty).map (·.size) = some zs.length) (h : K (a.put o.dst (.agg (intsA k zs))) w) :
    if Region.wanted o (yielded ops a.tmps) = true then Oper.wp P o a w K Q else E := by
  rw [if_pos hw]
  exact wp_load_mid ty x ho g 0 hx (zs.map (Value.int k)) d (blk_range hb) hu hd (by rw [List.length_map]; exact hz) h
end
end Go.Proofs.YtepclbmcacdhlaaGreatDoor
/-
  Rows of cells of any kind (structs) in memory: boxed, made, loaded, stored, handed back; the same inside a region that draws its order.
  Conditions: those that each theorem names.
-/
set_option maxRecDepth 100000
namespace Go.Proofs.YtepclbmcacdhlaaGreatDoor
open Go.ChangeShapes Go.WideShapes Go.ChangeAt Go.RowKit
/-- Each value takes one cell. -/
def Ones (cs : Array Value) : Prop := ∀ u ∈ cs.toList, u.oneCell' = true
theorem Ones.all {cs : Array Value} (h : Ones cs) : cs.all Value.oneCell' = true := by
  have := all_oneCell_toArray h
  simpa using this
section
variable {P : Program} {w w' : World} {ops : Array Oper} {rest : List Oper} {o : Oper} {a : Act} {Q : Exit → Act → World → Prop}
theorem Blk.other {g r : Nat} {t : TypeId} {cs : Array Value} (h : Blk w g t cs) (ho : ∀ j, j ≠ r → w'.heap[j]? = w.heap[j]?) (hg : g ≠ r) : Blk w' g t cs := (ho g hg).trans h
theorem wpList_box_any (hgd : o.guard = none) (ty : TypeId) (x : Operand) (ho : o.op = .box ty x) (cs : Array Value) (hx : a.eval x = .agg cs)
    (h : ∀ w', Hid (Blk w' w.heap.size ty cs) → Hid (w'.heap.size = w.heap.size + 1) → Below w.heap.size w w' → wpList P ops Q rest (a.put o.dst (.pointer (some ⟨w.heap.size, 0, none⟩))) w') : wpList P ops Q (o :: rest) a w := by
  refine wpList_plain hgd fun K hK => ?_
  unfold Oper.wp execOp
  simp only [ho, hx, Instr.box, newVar, newRow, Value.cells]
  exact hK _ _ (h _ (Blk.new w ty cs) (show _ = _ by simp) ((Below.refl _ _).alloc (Nat.le_refl _) _))
theorem wpList_alloc_any (hgd : o.guard = none) (ty : TypeId) (ho : o.op = .alloc ty) (cs : Array Value) (hz : ∀ W, (zeroValue ty).run P W = .ok (.agg cs) W)
    (h : ∀ w', Hid (Blk w' w.heap.size ty cs) → Hid (w'.heap.size = w.heap.size + 1) → Below w.heap.size w w' → wpList P ops Q rest (a.put o.dst (.pointer (some ⟨w.heap.size, 0, none⟩))) w') : wpList P ops Q (o :: rest) a w := by
  refine wpList_plain hgd fun K hK => ?_
  unfold Oper.wp execOp
  simp only [ho, Instr.alloc, Sem.run_bind, hz, Result.andThen_ok, newVar, newRow, Value.cells]
  exact hK _ _ (h _ (Blk.new w ty _) (show _ = _ by simp) ((Below.refl _ _).alloc (Nat.le_refl _) _))
theorem wpList_load_any (hgd : o.guard = none) (ty : TypeId) (x : Operand) (ho : o.op = .load ty x) (g off : Nat) (hx : a.eval x = .pointer (some ⟨g, off, none⟩)) (cs : List Value) (hb : w.rangeAt g off cs)
    (d : TypeDesc) (hu : P.underlying ty = some d) (hd : d.isRow = true) (hi : (P.info? ty).map (·.size) = some cs.length)
    (h : wpList P ops Q rest (a.put o.dst (.agg cs.toArray)) w) : wpList P ops Q (o :: rest) a w :=
  wpList_load_mid hgd ty x ho g off hx cs d hb hu hd hi h
theorem wpList_store_any (hgd : o.guard = none) (ty : TypeId) (x y : Operand) (ho : o.op = .store ty x y) (g : Nat) (hx : a.eval x = .pointer (some ⟨g, 0, none⟩)) (t : TypeId) (zs ys : Array Value) (hb : Blk w g t zs)
    (hy : a.eval y = .agg ys) (hl : zs.size = ys.size) (hi : (P.info? ty).map (·.size) = some ys.size) (h1 : ys.all (·.oneCell') = true)
    (h : ∀ w', Hid (Blk w' g t ys) → Hid (w'.heap.size = w.heap.size) → (∀ B, B ≤ g → Below B w w') → (∀ j, j ≠ g → w'.heap[j]? = w.heap[j]?) → wpList P ops Q rest (a.put o.dst undef) w') : wpList P ops Q (o :: rest) a w := by
  refine wpList_plain hgd fun K hK => ?_
  have hrun := run_storeVar_row (P := P) w g t ty zs ys hb hi hl h1
  unfold Oper.wp execOp
  simp only [ho, hx, hy, Instr.storeAt, Instr.sureAddr, Sem.run_bind, Sem.run_pure, Result.andThen_ok, hrun]
  exact hK _ _ (h _ (setRow_heap w g _ _ t _ hb) (show _ = _ by simp) (fun B hB => below_setRow (Below.refl _ _) hB _) (fun j hj => setRow_other w g j _ hj))
theorem bodyPost_any {fn : Func} {R : Ending → World → Prop} (p : Tmp) (ty : TypeId) (h : fn.results = #[.cell p ty]) (g : Nat) (ht : a.tmps.getD p undef = .pointer (some ⟨g, 0, none⟩)) (t : TypeId) (cs : Array Value) (hb : Blk w g t cs)
    (d : TypeDesc) (hu : P.underlying ty = some d) (hd : d.isRow = true) (hi : (P.info? ty).map (·.size) = some cs.size) (hdf : a.defers = []) (hR : R (.returned (.agg cs)) w) : bodyPost P fn R .ret a w := by
  refine bodyPost_ret (v := .agg cs) ?_ hdf hR
  have hl := run_loadVar_mid (P := P) w g 0 ty cs.toList d hb.range hu hd (by rw [Array.length_toList]; exact hi)
  have ht' : a.tmps[p]?.getD undef = .pointer (some ⟨g, 0, none⟩) := by rw [← ht, Array.getD_eq_getD_getElem?]
  simp only [results, h]
  simp [ht', asAddr, hl]
/-- A row out of memory, and a value beside it. -/
theorem bodyPost_any2 {fn : Func} {R : Ending → World → Prop} (p q : Tmp) (ty : TypeId) (h : fn.results = #[.cell p ty, .tmp q]) (g : Nat) (ht : a.tmps.getD p undef = .pointer (some ⟨g, 0, none⟩)) (v : Value) (hq : a.tmps.getD q undef = v) (t : TypeId) (cs : Array Value) (hb : Blk w g t cs)
    (d : TypeDesc) (hu : P.underlying ty = some d) (hd : d.isRow = true) (hi : (P.info? ty).map (·.size) = some cs.size) (hdf : a.defers = []) (hR : R (.returned (.tuple #[.agg cs, v])) w) : bodyPost P fn R .ret a w := by
  refine bodyPost_ret (v := .tuple #[.agg cs, v]) ?_ hdf hR
  have hl := run_loadVar_mid (P := P) w g 0 ty cs.toList d hb.range hu hd (by rw [Array.length_toList]; exact hi)
  have ht' : a.tmps[p]?.getD undef = .pointer (some ⟨g, 0, none⟩) := by rw [← ht, Array.getD_eq_getD_getElem?]
  have hq' : a.tmps[q]?.getD undef = v := by rw [← hq, Array.getD_eq_getD_getElem?]
  simp only [results, h]
  simp [ht', hq', asAddr, hl]
end
section
variable {P : Program} {ops : Array Oper} {Q : Exit → Act → World → Prop} {md : Region.Mode} {S : World → Prop} {fuel : Nat} {listed : Array Bool} {a : Act} {w : World}
/-- A row is loaded, wherever it lies: taken first. -/
theorem held_load_mid {oi : Oper} (i : Nat) (hi : ops[i]? = some oi) (hs : Region.noSelect ops = true) (hf : Region.free md ops listed i = true) (hr : (Region.ready md ops listed).contains i = true)
    (hQ2 : ∀ c a v w, Q (.panic c) (a.put oi.dst v) w → Q (.panic c) a w) (hw : Region.wanted oi (yielded ops a.tmps) = true)
    (ty : TypeId) (x : Operand) (ho : oi.op = .load ty x) (g off : Nat) (hx : a.eval x = .pointer (some ⟨g, off, none⟩)) (cs : List Value) (hS : ∀ w, S w → w.rangeAt g off cs)
    (d : TypeDesc) (hu : P.underlying ty = some d) (hd : d.isRow = true) (hz : (P.info? ty).map (·.size) = some cs.length) (hSw : S w)
    (h : wpAnyH P md ops Q S fuel (listed.setIfInBounds i true) (a.put oi.dst (.agg cs.toArray)) w) : wpAnyH P md ops Q S (fuel + 1) listed a w :=
  wpAnyH_take hi hs hf hr (fun c a w => hQ2 c a _ w) (yieldsIf_load_mid hw ty x ho g off hx cs d hS hu hd hz) hSw h
theorem held_store_any {oi : Oper} (i : Nat) (hi : ops[i]? = some oi) (hr : Region.ready md ops listed = [i]) (hw : Region.wanted oi (yielded ops a.tmps) = true)
    (ty : TypeId) (x y : Operand) (ho : oi.op = .store ty x y) (g : Nat) (hx : a.eval x = .pointer (some ⟨g, 0, none⟩)) (t : TypeId) (zs ys : Array Value) (hb : Blk w g t zs)
    (hy : a.eval y = .agg ys) (hl : zs.size = ys.size) (hz : (P.info? ty).map (·.size) = some ys.size) (h1 : ys.all (·.oneCell') = true)
    (h : ∀ w', Hid (Blk w' g t ys) → (∀ B, B ≤ g → Below B w w') → (∀ j, j ≠ g → w'.heap[j]? = w.heap[j]?) → S w' ∧ wpAnyH P md ops Q S fuel (listed.setIfInBounds i true) (a.put oi.dst undef) w') : wpAnyH P md ops Q S (fuel + 1) listed a w := by
  refine wpAnyH_ready (rs := [i]) hr (by simp) (AllReadyH.cons hi (fun K hK => ?_) AllReadyH.nil)
  rw [if_pos hw]
  have hrun := run_storeVar_row (P := P) w g t ty zs ys hb hz hl h1
  unfold Oper.wp execOp
  simp only [ho, hx, hy, Instr.storeAt, Instr.sureAddr, Sem.run_bind, Sem.run_pure, Result.andThen_ok, hrun]
  obtain ⟨h1, h2⟩ := h _ (setRow_heap w g _ _ t _ hb) (fun B hB => below_setRow (Below.refl _ _) hB _) (fun j hj => setRow_other w g j _ hj)
  exact hK.out _ _ h1 (fun _ => h2)
end
/-! ### loaded whole; reads beside a store elsewhere -/
section
variable {P : Program} {w w' : World} {ops : Array Oper} {rest : List Oper} {o : Oper} {a : Act} {Q : Exit → Act → World → Prop}
theorem wpList_load_blk (hgd : o.guard = none) (ty : TypeId) (x : Operand) (ho : o.op = .load ty x) (g : Nat) (hx : a.eval x = .pointer (some ⟨g, 0, none⟩)) (t : TypeId) (cs : Array Value) (hb : Blk w g t cs)
    (d : TypeDesc) (hu : P.underlying ty = some d) (hd : d.isRow = true) (hi : (P.info? ty).map (·.size) = some cs.size)
    (h : wpList P ops Q rest (a.put o.dst (.agg cs)) w) : wpList P ops Q (o :: rest) a w :=
  wpList_load_mid hgd ty x ho g 0 hx cs.toList d hb.range hu hd (by rw [Array.length_toList]; exact hi) (by rw [Array.toArray_toList]; exact h)
end
theorem Rd.other {k : IntKind} {w w' : World} {B n r : Nat} {A : Option Addr} {zs : List Int} (h : Rd k w B A n zs) (ho : ∀ j, j ≠ r → w'.heap[j]? = w.heap[j]?) (hne : ∀ b off, 0 < n → A = some ⟨b, off, none⟩ → b ≠ r) : Rd k w' B A n zs :=
  ⟨h.1, fun hn => by
    obtain ⟨b, off, e, hb, hc⟩ := h.2 hn
    refine ⟨b, off, e, hb, fun j hj => ?_⟩
    rw [← hc j hj]
    simp only [World.cell?, ho b (hne b off hn e)]⟩
end Go.Proofs.YtepclbmcacdhlaaGreatDoor
/-
  Steps by hand inside a region that draws its order; cells of a block set one by one; worlds that differ in one block alone.
  Conditions: those that each theorem names.
-/
set_option maxRecDepth 100000
set_option linter.unusedVariables false
set_option linter.unusedSimpArgs false
namespace Go.Proofs.YtepclbmcacdhlaaGreatDoor
open Go.ChangeShapes Go.WideShapes Go.ChangeAt Go.RowKit
section
variable {P : Program} {ops : Array Oper} {Q : Exit → Act → World → Prop} {md : Region.Mode} {S : World → Prop} {fuel : Nat} {listed : Array Bool} {a : Act} {w : World}
/-- A row is loaded whole: taken first. -/
theorem held_row {oi : Oper} (i : Nat) (d : Option Tmp) (hi : ops[i]? = some oi) (hd : oi.dst = d) (hs : Region.noSelect ops = true) (hf : Region.free md ops listed i = true) (hr : (Region.ready md ops listed).contains i = true)
    (hQ2 : ∀ c a v w, Q (.panic c) (a.put oi.dst v) w → Q (.panic c) a w) (hw : Region.wanted oi (yielded ops a.tmps) = true)
    (ty : TypeId) (x : Operand) (ho : oi.op = .load ty x) (g : Nat) (hx : a.eval x = .pointer (some ⟨g, 0, none⟩)) (t : TypeId) (cs : Array Value) (hS : ∀ w, S w → Blk w g t cs)
    (ds : TypeDesc) (hu : P.underlying ty = some ds) (hdr : ds.isRow = true) (hz : (P.info? ty).map (·.size) = some cs.size) (hSw : S w)
    (h : wpAnyH P md ops Q S fuel (listed.setIfInBounds i true) (a.put d (.agg cs)) w) : wpAnyH P md ops Q S (fuel + 1) listed a w :=
  held_load_mid i hi hs hf hr hQ2 hw ty x ho g 0 hx cs.toList (fun w h => (hS w h).range) ds hu hdr (by rw [Array.length_toList]; exact hz) hSw (by rw [Array.toArray_toList, hd]; exact h)
/-- An operation that is not wanted: taken first. -/
theorem held_not {oi : Oper} (i : Nat) (d : Option Tmp) (hi : ops[i]? = some oi) (hd : oi.dst = d) (hs : Region.noSelect ops = true) (hf : Region.free md ops listed i = true) (hr : (Region.ready md ops listed).contains i = true)
    (hQ2 : ∀ c a v w, Q (.panic c) (a.put oi.dst v) w → Q (.panic c) a w) (hw : Region.wanted oi (yielded ops a.tmps) = false) (hSw : S w)
    (h : wpAnyH P md ops Q S fuel (listed.setIfInBounds i true) (a.put d undef) w) : wpAnyH P md ops Q S (fuel + 1) listed a w :=
  wpAnyH_take hi hs hf hr (fun c a w => hQ2 c a _ w) (.inr ⟨hw, rfl⟩) hSw (by rw [hd]; exact h)
/-- A value that is the same in every world that meets S: taken first. -/
theorem held_v {oi : Oper} (i : Nat) (d : Option Tmp) (hi : ops[i]? = some oi) (hd : oi.dst = d) (hs : Region.noSelect ops = true) (hf : Region.free md ops listed i = true) (hr : (Region.ready md ops listed).contains i = true)
    (hQ2 : ∀ c a v w, Q (.panic c) (a.put oi.dst v) w → Q (.panic c) a w) (hw : Region.wanted oi (yielded ops a.tmps) = true) (v : Value) (hv : ∀ w, S w → (execOp a.eval oi).run P w = .ok (.value v) w) (hSw : S w)
    (h : wpAnyH P md ops Q S fuel (listed.setIfInBounds i true) (a.put d v) w) : wpAnyH P md ops Q S (fuel + 1) listed a w :=
  wpAnyH_take hi hs hf hr (fun c a w => hQ2 c a _ w) (.inl ⟨hw, hv⟩) hSw (by rw [hd]; exact h)
/-- A new row, where it comes up. -/
theorem step_alloc {o : Oper} {K : Act → World → Prop} {E : Prop} (d : Option Tmp) (hd : o.dst = d) (hw : Region.wanted o (yielded ops a.tmps) = true) (ty : TypeId) (ho : o.op = .alloc ty) (cs : Array Value) (hz : ∀ W, (zeroValue ty).run P W = .ok (.agg cs) W)
    (h : ∀ w', Hid (Blk w' w.heap.size ty cs) → Hid (w'.heap.size = w.heap.size + 1) → Below w.heap.size w w' → K (a.put d (.pointer (some ⟨w.heap.size, 0, none⟩))) w') :
    if Region.wanted o (yielded ops a.tmps) = true then Oper.wp P o a w K Q else E := by
  subst hd
  rw [if_pos hw]
  unfold Oper.wp execOp
  simp only [ho, Instr.alloc, Sem.run_bind, hz, Result.andThen_ok, newVar, newRow, Value.cells]
  exact h _ (Blk.new w ty _) (show _ = _ by simp) ((Below.refl _ _).alloc (Nat.le_refl _) _)
/-- A row is stored whole, where it comes up. -/
theorem step_store {o : Oper} {K : Act → World → Prop} {E : Prop} (d : Option Tmp) (hd : o.dst = d) (hw : Region.wanted o (yielded ops a.tmps) = true) (ty : TypeId) (x y : Operand) (ho : o.op = .store ty x y) (g : Nat) (hx : a.eval x = .pointer (some ⟨g, 0, none⟩)) (t : TypeId) (zs ys : Array Value) (hb : Blk w g t zs)
    (hy : a.eval y = .agg ys) (hl : zs.size = ys.size) (hz : (P.info? ty).map (·.size) = some ys.size) (h1 : ys.all (·.oneCell') = true)
    (h : ∀ w', Hid (Blk w' g t ys) → Hid (w'.heap.size = w.heap.size) → (∀ B, B ≤ g → Below B w w') → (∀ j, j ≠ g → w'.heap[j]? = w.heap[j]?) → K (a.put d undef) w') :
    if Region.wanted o (yielded ops a.tmps) = true then Oper.wp P o a w K Q else E := by
  subst hd
  rw [if_pos hw]
  have hrun := run_storeVar_row (P := P) w g t ty zs ys hb hz hl h1
  unfold Oper.wp execOp
  simp only [ho, hx, hy, Instr.storeAt, Instr.sureAddr, Sem.run_bind, Sem.run_pure, Result.andThen_ok, hrun]
  exact h _ (setRow_heap w g _ _ t _ hb) (show _ = _ by simp) (fun B hB => below_setRow (Below.refl _ _) hB _) (fun j hj => setRow_other w g j _ hj)
/-- A call, where it comes up. -/
theorem step_call {o : Oper} {K : Act → World → Prop} {E : Prop} (d : Option Tmp) (hd : o.dst = d) (hw : Region.wanted o (yielded ops a.tmps) = true) (f : FuncId) (vs : Array Value) (he : (execOp a.eval o).run P w = .ok (.enter f vs) w) (R : Ending → World → Prop) (hc : Calls P f vs w R)
    (h : ∀ e w', R e w' → ∃ v, e = .returned v ∧ K (a.put d v) w') : if Region.wanted o (yielded ops a.tmps) = true then Oper.wp P o a w K Q else E := by
  subst hd
  rw [if_pos hw]
  unfold Oper.wp
  rw [he, Oper.upon_enter]
  exact hc.mono fun e w' hr => by
    obtain ⟨v, rfl, hk⟩ := h e w' hr
    exact hk
/-- An operation that is not wanted, where it comes up. -/
theorem step_not {o : Oper} {K : Act → World → Prop} {W : Prop} (d : Option Tmp) (hd : o.dst = d) (hw : Region.wanted o (yielded ops a.tmps) = false) (h : K (a.put d undef) w) : if Region.wanted o (yielded ops a.tmps) = true then W else K (a.put o.dst undef) w := by
  subst hd
  rw [if_neg (by rw [hw]; decide)]
  exact h
end
/-! ### cells set one by one -/
def putAll (cs : Array Value) (o : Nat) : List Value → Array Value
  | [] => cs
  | v :: vs => putAll (cs.setIfInBounds o v) (o + 1) vs
theorem Blk.setCells {g : Nat} {t : TypeId} : ∀ (vs : List Value) (o : Nat) {w : World} {cs : Array Value}, Blk w g t cs → Blk (w.setCells g o vs) g t (putAll cs o vs)
  | [], _, _, _, h => h
  | v :: vs, o, w, cs, h => by
    rw [World.setCells]
    exact Blk.setCells vs (o + 1) (h.set_ o v)
/-- Nothing but the block g has changed; more may have come. -/
structure Only (g : Nat) (w w' : World) : Prop where
  os : w'.os = w.os
  tape : w'.tape = w.tape
  output : w'.output = w.output
  size : w.heap.size ≤ w'.heap.size
  block : ∀ j, j < w.heap.size → j ≠ g → w'.heap[j]? = w.heap[j]?
theorem Only.refl (g : Nat) (w : World) : Only g w w := ⟨rfl, rfl, rfl, Nat.le_refl _, fun _ _ _ => rfl⟩
theorem Only.trans {g : Nat} {a b c : World} (h : Only g a b) (h' : Only g b c) : Only g a c :=
  ⟨h'.os.trans h.os, h'.tape.trans h.tape, h'.output.trans h.output, Nat.le_trans h.size h'.size, fun j hj hne => (h'.block j (Nat.lt_of_lt_of_le hj h.size) hne).trans (h.block j hj hne)⟩
theorem Only.of_below {g : Nat} {w w' : World} (h : Below w.heap.size w w') : Only g w w' := ⟨h.os, h.tape, h.output, h.size, fun j hj _ => h.block j hj⟩
theorem Only.below {g B : Nat} {w w' : World} (h : Only g w w') (hg : B ≤ g) (hB : B ≤ w.heap.size) : Below B w w' := ⟨h.os, h.tape, h.output, h.size, fun j hj => h.block j (by omega) (by omega)⟩
theorem Only.drew {g : Nat} {w w' : World} (h : Only g w w') : Only g w w'.drew := ⟨h.os, h.tape, h.output, h.size, h.block⟩
theorem Only.of_drew {g : Nat} {w w' : World} (h : Only g w.drew w') : Only g w w' := ⟨h.os, h.tape, h.output, h.size, h.block⟩
theorem Only.setCell (g o : Nat) (w : World) (v : Value) : Only g w (w.setCell ⟨g, o, none⟩ v) :=
  ⟨rfl, rfl, rfl, by simp [World.setCell], fun j _ hne => Below.heap_setCell w ⟨g, o, none⟩ v j hne⟩
theorem Only.setCells (g : Nat) : ∀ (vs : List Value) (o : Nat) (w : World), Only g w (w.setCells g o vs)
  | [], _, w => Only.refl g w
  | v :: vs, o, w => by
    rw [World.setCells]
    exact (Only.setCell g o w v).trans (Only.setCells g vs (o + 1) _)
theorem Blk.there {w : World} {g : Nat} {t : TypeId} {cs : Array Value} (h : Blk w g t cs) (o n : Nat) (hn : o + n ≤ cs.size) : w.there g o n := fun j hj => ⟨by
  rw [h.cell, Array.getElem?_eq_getElem (by omega)]; rfl, h.frozen _⟩
theorem Blk.only {w w' : World} {g r : Nat} {t : TypeId} {cs : Array Value} (h : Blk w r t cs) (ho : Only g w w') (hne : r ≠ g) : Blk w' r t cs := (ho.block r h.lt hne).trans h
/-- A row of the call's own lies apart from a block of other things. -/
theorem OwnI.only {w w' : World} {base g : Nat} {e t : TypeId} {k : IntKind} {v : Value} {zs : List Int} {cs : Array Value} (h : OwnI w base e k v zs) (hb : Blk w g t cs) (hne : e ≠ t) (ho : Only g w w') : OwnI w' base e k v zs := by
  refine ⟨h.1, ?_⟩
  rcases h.2 with h1 | ⟨g', cap, cur, h1, h2, h3, h4⟩
  · exact .inl h1
  · have hlt : g' < w.heap.size := by
      rcases Nat.lt_or_ge g' w.heap.size with h5 | h5
      · exact h5
      · rw [Array.getElem?_eq_none h5] at h3; cases h3
    have hg : g' ≠ g := by
      rintro rfl
      unfold Blk at hb
      rw [h3] at hb
      injection hb with hb
      injection hb with _ h5
      exact hne h5
    exact .inr ⟨g', cap, cur, h1, h2, (ho.block g' hlt hg).trans h3, h4⟩
/-- A part of a block that is not of the same kind, read as numbers, stays. -/
theorem RdA.only {w w' : World} {k : IntKind} {s n g : Nat} {A : Option Addr} {bs : List (List Int)} (h : RdA k s w g A n bs) (hg : g ≤ w.heap.size) (ho : Only g w w') : RdA k s w' g A n bs := h.below (ho.below (Nat.le_refl _) hg)
section
variable {P : Program} {w w' : World} {ops : Array Oper} {rest : List Oper} {o : Oper} {a : Act} {Q : Exit → Act → World → Prop}
/-- A part of a block is stored, where it comes up. -/
theorem step_store_at {K : Act → World → Prop} {E : Prop} (d : Option Tmp) (hd : o.dst = d) (hw : Region.wanted o (yielded ops a.tmps) = true) (ty : TypeId) (x y : Operand) (ho : o.op = .store ty x y) (g : Nat) (hx : a.eval x = .pointer (some ⟨g, 0, none⟩)) (t : TypeId) (cs ys : Array Value) (hb : Blk w g t cs)
    (hy : a.eval y = .agg ys) (hl : ys.size ≤ cs.size) (hz : (P.info? ty).map (·.size) = some ys.size) (h1 : ys.all (·.oneCell') = true)
    (h : ∀ w', Hid (Blk w' g t (putAll cs 0 ys.toList)) → Only g w w' → K (a.put d undef) w') :
    if Region.wanted o (yielded ops a.tmps) = true then Oper.wp P o a w K Q else E := by
  subst hd
  rw [if_pos hw]
  exact wp_store_mid ty x y ho g 0 ys hx hy (hb.there 0 ys.size (by omega)) hz h1 (h _ (Blk.setCells _ _ hb) (Only.setCells g _ _ _))
/-- A row is loaded, wherever it lies, where it comes up. -/
theorem step_load_at {K : Act → World → Prop} {E : Prop} (d : Option Tmp) (hd : o.dst = d) (hw : Region.wanted o (yielded ops a.tmps) = true) (ty : TypeId) (x : Operand) (ho : o.op = .load ty x) (g off : Nat) (hx : a.eval x = .pointer (some ⟨g, off, none⟩)) (cs : List Value) (hb : w.rangeAt g off cs)
    (ds : TypeDesc) (hu : P.underlying ty = some ds) (hdr : ds.isRow = true) (hz : (P.info? ty).map (·.size) = some cs.length) (h : K (a.put d (.agg cs.toArray)) w) :
    if Region.wanted o (yielded ops a.tmps) = true then Oper.wp P o a w K Q else E := by
  subst hd
  rw [if_pos hw]
  exact wp_load_mid ty x ho g off hx cs ds hb hu hdr hz h
/-- A cell is loaded, where it comes up. -/
theorem step_v {K : Act → World → Prop} {E : Prop} (d : Option Tmp) (hd : o.dst = d) (hw : Region.wanted o (yielded ops a.tmps) = true) (v : Value) (hv : (execOp a.eval o).run P w = .ok (.value v) w) (h : K (a.put d v) w) :
    if Region.wanted o (yielded ops a.tmps) = true then Oper.wp P o a w K Q else E := by
  subst hd
  rw [if_pos hw]
  unfold Oper.wp
  simp only [hv]
  exact h
theorem run_storeVar_cell (b off : Nat) (ty : TypeId) (v : Value) (ht : w.there b off 1) (hi : (P.info? ty).map (·.size) = some 1) (h1 : v.cells = #[v]) (h2 : v.oneCell' = true) : (storeVar ty ⟨b, off, none⟩ v).run P w = .ok () (w.setCell ⟨b, off, none⟩ v) := by
  have := run_storeCells_cells (P := P) b off [v] 0 w (fun j hj => by simpa using (ht j (by simpa using hj)).1) (fun j hj => by simpa using (ht j (by simpa using hj)).2)
    (fun u hu => by rw [List.mem_singleton.1 hu]; exact h2)
  cases hq : P.info? ty with
  | none => simp [hq] at hi
  | some i =>
    have hs : i.size = 1 := by simpa [hq] using hi
    simp only [Nat.add_zero, World.setCells] at this
    simp [storeVar, sizeOf, typeInfo, hq, h1, hs, this]
/-- One cell of a block is stored, where it comes up. -/
theorem step_store_cell {K : Act → World → Prop} {E : Prop} (d : Option Tmp) (hd : o.dst = d) (hw : Region.wanted o (yielded ops a.tmps) = true) (ty : TypeId) (x y : Operand) (ho : o.op = .store ty x y) (g off : Nat) (hx : a.eval x = .pointer (some ⟨g, off, none⟩)) (t : TypeId) (cs : Array Value) (hb : Blk w g t cs)
    (v : Value) (hy : a.eval y = v) (hl : off < cs.size) (hz : (P.info? ty).map (·.size) = some 1) (h1 : v.cells = #[v]) (h2 : v.oneCell' = true)
    (h : ∀ w', Hid (Blk w' g t (cs.setIfInBounds off v)) → Only g w w' → K (a.put d undef) w') :
    if Region.wanted o (yielded ops a.tmps) = true then Oper.wp P o a w K Q else E := by
  subst hd
  rw [if_pos hw]
  have hrun := run_storeVar_cell (P := P) (w := w) g off ty v (hb.there off 1 (by omega)) hz h1 h2
  unfold Oper.wp execOp
  simp only [ho, hx, hy, Instr.storeAt, Instr.sureAddr, Sem.run_bind, Sem.run_pure, Result.andThen_ok, hrun]
  exact h _ (hb.set_ off v) (Only.setCell g off w v)
/-- The same, in a plain region. -/
theorem wpList_store_cell (hgd : o.guard = none) (ty : TypeId) (x y : Operand) (ho : o.op = .store ty x y) (g off : Nat) (hx : a.eval x = .pointer (some ⟨g, off, none⟩)) (t : TypeId) (cs : Array Value) (hb : Blk w g t cs)
    (v : Value) (hy : a.eval y = v) (hl : off < cs.size) (hz : (P.info? ty).map (·.size) = some 1) (h1 : v.cells = #[v]) (h2 : v.oneCell' = true)
    (h : ∀ w', Hid (Blk w' g t (cs.setIfInBounds off v)) → Only g w w' → wpList P ops Q rest (a.put o.dst undef) w') : wpList P ops Q (o :: rest) a w := by
  refine wpList_plain hgd fun K hK => ?_
  have hrun := run_storeVar_cell (P := P) (w := w) g off ty v (hb.there off 1 (by omega)) hz h1 h2
  unfold Oper.wp execOp
  simp only [ho, hx, hy, Instr.storeAt, Instr.sureAddr, Sem.run_bind, Sem.run_pure, Result.andThen_ok, hrun]
  exact hK _ _ (h _ (hb.set_ off v) (Only.setCell g off w v))
end
/-! ### rows of the call's own, out of blocks that are known whole -/
theorem OwnI.of_blk {w : World} {g base c : Nat} {e : TypeId} {k : IntKind} {zs cs : List Int} (h : BlkI w g e k cs) (hb : base ≤ g) (hn : zs.length ≤ c) (hc : c ≤ maxLen) (hs : cs.length = c) (hp : cs.take zs.length = zs) : OwnI w base e k (.slice (some ⟨g, 0, none⟩) zs.length c) zs :=
  ⟨by simp, .inr ⟨g, c, intsA k cs, rfl, hb, h, hn, hc, by rw [intsA_size, hs]; simp, by simp [intsA, ← List.map_take, hp]⟩⟩
theorem OwnI.zero {w : World} {base n c : Nat} {e : TypeId} {k : IntKind} {A : Option Addr} {zs : List Int} (h : OwnI w base e k (.slice A n c) zs) (hn : 0 < zs.length) : OwnI w base e k (.slice A 0 c) [] := by
  rcases h.2 with ⟨h1, h2⟩ | ⟨g, cap, cur, h1, h2, h3, h4, h5, h6, h7⟩
  · omega
  · injection h1 with e1 e2 e3
    subst e1 e3
    exact ⟨rfl, .inr ⟨g, c, cur, rfl, h2, h3, Nat.zero_le _, h5, h6, by simp⟩⟩
theorem run_make_cap {P : Program} (t e : TypeId) (i : TypeInfo) (k : IntKind) (ht : P.underlying t = some (.slice e)) (hi : P.info? e = some i) (hz : i.zero = some (.int k 0)) (hs : i.size = 1) (hby : i.bytes = 1) (n m : Nat) (hnm : n ≤ m) (hm : m ≤ 1000000) (w : World) :
    (Instr.makeSlice t (.int .i64 (n : Int)) (.int .i64 (m : Int))).run P w = .ok (.slice (some ⟨w.heap.size, 0, none⟩) n m) (w.alloc (.cells (intsA k (List.replicate m 0)) e)) := by
  have hr := run_make (P := P) w t e i _ ht hi hz .i64 .i64 n m (by omega) (by omega) (by rw [hby]; omega) (by omega)
  simp only [Int.toNat_natCast, hs, Nat.mul_one] at hr
  rw [hr, show madeCells (Value.int k 0).cells m = intsA k (List.replicate m 0) from ?_]
  have h1 := madeCells_same (.int k 0) 1 m (by omega)
  simpa [intsA, Value.cells] using h1
section
variable {P : Program} {ops : Array Oper} {Q : Exit → Act → World → Prop} {md : Region.Mode} {S : World → Prop} {fuel : Nat} {listed : Array Bool} {a : Act} {w : World}
/-- A row is loaded, wherever it lies: taken first. -/
theorem held_load_at {oi : Oper} (i : Nat) (d : Option Tmp) (hi : ops[i]? = some oi) (hd : oi.dst = d) (hs : Region.noSelect ops = true) (hf : Region.free md ops listed i = true) (hr : (Region.ready md ops listed).contains i = true)
    (hQ2 : ∀ c a v w, Q (.panic c) (a.put oi.dst v) w → Q (.panic c) a w) (hw : Region.wanted oi (yielded ops a.tmps) = true)
    (ty : TypeId) (x : Operand) (ho : oi.op = .load ty x) (g off : Nat) (hx : a.eval x = .pointer (some ⟨g, off, none⟩)) (cs : List Value) (hS : ∀ w, S w → w.rangeAt g off cs)
    (ds : TypeDesc) (hu : P.underlying ty = some ds) (hdr : ds.isRow = true) (hz : (P.info? ty).map (·.size) = some cs.length) (hSw : S w)
    (h : wpAnyH P md ops Q S fuel (listed.setIfInBounds i true) (a.put d (.agg cs.toArray)) w) : wpAnyH P md ops Q S (fuel + 1) listed a w :=
  held_load_mid i hi hs hf hr hQ2 hw ty x ho g off hx cs hS ds hu hdr hz hSw (by rw [hd]; exact h)
end
theorem step_append_d {P : Program} (w : World) {ops : Array Oper} {o : Oper} {a : Act} {K : Act → World → Prop} {Q : Exit → Act → World → Prop} {E : Prop} (d : Option Tmp) (hd : o.dst = d) (hgd : o.guard = none) (s x : Operand) (t : TypeId)
    (ho : o.op = .call { callee := .builtin .append, args := #[s, x], argTypes := #[t, t] })
    (base : Nat) (e : TypeId) (i : TypeInfo) (z : Value) (bytes : Nat) (k : IntKind) (ht : P.underlying t = some (.slice e)) (hi : P.info? e = some i) (hz : i.zero = some z)
    (hsize : i.size = 1) (hby : i.bytes = bytes) (hzs : z.cells.size = 1) (v : Value) (zs : List Int) (hs : a.eval s = v) (hown : OwnI w base e k v zs)
    (B : Nat) (A : Option Addr) (m c : Nat) (ys : List Int) (hx : a.eval x = .slice A m c) (hr : Rd k w B A m ys)
    (h63 : zs.length + m ≤ maxLen) (hbytes : (zs.length + m) * bytes ≤ 140737488355328) (hbase : base ≤ w.heap.size)
    (h : ∀ v' w', OwnI w' base e k v' (zs ++ ys) → w.grownBy w' v.ownBlock → (v'.ownBlock = v.ownBlock ∨ v'.ownBlock = some w.heap.size) → K (a.put d v') w') :
    if Region.wanted o (yielded ops a.tmps) = true then Oper.wp P o a w K Q else E := by
  subst hd
  exact step_append_ints w hgd s x t ho base e i z bytes k ht hi hz hsize hby hzs v zs hs hown B A m c ys hx hr h63 hbytes hbase h
section
variable {P : Program} {ops : Array Oper} {Q : Exit → Act → World → Prop} {md : Region.Mode} {S : World → Prop} {fuel : Nat} {listed : Array Bool} {a : Act} {w : World}
/-- What comes behind the region is kept under a letter meanwhile. -/
theorem wpAnyH_letter (L : Array Bool) (hL : listed = L) (hQ : ∀ c a d v w, Q (.panic c) (Act.put a d v) w → Q (.panic c) a w)
    (h : ∀ Q' : Exit → Act → World → Prop, Hid (∀ a w, Q .normal a w → Q' .normal a w) → Hid (∀ c a d v w, Q' (.panic c) (Act.put a d v) w → Q' (.panic c) a w) → wpAnyH P md ops Q' S fuel L a w) : wpAnyH P md ops Q S fuel listed a w := by
  subst hL
  exact h Q (fun _ _ h => h) hQ
end
/-- A cell of a row of the call's own is stored. -/
theorem OwnI.put {w w' : World} {base g c n j : Nat} {e : TypeId} {k : IntKind} {z : Int} {zs : List Int} {cur : Array Value} (h : OwnI w base e k (.slice (some ⟨g, 0, none⟩) n c) zs) (hb : Blk w g e cur) (hj : j < zs.length) (hk : Blk w' g e (cur.setIfInBounds j (.int k z))) : OwnI w' base e k (.slice (some ⟨g, 0, none⟩) n c) (zs.set j z) := by
  refine ⟨by simp, ?_⟩
  rcases h.2 with ⟨h1, _⟩ | ⟨g', cap, cur', h1, h2, h3, h4, h5, h6, h7⟩
  · cases h1
  · injection h1 with e1 e2 e3
    injection e1 with e1
    injection e1 with e1 e4
    subst e1 e2 e3
    unfold Blk at hb
    rw [h3] at hb
    injection hb with hb
    injection hb with hb _
    subst hb
    refine .inr ⟨g, c, _, by rw [List.length_set], h2, hk, by rw [List.length_set]; exact h4, h5, by rw [Array.size_setIfInBounds]; exact h6, ?_⟩
    rw [Nat.mul_one] at h7 ⊢
    rw [Array.toList_setIfInBounds, List.length_set, List.take_set, h7, List.map_set]
/-- Its block, known whole. -/
theorem OwnI.whole {w : World} {base n c : Nat} {e : TypeId} {k : IntKind} {A : Option Addr} {zs : List Int} (h : OwnI w base e k (.slice A n c) zs) (hn : 0 < zs.length) : ∃ g cur, A = some ⟨g, 0, none⟩ ∧ base ≤ g ∧ Blk w g e cur ∧ zs.length ≤ cur.size ∧ ∀ j, j < zs.length → cur[j]? = some (.int k (zs.getD j 0)) := by
  rcases h.2 with ⟨h1, h2⟩ | ⟨g, cap, cur, h1, h2, h3, h4, h5, h6, h7⟩
  · omega
  · injection h1 with e1 e2 e3
    rw [Nat.mul_one] at h7
    refine ⟨g, cur, e1, h2, h3, by rw [h6]; omega, fun j hj => ?_⟩
    have h8 : (cur.toList.take zs.length)[j]? = (zs.map (Value.int k))[j]? := by rw [h7]
    rw [List.getElem?_take, if_pos hj, List.getElem?_map, List.getElem?_eq_getElem hj] at h8
    rw [← Array.getElem?_toList, h8, List.getD_eq_getElem?_getD, List.getElem?_eq_getElem hj]
    rfl
end Go.Proofs.YtepclbmcacdhlaaGreatDoor
/-
  Sums, differences and products below 2^63 in plain Lean.
  Conditions: those that each theorem names.
-/
set_option maxRecDepth 100000
set_option linter.unusedVariables false
set_option linter.unusedSimpArgs false
namespace Go.Proofs.YtepclbmcacdhlaaGreatDoor
def addO (a b : Int) : Bool := decide (a + b < 9223372036854775808)
def addV (a b : Int) : Int := if a + b < 9223372036854775808 then a + b else 0
def subO (a b : Int) : Bool := decide (b ≤ a ∧ a - b < 9223372036854775808)
def subV (a b : Int) : Int := if b ≤ a ∧ a - b < 9223372036854775808 then a - b else 0
def mulO (a b : Int) : Bool := decide (a * b < 9223372036854775808)
def mulV (a b : Int) : Int := if a * b < 9223372036854775808 then a * b else 0
def sumL : List Int → Int
  | [] => 0
  | x :: l => x + sumL l
def sumO (l : List Int) : Bool := decide (sumL l < 9223372036854775808)
def sumV (l : List Int) : Int := if sumL l < 9223372036854775808 then sumL l else 0
open Go.ChangeShapes Go.WideShapes Go.ChangeAt Go.RowKit in
theorem ret_pair {x y : Int} {p q : Bool} (h : x = y ∧ p = q) : Ending.returned (.tuple #[.int .u64 x, .bool p]) = .returned (.tuple #[.int .u64 y, .bool q]) := by rw [h.1, h.2]
theorem ret_bool {p q : Bool} (h : p = q) : Ending.returned (.bool p) = .returned (.bool q) := by rw [h]
theorem sym2 {x y : Int} {p q : Bool} (h : x = y ∧ p = q) : y = x ∧ q = p := ⟨h.1.symm, h.2.symm⟩
theorem addV_ok {a b : Int} (h : a + b < 9223372036854775808) : addV a b = a + b ∧ addO a b = true := ⟨if_pos h, decide_eq_true h⟩
theorem addV_no {a b : Int} (h : ¬ a + b < 9223372036854775808) : addV a b = 0 ∧ addO a b = false := ⟨if_neg h, decide_eq_false h⟩
theorem subV_ok {a b : Int} (h : b ≤ a) (h2 : a - b < 9223372036854775808) : subV a b = a - b ∧ subO a b = true := ⟨if_pos ⟨h, h2⟩, decide_eq_true ⟨h, h2⟩⟩
theorem subV_no {a b : Int} (h : ¬ (b ≤ a ∧ a - b < 9223372036854775808)) : subV a b = 0 ∧ subO a b = false := ⟨if_neg h, decide_eq_false h⟩
theorem mulV_ok {a b : Int} (h : a * b < 9223372036854775808) : mulV a b = a * b ∧ mulO a b = true := ⟨if_pos h, decide_eq_true h⟩
theorem mulV_no {a b : Int} (h : ¬ a * b < 9223372036854775808) : mulV a b = 0 ∧ mulO a b = false := ⟨if_neg h, decide_eq_false h⟩
theorem sumV_ok {l : List Int} (h : sumL l < 9223372036854775808) : sumV l = sumL l ∧ sumO l = true := ⟨if_pos h, decide_eq_true h⟩
theorem sumV_no {l : List Int} (h : ¬ sumL l < 9223372036854775808) : sumV l = 0 ∧ sumO l = false := ⟨if_neg h, decide_eq_false h⟩
theorem addV_in {a b : Int} (h : 0 ≤ a) (h2 : 0 ≤ b) : 0 ≤ addV a b ∧ addV a b < 9223372036854775808 := by unfold addV; split <;> omega
theorem subV_in (a b : Int) : 0 ≤ subV a b ∧ subV a b < 9223372036854775808 := by unfold subV; split <;> omega
theorem mulV_in {a b : Int} (h : 0 ≤ a) (h2 : 0 ≤ b) : 0 ≤ mulV a b ∧ mulV a b < 9223372036854775808 := by
  unfold mulV
  have := Int.mul_nonneg h h2
  split <;> omega
theorem addV_comm (a b : Int) : addV a b = addV b a ∧ addO a b = addO b a := by unfold addV addO; rw [Int.add_comm]; exact ⟨rfl, rfl⟩
theorem sumL_app (l m : List Int) : sumL (l ++ m) = sumL l + sumL m := by
  induction l with
  | nil => show sumL m = 0 + sumL m; omega
  | cons x l ih => show x + sumL (l ++ m) = x + sumL l + sumL m; omega
theorem sumL_nn {l : List Int} (h : ∀ z ∈ l, 0 ≤ z) : 0 ≤ sumL l := by
  induction l with
  | nil => exact Int.le_refl _
  | cons x l ih => have h1 := h x (by simp); have h2 := ih (fun z hz => h z (by simp [hz])); show 0 ≤ x + sumL l; omega
theorem sumL_take {l : List Int} {k : Nat} (h : k < l.length) : sumL (l.take (k + 1)) = sumL (l.take k) + l.getD k 0 := by
  rw [List.take_add_one, sumL_app, List.getElem?_eq_getElem h, List.getD_eq_getElem?_getD, List.getElem?_eq_getElem h]
  show sumL (l.take k) + (l[k] + 0) = sumL (l.take k) + l[k]
  omega
theorem sumL_le {l : List Int} (h : ∀ z ∈ l, 0 ≤ z) (k : Nat) : sumL (l.take k) ≤ sumL l := by
  have h1 : sumL l = sumL (l.take k) + sumL (l.drop k) := by rw [← sumL_app, List.take_append_drop]
  have h2 := sumL_nn (l := l.drop k) (fun z hz => h z (List.mem_of_mem_drop hz))
  omega
theorem sumL_rep (a : Int) : ∀ n : Nat, sumL (List.replicate n a) = a * (n : Int)
  | 0 => by simp [sumL]
  | n + 1 => by
    show a + sumL (List.replicate n a) = _
    rw [sumL_rep a n]
    push_cast
    rw [Int.mul_add]
    omega
theorem getD_in {l : List Int} {k : Nat} (h : k < l.length) : l.getD k 0 ∈ l := by
  rw [List.getD_eq_getElem?_getD, List.getElem?_eq_getElem h]
  exact List.getElem_mem h
/-- Two lists are the same if they have as many numbers, and the same ones. -/
theorem ext_getD {l m : List Int} (h : l.length = m.length) (h2 : ∀ j, j < l.length → l.getD j 0 = m.getD j 0) : l = m := by
  apply List.ext_getElem h
  intro j h3 h4
  have h5 := h2 j h3
  simpa [List.getD_eq_getElem?_getD, List.getElem?_eq_getElem h3, List.getElem?_eq_getElem h4] using h5
theorem lt_div (b a : Int) (hb : 0 < b) (ha : 0 ≤ a) : (9223372036854775807 / b < a) ↔ ¬ (a * b < 9223372036854775808) := by
  have h := Int.le_ediv_iff_mul_le (a := a) (b := 9223372036854775807) hb
  constructor
  · intro h1 h2; have := h.2 (by omega); omega
  · intro h1; exact Int.lt_of_not_ge fun h2 => h1 (by have := h.1 h2; omega)
end Go.Proofs.YtepclbmcacdhlaaGreatDoor
/-
  Fenwick trees in plain Lean: the lowest bit, prefixes, the tree of a list, which numbers of the tree hold a place.
  Conditions: those that each theorem names.
-/
set_option maxRecDepth 100000
set_option linter.unusedVariables false
set_option linter.unusedSimpArgs false
namespace Go.Proofs.YtepclbmcacdhlaaGreatDoor
/-- The lowest bit of a number. -/
def lowN (n : Nat) : Nat := if h : n = 0 then 0 else if n % 2 = 0 then 2 * lowN (n / 2) else 1
  termination_by n
  decreasing_by exact Nat.div_lt_self (by omega) (by omega)
theorem lowN_odd {n : Nat} (h : n % 2 = 1) : lowN n = 1 := by rw [lowN, dif_neg (by omega), if_neg (by omega)]
theorem lowN_even {n : Nat} (h0 : n ≠ 0) (h : n % 2 = 0) : lowN n = 2 * lowN (n / 2) := by rw [lowN, dif_neg h0, if_pos h]
/-- It is a power of two, and the rest is odd. -/
theorem lowN_form (n : Nat) (h : n ≠ 0) : ∃ k q, lowN n = 2 ^ k ∧ n = 2 ^ k * (2 * q + 1) := by
  induction n using Nat.strongRecOn with
  | ind n ih =>
    rcases Nat.mod_two_eq_zero_or_one n with h2 | h2
    · obtain ⟨k, q, h3, h4⟩ := ih (n / 2) (by omega) (by omega)
      refine ⟨k + 1, q, ?_, ?_⟩
      · rw [lowN_even h h2, h3, Nat.pow_succ, Nat.mul_comm]
      · rw [Nat.pow_succ, Nat.mul_comm (2 ^ k) 2, Nat.mul_assoc, ← h4]
        omega
    · exact ⟨0, n / 2, by rw [lowN_odd h2, Nat.pow_zero], by rw [Nat.pow_zero]; omega⟩
theorem lowN_pos {n : Nat} (h : n ≠ 0) : 1 ≤ lowN n := by
  obtain ⟨k, q, h1, _⟩ := lowN_form n h
  rw [h1]
  exact Nat.pow_pos (by omega)
theorem lowN_le (n : Nat) : lowN n ≤ n := by
  by_cases h : n = 0
  · subst h; rw [lowN, dif_pos rfl]; exact Nat.le_refl _
  · obtain ⟨k, q, h1, h2⟩ := lowN_form n h
    rw [h1]
    conv => rhs; rw [h2]
    exact Nat.le_mul_of_pos_right _ (by omega)
/-- Multiples of a power of two that lie apart lie apart by it. -/
theorem mult_step {d a b : Nat} (ha : d ∣ a) (hb : d ∣ b) (h : a < b) : a + d ≤ b := by
  obtain ⟨x, rfl⟩ := ha
  obtain ⟨y, rfl⟩ := hb
  have : x < y := Nat.lt_of_mul_lt_mul_left h
  have h2 : d * (x + 1) ≤ d * y := Nat.mul_le_mul_left d this
  rw [Nat.mul_add, Nat.mul_one] at h2
  exact h2
theorem lowN_dvd (n : Nat) (h : n ≠ 0) : lowN n ∣ n := by
  obtain ⟨k, q, h1, h2⟩ := lowN_form n h
  rw [h1]
  exact ⟨_, h2⟩
theorem low_less (n : Nat) (h : n ≠ 0) : 2 * lowN n ∣ n - lowN n := by
  obtain ⟨k, q, h1, h2⟩ := lowN_form n h
  rw [h1]
  refine ⟨q, ?_⟩
  conv => lhs; rw [h2]
  rw [Nat.mul_add, Nat.mul_one, Nat.add_sub_cancel, ← Nat.mul_assoc, Nat.mul_comm (2 ^ k) 2]
theorem low_more (n : Nat) (h : n ≠ 0) : 2 * lowN n ∣ n + lowN n := by
  obtain ⟨k, q, h1, h2⟩ := lowN_form n h
  rw [h1]
  refine ⟨q + 1, ?_⟩
  conv => lhs; rw [h2]
  rw [← Nat.mul_add_one, Nat.mul_comm 2 (2 ^ k), Nat.mul_assoc]
  congr 1
theorem low_cmp {a b : Nat} (ha : a ≠ 0) (hb : b ≠ 0) : lowN a ∣ lowN b ∨ 2 * lowN b ∣ lowN a := by
  obtain ⟨k, _, h1, _⟩ := lowN_form a ha
  obtain ⟨j, _, h2, _⟩ := lowN_form b hb
  rw [h1, h2]
  rcases Nat.lt_or_ge j k with h | h
  · right
    rw [show 2 * 2 ^ j = 2 ^ (j + 1) by rw [Nat.pow_succ, Nat.mul_comm]]
    exact Nat.pow_dvd_pow 2 h
  · left
    exact Nat.pow_dvd_pow 2 h
/-- The number m of the tree holds the place p (both from 1 on). -/
def holdsP (m p : Nat) : Prop := m - lowN m < p ∧ p ≤ m
theorem holds_self {m : Nat} (h : m ≠ 0) : holdsP m m := by
  have h1 := lowN_pos h
  have h2 := lowN_le m
  exact ⟨by omega, Nat.le_refl _⟩
/-- What holds a place, and isn't its own number, holds the next one of its chain. -/
theorem holds_next {m p : Nat} (hp : p ≠ 0) (hm : holdsP m p) (hne : p ≠ m) : holdsP m (p + lowN p) := by
  obtain ⟨h1, h2⟩ := hm
  have hm0 : m ≠ 0 := by omega
  have hl := lowN_le m
  have hlp := lowN_pos hp
  refine ⟨by omega, ?_⟩
  rcases low_cmp hp hm0 with h | h
  · exact mult_step (lowN_dvd p hp) (Nat.dvd_trans h (lowN_dvd m hm0)) (by omega)
  · -- p would be a multiple of 2 low m between m - low m and m
    exfalso
    have h3 := mult_step (low_less m hm0) (Nat.dvd_trans h (lowN_dvd p hp)) h1
    omega
theorem holds_back {m p : Nat} (hp : p ≠ 0) (hm : holdsP m (p + lowN p)) : holdsP m p := by
  obtain ⟨h1, h2⟩ := hm
  have hlp := lowN_pos hp
  have hm0 : m ≠ 0 := by omega
  have hlm := lowN_pos hm0
  have hl := lowN_le m
  refine ⟨?_, by omega⟩
  rcases Nat.lt_or_ge (m - lowN m) p with h | h
  · exact h
  · exfalso
    rcases Nat.lt_or_ge p (m - lowN m) with hlt | hge
    · rcases low_cmp hp hm0 with hd | hd
      · have := mult_step (lowN_dvd p hp) (Nat.dvd_trans (Nat.dvd_trans hd (Nat.dvd_mul_left _ 2)) (low_less m hm0)) hlt
        omega
      · have := mult_step (low_less m hm0) (Nat.dvd_trans hd (Nat.dvd_trans (Nat.dvd_mul_left _ 2) (low_more p hp))) h1
        omega
    · have he : p = m - lowN m := by omega
      have hd : 2 * lowN m ∣ lowN p := by
        rcases low_cmp hp hm0 with hd | hd
        · exfalso
          have h3 : 2 * lowN m ∣ p := by rw [he]; exact low_less m hm0
          have h4 : 2 * lowN p ∣ p := Nat.dvd_trans (Nat.mul_dvd_mul_left 2 hd) h3
          obtain ⟨k, q, h5, h6⟩ := lowN_form p hp
          obtain ⟨c, h7⟩ := h4
          rw [h5] at h7
          have h8 : 2 ^ k * (2 * q + 1) = 2 ^ k * (2 * c) := by rw [← h6, h7, Nat.mul_comm 2 (2 ^ k), Nat.mul_assoc]
          have h9 := Nat.eq_of_mul_eq_mul_left (Nat.pow_pos (by omega)) h8
          omega
        · exact hd
      have h3 := Nat.le_of_dvd (by omega) hd
      omega
/-! ### prefixes, and the tree -/
def preL (l : List Int) (n : Nat) : Int := sumL (l.take n)
def treeL (l : List Int) : List Int := (List.range l.length).map fun i => preL l (i + 1) - preL l (i + 1 - lowN (i + 1))
theorem preL_zero (l : List Int) : preL l 0 = 0 := rfl
theorem preL_all (l : List Int) : preL l l.length = sumL l := by unfold preL; rw [List.take_length]
theorem preL_next {l : List Int} {n : Nat} (h : n < l.length) : preL l (n + 1) = preL l n + l.getD n 0 := sumL_take h
theorem treeL_len (l : List Int) : (treeL l).length = l.length := by simp [treeL]
theorem treeL_at {l : List Int} {i : Nat} (h : i < l.length) : (treeL l).getD i 0 = preL l (i + 1) - preL l (i + 1 - lowN (i + 1)) := by simp [treeL, h]
/-- A prefix is the tree's number and a shorter prefix. -/
theorem preL_low {l : List Int} {n : Nat} (h0 : n ≠ 0) (h : n ≤ l.length) : preL l n = (treeL l).getD (n - 1) 0 + preL l (n - lowN n) := by
  rw [treeL_at (by omega), show n - 1 + 1 = n by omega]
  omega
theorem preL_mono {l : List Int} (hz : ∀ z ∈ l, 0 ≤ z) {a b : Nat} (h : a ≤ b) : preL l a ≤ preL l b := by
  unfold preL
  have h1 := sumL_le (l := l.take b) (fun z hz' => hz z (List.mem_of_mem_take hz')) a
  rwa [List.take_take, Nat.min_eq_left h] at h1
theorem preL_nn {l : List Int} (hz : ∀ z ∈ l, 0 ≤ z) (a : Nat) : 0 ≤ preL l a := by
  have h := preL_mono hz (Nat.zero_le a)
  rwa [preL_zero] at h
theorem preL_le {l : List Int} (hz : ∀ z ∈ l, 0 ≤ z) (a : Nat) : preL l a ≤ sumL l := sumL_le hz a
theorem preL_set {l : List Int} {i : Nat} (v : Int) (hi : i < l.length) (n : Nat) : preL (l.set i v) n = preL l n + if i < n then v - l.getD i 0 else 0 := by
  induction l generalizing i n with
  | nil => cases hi
  | cons x l ih =>
    cases n with
    | zero => show (0 : Int) = 0 + _; rw [if_neg (by omega)]; rfl
    | succ n =>
      cases i with
      | zero =>
        show v + sumL (l.take n) = x + sumL (l.take n) + _
        rw [if_pos (by omega)]
        show _ = _ + (v - x)
        omega
      | succ i =>
        have h := ih (i := i) (by simpa using hi) n
        show x + preL (l.set i v) n = x + preL l n + _
        rw [h]
        by_cases hin : i < n
        · rw [if_pos hin, if_pos (by omega)]
          show _ = _ + (v - l.getD i 0)
          omega
        · rw [if_neg hin, if_neg (by omega)]
          omega
/-- Another stake changes just the numbers that hold its place. -/
theorem treeL_set {l : List Int} {i : Nat} (v : Int) (hi : i < l.length) (m : Nat) (hm : m < l.length) : (treeL (l.set i v)).getD m 0 = (treeL l).getD m 0 + if m + 1 - lowN (m + 1) < i + 1 ∧ i + 1 ≤ m + 1 then v - l.getD i 0 else 0 := by
  rw [treeL_at (by rw [List.length_set]; exact hm), treeL_at hm, preL_set v hi, preL_set v hi]
  by_cases h1 : i < m + 1
  · by_cases h2 : i < m + 1 - lowN (m + 1)
    · rw [if_pos h1, if_pos h2, if_neg (by omega)]; omega
    · rw [if_pos h1, if_neg h2, if_pos (by omega)]; omega
  · rw [if_neg h1, if_neg (by omega), if_neg (by omega)]; omega
end Go.Proofs.YtepclbmcacdhlaaGreatDoor
/-
  append([]uint64{}, l...): a copy of its own of a slice of 64-bit numbers, behind a plain region's step.
  Conditions: the slice has at most 100,000,000 numbers.
-/
set_option maxRecDepth 100000
set_option linter.unusedVariables false
set_option linter.unusedSimpArgs false
namespace Go.Proofs.YtepclbmcacdhlaaGreatDoor
open Go.ChangeShapes Go.WideShapes Go.ChangeAt Go.RowKit
theorem info_u64d : (Tryz.prog.info? 24).map (fun i => (i.zero, i.size, i.bytes)) = some (some (.int .u64 0), 1, 8) := by kernel_rfl
theorem wpList_own_copy8 {ops : Array Oper} {rest : List Oper} {o : Oper} {a : Act} {Q : Exit → Act → World → Prop} (W0 : World) (hgd : o.guard = none) (s x : Operand)
    (ho : o.op = .call { callee := .builtin .append, args := #[s, x], argTypes := #[22, 22] })
    (hs : a.eval s = .slice (some ⟨W0.heap.size, 0, none⟩) 0 0) (A : Option Addr) (m c : Nat) (ys : List Int) (hx : a.eval x = .slice A m c) (hr : Rd .u64 W0 W0.heap.size A m ys) (hm : m ≤ 100000000)
    (h : ∀ A7 c7 w', Below W0.heap.size W0 w' → Rd .u64 w' w'.heap.size A7 ys.length ys → Hid (ys.length ≤ c7) → Hid (c7 ≤ maxLen) → wpList Tryz.prog ops Q rest (a.put o.dst (.slice A7 ys.length c7)) w') : wpList Tryz.prog ops Q (o :: rest) a (W0.alloc (.cells #[] 24)) := by
  obtain ⟨ti, hti, hz0, hz1, hzb⟩ := info_parts info_u64d
  have hw : W0.heap.size ≤ (W0.alloc (.cells #[] 24)).heap.size := ((Below.refl _ _).alloc (Nat.le_refl _) (.cells #[] 24)).size
  refine wpList_append_ints _ hgd s x 22 ho W0.heap.size 24 ti _ 8 .u64 Tryz.underlying22 hti hz0 hz1 hzb rfl _ [] hs (own_empty W0 24 .u64 (Nat.le_refl _)) W0.heap.size A m c ys hx (hr.alloc (Nat.le_refl _) _) (by simp [maxLen]; omega) (by simp; omega) hw ?_
  intro v w' hown hg hat
  have hb : Below W0.heap.size W0 w' := (own_empty W0 24 .u64 (Nat.le_refl _)).below_ ((Below.refl _ _).alloc (Nat.le_refl _) _) hw hg
  rw [List.nil_append] at hown
  obtain ⟨A7, c7, rfl, hc7, hm7⟩ := hown.form
  exact h A7 c7 w' hb (OwnI.rd hown rfl) hc7 hm7
end Go.Proofs.YtepclbmcacdhlaaGreatDoor
/-
  Trees in memory: a struct of one slice, in a block of one cell; a slice of one number, built.
  Conditions: those that each theorem names.
-/
set_option maxRecDepth 100000
set_option linter.unusedVariables false
set_option linter.unusedSimpArgs false
namespace Go.Proofs.YtepclbmcacdhlaaGreatDoor
open Go.ChangeShapes Go.WideShapes Go.ChangeAt Go.RowKit
theorem zero_fen : ∀ W, (zeroValue 38).run Tryz.prog W = .ok (.agg #[.slice none 0 0]) W := (zero_of_info (n := 1) (by kernel_rfl)).1
theorem size_fen : (Tryz.prog.info? 38).map (·.size) = some 1 := by kernel_rfl
theorem sizedF (v : Value) : (Tryz.prog.info? 38).map (·.size) = some (#[v] : Array Value).size := size_fen
theorem fen_ones (A : Option Addr) (n c : Nat) : (#[.slice A n c] : Array Value).all (·.oneCell') = true := by simp [Value.oneCell']
theorem Blk.cell0 {w : World} {g : Nat} {t : TypeId} {v : Value} (h : Blk w g t #[v]) : w.cell? ⟨g, 0, none⟩ = some v := by rw [h.cell]; rfl
theorem size1 (u v : Value) : (#[u] : Array Value).size = (#[v] : Array Value).size := rfl
theorem run_build_u64 (x : Int) (w : World) : (Instr.buildSlice 22 1 #[(0, .int .u64 x)]).run Tryz.prog w = .ok (.slice (some ⟨w.heap.size, 0, none⟩) 1 1) (w.alloc (.cells #[.int .u64 x] 24)) := by
  go_simp
theorem rd_one1 (w : World) (e : TypeId) (k : IntKind) (x : Int) : Rd k (w.alloc (.cells #[.int k x] e)) (w.alloc (.cells #[.int k x] e)).heap.size (some ⟨w.heap.size, 0, none⟩) 1 [x] := by
  refine ⟨rfl, fun _ => ⟨w.heap.size, 0, rfl, (Blk.new w e #[.int k x]).lt, fun j hj => ?_⟩⟩
  obtain rfl : j = 0 := by omega
  rw [(Blk.new w e #[.int k x]).cell]
  rfl
theorem exec_build_u64 {o : Oper} {a : Act} {w : World} (p : Operand) (x : Int) (ho : o.op = .buildSlice 22 1 #[(0, p)]) (hp : a.eval p = .int .u64 x) :
    (execOp a.eval o).run Tryz.prog w = .ok (.value (.slice (some ⟨w.heap.size, 0, none⟩) 1 1)) (w.alloc (.cells #[.int .u64 x] 24)) := by
  have hr := run_build_u64 x w
  unfold execOp
  simp only [ho, List.map_toArray, List.map_cons, List.map_nil, hp]
  change ((Instr.buildSlice 22 1 #[(0, .int .u64 x)]) >>= fun v => pure (Next.value v)).run Tryz.prog w = _
  simp only [Sem.run_bind, hr, Result.andThen_ok, Sem.run_pure]
theorem step_build_u64 {ops : Array Oper} {o : Oper} {a : Act} {w : World} {K : Act → World → Prop} {Q : Exit → Act → World → Prop} {E : Prop} (d : Option Tmp) (hd : o.dst = d) (hw : Region.wanted o (yielded ops a.tmps) = true) (p : Operand) (ho : o.op = .buildSlice 22 1 #[(0, p)])
    (x : Int) (hp : a.eval p = .int .u64 x) (h : ∀ g w', Rd .u64 w' w'.heap.size (some ⟨g, 0, none⟩) 1 [x] → Below w.heap.size w w' → K (a.put d (.slice (some ⟨g, 0, none⟩) 1 1)) w') :
    if Region.wanted o (yielded ops a.tmps) = true then Oper.wp Tryz.prog o a w K Q else E := by
  subst hd
  rw [if_pos hw]
  have he := exec_build_u64 (w := w) p x ho hp
  unfold Oper.wp
  rw [he]
  exact h _ _ (rd_one1 w _ .u64 x) ((Below.refl _ _).alloc (Nat.le_refl _) _)
theorem OwnI.empty (w : World) (base : Nat) (e : TypeId) (k : IntKind) : OwnI w base e k (.slice none 0 0) [] := ⟨rfl, .inl ⟨rfl, rfl⟩⟩
theorem OwnI.other {w w' : World} {base g : Nat} {e t : TypeId} {k : IntKind} {v : Value} {zs : List Int} {cs : Array Value} (h : OwnI w base e k v zs) (hb : Blk w g t cs) (hne : e ≠ t) (ho : ∀ j, j ≠ g → w'.heap[j]? = w.heap[j]?) : OwnI w' base e k v zs := by
  refine ⟨h.1, ?_⟩
  rcases h.2 with h1 | ⟨g', cap, cur, h1, h2, h3, h4⟩
  · exact .inl h1
  · have hg : g' ≠ g := by
      rintro rfl
      unfold Blk at hb
      rw [h3] at hb
      injection hb with hb
      injection hb with _ h5
      exact hne h5
    exact .inr ⟨g', cap, cur, h1, h2, (ho g' hg).trans h3, h4⟩
theorem tree_take {l : List Int} {i : Nat} (h : i < l.length) : (treeL l).take (i + 1) = (treeL l).take i ++ [(treeL l).getD i 0] := by
  rw [List.take_succ_eq_append_getElem (by rw [treeL_len]; exact h), List.getD_eq_getElem?_getD, List.getElem?_eq_getElem (by rw [treeL_len]; exact h)]
  rfl
/-- A slice of older memory still reads; so does one behind a store into a block of other things. -/
theorem HR1 {w w1 : World} {A : Option Addr} {n : Nat} {l : List Int} (hr : Rd .u64 w w.heap.size A n l) (hb : Below w.heap.size w w1) : Rd .u64 w1 w1.heap.size A n l := (hr.below hb).mono hb.size
theorem rd_apart {k : IntKind} {w : World} {B g n : Nat} {t : TypeId} {cs : Array Value} {A : Option Addr} {zs : List Int} (hr : Rd k w B A n zs) (hb : Blk w g t cs) (hno : ∀ (j : Nat) (z : Int), cs[j]? ≠ some (.int k z)) : ∀ b off, 0 < n → A = some ⟨b, off, none⟩ → b ≠ g := by
  intro b off hn hA e
  subst e
  obtain ⟨b', off', e', hlt, hc⟩ := hr.2 hn
  rw [hA] at e'
  injection e' with e'
  injection e' with e1 e2
  subst e1 e2
  have h0 := hc 0 hn
  rw [hb.cell] at h0
  exact hno _ _ h0
theorem noint_fen (v : Value) (hv : ∀ k z, v ≠ .int k z) (k : IntKind) : ∀ (j : Nat) (z : Int), (#[v] : Array Value)[j]? ≠ some (.int k z) := by
  intro j z h
  match j, h with
  | 0, h => injection h with h; exact hv _ _ h
  | j + 1, h => simp at h
theorem rd_past {w w' : World} {g n : Nat} {A B : Option Addr} {m c : Nat} {zs : List Int} (hr : Rd .u64 w w.heap.size A n zs) (hb : Blk w g 38 #[.slice B m c]) (hs : w'.heap.size = w.heap.size) (ho : ∀ j, j ≠ g → w'.heap[j]? = w.heap[j]?) : Rd .u64 w' w'.heap.size A n zs := by
  have := Rd.other hr ho (rd_apart hr hb (noint_fen _ (fun _ _ h => by cases h) _))
  rw [hs]
  exact this
theorem run_build_fen0 (w : World) : (Instr.build 38 #[]).run Tryz.prog w = .ok (.agg #[.slice none 0 0]) w := by go_simp
theorem build_fen0 {a : Act} {o : Oper} (w : World) (ho : o.op = .build 38 #[]) : (execOp a.eval o).run Tryz.prog w = .ok (.value (.agg #[.slice none 0 0])) w := by
  unfold execOp
  simp only [ho, List.map_toArray, List.map_nil]
  change ((Instr.build 38 #[]) >>= fun v => pure (Next.value v)).run Tryz.prog w = _
  simp only [Sem.run_bind, run_build_fen0, Result.andThen_ok, Sem.run_pure]
/-- append([]uint64{}, l...): the copy is the call's own. -/
theorem wpList_own_copy8o {ops : Array Oper} {rest : List Oper} {o : Oper} {a : Act} {Q : Exit → Act → World → Prop} (W0 : World) (hgd : o.guard = none) (s x : Operand)
    (ho : o.op = .call { callee := .builtin .append, args := #[s, x], argTypes := #[22, 22] })
    (hs : a.eval s = .slice (some ⟨W0.heap.size, 0, none⟩) 0 0) (A : Option Addr) (m c : Nat) (ys : List Int) (hx : a.eval x = .slice A m c) (hr : Rd .u64 W0 W0.heap.size A m ys) (hm : m ≤ 100000000)
    (h : ∀ v w', Below W0.heap.size W0 w' → OwnI w' W0.heap.size 24 .u64 v ys → wpList Tryz.prog ops Q rest (a.put o.dst v) w') : wpList Tryz.prog ops Q (o :: rest) a (W0.alloc (.cells #[] 24)) := by
  obtain ⟨ti, hti, hz0, hz1, hzb⟩ := info_parts info_u64d
  have hw : W0.heap.size ≤ (W0.alloc (.cells #[] 24)).heap.size := ((Below.refl _ _).alloc (Nat.le_refl _) (.cells #[] 24)).size
  refine wpList_append_ints _ hgd s x 22 ho W0.heap.size 24 ti _ 8 .u64 Tryz.underlying22 hti hz0 hz1 hzb rfl _ [] hs (own_empty W0 24 .u64 (Nat.le_refl _)) W0.heap.size A m c ys hx (hr.alloc (Nat.le_refl _) _) (by simp [maxLen]; omega) (by simp; omega) hw ?_
  intro v w' hown hg hat
  have hb : Below W0.heap.size W0 w' := (own_empty W0 24 .u64 (Nat.le_refl _)).below_ ((Below.refl _ _).alloc (Nat.le_refl _) _) hw hg
  rw [List.nil_append] at hown
  exact h v w' hb hown
theorem size_u64f : (Tryz.prog.info? 24).map (·.size) = some 1 := by kernel_rfl
theorem len_set {n : Nat} (l : List Int) (k : Nat) (v : Int) (h : l.length = n) : (l.set k v).length = n := by rw [List.length_set]; exact h
/-- A number of such a row is stored. -/
theorem own_set {w0 w w' : World} {g c n j : Nat} {z : Int} {zs : List Int} {cur : Array Value} (h : OwnI w w0.heap.size 24 .u64 (.slice (some ⟨g, 0, none⟩) n c) zs) (hb : Blk w g 24 cur) (hj : j < zs.length) (hbl : Below w0.heap.size w0 w) (hg : w0.heap.size ≤ g) (hk : Blk w' g 24 (cur.setIfInBounds j (.int .u64 z))) (ho : Only g w w') :
    OwnI w' w0.heap.size 24 .u64 (.slice (some ⟨g, 0, none⟩) n c) (zs.set j z) ∧ Below w0.heap.size w0 w' :=
  ⟨h.put hb hj hk, hbl.trans (ho.below hg hbl.size)⟩
/-- Two trees in blocks of their own: what is handed back at g2, what is worked on at g3; its numbers are the call's own. -/
structure TreS (w0 : World) (g2 g3 : Nat) (v : Value) (ts : List Int) (w : World) : Prop where
  b2 : Blk w g2 38 #[.slice none 0 0]
  b3 : Blk w g3 38 #[v]
  own : OwnI w w0.heap.size 24 .u64 v ts
  bel : Below w0.heap.size w0 w
  le : w0.heap.size ≤ g2
  lt : g2 < g3
section
variable {w0 w w' : World} {g2 g3 n : Nat} {v v' : Value} {ts ts' : List Int} {A : Option Addr} {l : List Int}
theorem TreS.below (h : TreS w0 g2 g3 v ts w) (hb : Below w.heap.size w w') : TreS w0 g2 g3 v ts w' :=
  ⟨h.b2.below hb h.b2.lt, h.b3.below hb h.b3.lt, h.own.below hb, h.bel.trans (hb.mono h.bel.size), h.le, h.lt⟩
theorem TreS.drew (h : TreS w0 g2 g3 v ts w) : TreS w0 g2 g3 v ts w.drew := h.below (Below.refl _ _).drew
theorem TreS.size (h : TreS w0 g2 g3 v ts w) : w0.heap.size ≤ w.heap.size := h.bel.size
theorem TreS.cell (h : TreS w0 g2 g3 v ts w) : w.cell? ⟨g3, 0, none⟩ = some v := by rw [h.b3.cell]; rfl
theorem TreS.frz (h : TreS w0 g2 g3 v ts w) : w.frozen? ⟨g3, 0, none⟩ = false := h.b3.frozen 0
theorem TreS.rd (h : TreS w0 g2 g3 v ts w) (hr : Rd .u64 w0 w0.heap.size A n l) : Rd .u64 w w.heap.size A n l := (hr.below h.bel).mono h.size
/-- Numbers are appended, and not yet stored. -/
theorem TreS.grown (h : TreS w0 g2 g3 v ts w) (hg : w.grownBy w' v.ownBlock) : Blk w' g2 38 #[.slice none 0 0] ∧ Blk w' g3 38 #[v] ∧ Below w0.heap.size w0 w' :=
  ⟨h.b2.grown h.own (by decide) hg, h.b3.grown h.own (by decide) hg, h.own.below_ h.bel h.size hg⟩
/-- .. and are stored. -/
theorem TreS.put (h : TreS w0 g2 g3 v ts w) (hb : Blk w' g2 38 #[.slice none 0 0] ∧ Blk w' g3 38 #[v] ∧ Below w0.heap.size w0 w') (hown : OwnI w' w0.heap.size 24 .u64 v' ts') {w2 : World} (hk : Blk w2 g3 38 #[v']) (ho : Only g3 w' w2) : TreS w0 g2 g3 v' ts' w2 :=
  ⟨hb.1.only ho (Nat.ne_of_lt h.lt), hk, hown.only hb.2.1 (by decide) ho, hb.2.2.trans (ho.below (by have := h.le; have := h.lt; omega) hb.2.2.size), h.le, h.lt⟩
end
/-- What a call that makes a tree hands back, and leaves. -/
def RetTree (w : World) (l : List Int) (e : Ending) (w' : World) : Prop := ∃ A c, e = .returned (.agg #[.slice A l.length c]) ∧ Rd .u64 w' w'.heap.size A l.length (treeL l) ∧ l.length ≤ c ∧ c ≤ maxLen ∧ Below w.heap.size w w'
/-! ### what builds and sets answer -/
def bldE (l : List Int) : Int := if 1048576 < l.length then 14 else if sumL l < 9223372036854775808 then 0 else 11
def bldL (l : List Int) : List Int := if bldE l = 0 then treeL l else []
theorem bldE_many {l : List Int} (h : 1048576 < l.length) : bldE l = 14 ∧ bldL l = [] := by
  have : bldE l = 14 := if_pos h
  exact ⟨this, by unfold bldL; rw [this]; rfl⟩
theorem bldE_big {l : List Int} (h : ¬ 1048576 < l.length) (h2 : ¬ sumL l < 9223372036854775808) : bldE l = 11 ∧ bldL l = [] := by
  have : bldE l = 11 := by unfold bldE; rw [if_neg h, if_neg h2]
  exact ⟨this, by unfold bldL; rw [this]; rfl⟩
theorem bldE_ok {l : List Int} (h : ¬ 1048576 < l.length) (h2 : sumL l < 9223372036854775808) : bldE l = 0 ∧ bldL l = treeL l := by
  have : bldE l = 0 := by unfold bldE; rw [if_neg h, if_pos h2]
  exact ⟨this, by unfold bldL; rw [if_pos this]⟩
/-- A tree with these numbers, and an error, are handed back. -/
def RetFen (w : World) (ts : List Int) (er : Int) (e : Ending) (w' : World) : Prop := ∃ A c, e = .returned (.tuple #[.agg #[.slice A ts.length c], .int .i64 er]) ∧ Rd .u64 w' w'.heap.size A ts.length ts ∧ ts.length ≤ c ∧ c ≤ maxLen ∧ Below w.heap.size w w'
/-- A list with these numbers, and an error, are handed back. -/
def RetLst (w : World) (ts : List Int) (er : Int) (e : Ending) (w' : World) : Prop := ∃ A c, e = .returned (.tuple #[.slice A ts.length c, .int .i64 er]) ∧ Rd .u64 w' w'.heap.size A ts.length ts ∧ ts.length ≤ c ∧ c ≤ maxLen ∧ Below w.heap.size w w'
theorem rd_nil (w : World) (B : Nat) (k : IntKind) (A : Option Addr) : Rd k w B A 0 [] := ⟨rfl, fun h => absurd h (by omega)⟩
def setE (l : List Int) (i v : Int) : Int := if 0 ≤ i ∧ i < l.length then (if sumL (l.set i.toNat v) < 9223372036854775808 then 0 else 11) else 3
def setL (l : List Int) (i v : Int) : List Int := if setE l i v = 0 then l.set i.toNat v else []
theorem setE_no {l : List Int} {i : Int} (v : Int) (h : ¬ (0 ≤ i ∧ i < l.length)) : setE l i v = 3 ∧ setL l i v = [] := by
  have : setE l i v = 3 := if_neg h
  exact ⟨this, by unfold setL; rw [this]; rfl⟩
theorem setE_big {l : List Int} {i v : Int} (h : 0 ≤ i ∧ i < l.length) (h2 : ¬ sumL (l.set i.toNat v) < 9223372036854775808) : setE l i v = 11 ∧ setL l i v = [] := by
  have : setE l i v = 11 := by unfold setE; rw [if_pos h, if_neg h2]
  exact ⟨this, by unfold setL; rw [this]; rfl⟩
theorem setE_ok {l : List Int} {i v : Int} (h : 0 ≤ i ∧ i < l.length) (h2 : sumL (l.set i.toNat v) < 9223372036854775808) : setE l i v = 0 ∧ setL l i v = l.set i.toNat v := by
  have : setE l i v = 0 := by unfold setE; rw [if_pos h, if_pos h2]
  exact ⟨this, by unfold setL; rw [if_pos this]⟩
/-! ### what a tree is asked -/
def preE (l : List Int) (i : Int) : Int := if 0 ≤ i ∧ i ≤ l.length then 0 else 3
def preV (l : List Int) (i : Int) : Int := if 0 ≤ i ∧ i ≤ l.length then preL l i.toNat else 0
def atE (l : List Int) (i : Int) : Int := if 0 ≤ i ∧ i < l.length then 0 else 3
def atV (l : List Int) (i : Int) : Int := if 0 ≤ i ∧ i < l.length then l.getD i.toNat 0 else 0
def grwE (l : List Int) (v : Int) : Int := if 1048576 ≤ l.length then 14 else if sumL (l ++ [v]) < 9223372036854775808 then 0 else 11
def grwL (l : List Int) (v : Int) : List Int := if grwE l v = 0 then l ++ [v] else []
theorem pre_ok {l : List Int} {i : Int} (h : 0 ≤ i ∧ i ≤ l.length) : preE l i = 0 ∧ preV l i = preL l i.toNat := ⟨if_pos h, if_pos h⟩
theorem pre_no {l : List Int} {i : Int} (h : ¬ (0 ≤ i ∧ i ≤ l.length)) : preE l i = 3 ∧ preV l i = 0 := ⟨if_neg h, if_neg h⟩
theorem at_ok {l : List Int} {i : Int} (h : 0 ≤ i ∧ i < l.length) : atE l i = 0 ∧ atV l i = l.getD i.toNat 0 := ⟨if_pos h, if_pos h⟩
theorem at_no {l : List Int} {i : Int} (h : ¬ (0 ≤ i ∧ i < l.length)) : atE l i = 3 ∧ atV l i = 0 := ⟨if_neg h, if_neg h⟩
theorem grw_big {l : List Int} {v : Int} (h : ¬ 1048576 ≤ l.length) (h2 : ¬ sumL (l ++ [v]) < 9223372036854775808) : grwE l v = 11 ∧ grwL l v = [] := by
  have : grwE l v = 11 := by unfold grwE; rw [if_neg h, if_neg h2]
  exact ⟨this, by unfold grwL; rw [this]; rfl⟩
theorem grw_many {l : List Int} (v : Int) (h : 1048576 ≤ l.length) : grwE l v = 14 ∧ grwL l v = [] := by
  have : grwE l v = 14 := if_pos h
  exact ⟨this, by unfold grwL; rw [this]; rfl⟩
theorem grw_ok {l : List Int} {v : Int} (h : ¬ 1048576 ≤ l.length) (h2 : sumL (l ++ [v]) < 9223372036854775808) : grwE l v = 0 ∧ grwL l v = l ++ [v] := by
  have : grwE l v = 0 := by unfold grwE; rw [if_neg h, if_pos h2]
  exact ⟨this, by unfold grwL; rw [if_pos this]⟩
/-- A list is handed back. -/
def RetL (w : World) (ts : List Int) (e : Ending) (w' : World) : Prop := ∃ A c, e = .returned (.slice A ts.length c) ∧ Rd .u64 w' w'.heap.size A ts.length ts ∧ ts.length ≤ c ∧ c ≤ maxLen ∧ Below w.heap.size w w'
end Go.Proofs.YtepclbmcacdhlaaGreatDoor
/-
  Rows of slices of bytes, read.
  Conditions: none.
-/
set_option maxRecDepth 100000
set_option linter.unusedVariables false
set_option linter.unusedSimpArgs false
namespace Go.Proofs.YtepclbmcacdhlaaGreatDoor
open Go.ChangeShapes Go.WideShapes Go.ChangeAt Go.RowKit
/-- The slice reads as rows of bytes. -/
structure Row where
  A : Option Addr
  n : Nat
  c : Nat
  zs : List Int
def RdRows (w : World) (B : Nat) (A : Option Addr) (n : Nat) (rs : List Row) : Prop :=
  rs.length = n ∧ (0 < n → ∃ b off, A = some ⟨b, off, none⟩ ∧ b < B ∧ ∀ (j : Nat) (r : Row), rs[j]? = some r → w.cell? ⟨b, off + j, none⟩ = some (.slice r.A r.n r.c)) ∧ ∀ r ∈ rs, Rd .u8 w B r.A r.n r.zs ∧ r.n ≤ r.c
theorem RdRows.below {w w' : World} {B n : Nat} {A : Option Addr} {rs : List Row} (h : RdRows w B A n rs) (hb : Below B w w') : RdRows w' B A n rs :=
  ⟨h.1, fun hn => by
    obtain ⟨b, off, e, hlt, hc⟩ := h.2.1 hn
    exact ⟨b, off, e, hlt, fun j r hj => (hb.cell (p := ⟨b, off + j, none⟩) hlt).trans (hc j r hj)⟩, fun r hr => ⟨(h.2.2 r hr).1.below hb, (h.2.2 r hr).2⟩⟩
end Go.Proofs.YtepclbmcacdhlaaGreatDoor
/-
  What is known of memory, as a list: blocks known whole, slices that read as lists, rows of slices; it stays while calls leave old memory as it was. Steps by hand inside a region that draws its order.
  Conditions: those that each theorem names.
-/
set_option maxRecDepth 100000
set_option linter.unusedVariables false
set_option linter.unusedSimpArgs false
namespace Go.Proofs.YtepclbmcacdhlaaGreatDoor
open Go.ChangeShapes Go.WideShapes Go.ChangeAt Go.RowKit
inductive Fact where
  | blk (g : Nat) (t : TypeId) (cs : Array Value)
  | rd (k : IntKind) (A : Option Addr) (n : Nat) (zs : List Int)
  | rows (A : Option Addr) (n : Nat) (rs : List Row)
  | bel (w : World)
  | rdb (k : IntKind) (B : Nat) (A : Option Addr) (n : Nat) (zs : List Int)
  | kept (B : Nat) (R : World → Prop)
def Fact.on : Fact → World → Prop
  | .blk g t cs, w => Blk w g t cs
  | .rd k A n zs, w => Rd k w w.heap.size A n zs
  | .rows A n rs, w => RdRows w w.heap.size A n rs
  | .bel w0, w => Below w0.heap.size w0 w
  | .rdb k B A n zs, w => Rd k w B A n zs ∧ B ≤ w.heap.size
  | .kept B R, w => (∀ w', Below B w w' → R w') ∧ B ≤ w.heap.size
def Fx : List Fact → World → Prop
  | [], _ => True
  | f :: l, w => f.on w ∧ Fx l w
theorem RdRows.monoB {w : World} {B B' n : Nat} {A : Option Addr} {rs : List Row} (h : RdRows w B A n rs) (hB : B ≤ B') : RdRows w B' A n rs :=
  ⟨h.1, fun hn => by
    obtain ⟨b, off, e, hlt, hc⟩ := h.2.1 hn
    exact ⟨b, off, e, by omega, hc⟩, fun r hr => ⟨(h.2.2 r hr).1.mono hB, (h.2.2 r hr).2⟩⟩
theorem Fact.below {f : Fact} {w w' : World} (h : f.on w) (hb : Below w.heap.size w w') : f.on w' := by
  cases f with
  | blk g t cs => exact Blk.below h hb (Blk.lt h)
  | rd k A n zs => exact (Rd.below h hb).fit
  | rows A n rs => exact (RdRows.below h hb).monoB hb.size
  | bel w0 => exact Below.trans h (hb.mono (Below.size h))
  | rdb k B A n zs => exact ⟨Rd.below h.1 (hb.mono h.2), Nat.le_trans h.2 hb.size⟩
  | kept B R => exact ⟨fun w2 h2 => h.1 w2 ((hb.mono h.2).trans h2), Nat.le_trans h.2 hb.size⟩
theorem Fx.below {l : List Fact} {w w' : World} (h : Fx l w) (hb : Below w.heap.size w w') : Fx l w' := by
  induction l with
  | nil => exact trivial
  | cons f l ih => exact ⟨Fact.below h.1 hb, ih h.2⟩
theorem Fx.drew {l : List Fact} {w : World} (h : Fx l w) : Fx l w.drew := h.below (Below.refl _ _).drew
theorem Fx.alloc {l : List Fact} {w : World} (h : Fx l w) (o : Obj) : Fx l (w.alloc o) := h.below ((Below.refl _ _).alloc (Nat.le_refl _) o)
theorem Fx.app {l l' : List Fact} {w : World} (h : Fx l w) (h' : Fx l' w) : Fx (l ++ l') w := by
  induction l with
  | nil => exact h'
  | cons f l ih => exact ⟨h.1, ih h.2⟩
/-- No integer of this kind among the cells. -/
def NoInt (k : IntKind) (cs : Array Value) : Prop := ∀ (j : Nat) (z : Int), cs[j]? ≠ some (.int k z)
/-- A slice of integers lies apart from a block that holds none of their kind. -/
theorem Rd.apartB {k : IntKind} {w w' : World} {A : Option Addr} {n g : Nat} {t : TypeId} {cs : Array Value} {zs : List Int} (h : Rd k w w.heap.size A n zs) (hb : Blk w g t cs) (hno : NoInt k cs) (hs : w.heap.size ≤ w'.heap.size) (ho : ∀ j, j ≠ g → w'.heap[j]? = w.heap[j]?) : Rd k w' w'.heap.size A n zs := by
  refine ⟨h.1, fun hn => ?_⟩
  obtain ⟨b, off, e, hlt, hc⟩ := h.2 hn
  have hne : b ≠ g := by
    rintro rfl
    have h0 := hc 0 hn
    rw [hb.cell] at h0
    exact hno _ _ h0
  refine ⟨b, off, e, by omega, fun j hj => ?_⟩
  rw [World.cell?_of_block (w := w) (w' := w') (a := ⟨b, off + j, none⟩) (ho b hne)]
  exact hc j hj
/-- What is known lies apart from the block g, whose cells are cs. -/
def Fact.off (g : Nat) (cs : Array Value) : Fact → Prop
  | .blk g' _ _ => g' ≠ g
  | .rd k _ _ _ => NoInt k cs
  | .rows _ n _ => n = 0
  | .bel w0 => w0.heap.size ≤ g
  | .rdb _ B _ _ _ => B ≤ g
  | .kept B _ => B ≤ g
def Fx.off (g : Nat) (cs : Array Value) : List Fact → Prop
  | [] => True
  | f :: l => f.off g cs ∧ Fx.off g cs l
theorem Fx.store {l : List Fact} {w w' : World} {g : Nat} {t : TypeId} {cs : Array Value} (h : Fx l w) (hk : Blk w g t cs) (ha : Fx.off g cs l) (hs : w'.heap.size = w.heap.size) (hb : ∀ B, B ≤ g → Below B w w') (ho : ∀ j, j ≠ g → w'.heap[j]? = w.heap[j]?) : Fx l w' := by
  induction l with
  | nil => exact trivial
  | cons f l ih =>
    refine ⟨?_, ih h.2 ha.2⟩
    have h1 := h.1
    have h2 := ha.1
    cases f with
    | blk g' t' cs' => exact Blk.other h1 ho h2
    | rd k A n zs => exact Rd.apartB h1 hk h2 (by omega) ho
    | rows A n rs =>
      have h3 : n = 0 := h2
      subst h3
      have h4 : rs.length = 0 := h1.1
      exact ⟨h4, fun hn => absurd hn (by omega), fun r hr => by rw [List.eq_nil_of_length_eq_zero h4] at hr; cases hr⟩
    | bel w0 => exact Below.trans h1 (hb _ h2)
    | rdb k B A n zs => exact ⟨Rd.below h1.1 (hb _ h2), by rw [hs]; exact h1.2⟩
    | kept B R => exact ⟨fun w2 h3 => h1.1 w2 ((hb _ h2).trans h3), by rw [hs]; exact h1.2⟩
end Go.Proofs.YtepclbmcacdhlaaGreatDoor
/-
  Facts of memory as one list: a new block ahead, a store, what lies apart; rows that grow.
  Conditions: those that each theorem names.
-/
set_option maxRecDepth 100000
set_option linter.unusedVariables false
set_option linter.unusedSimpArgs false
namespace Go.Proofs.YtepclbmcacdhlaaGreatDoor
open Go.ChangeShapes Go.WideShapes Go.ChangeAt Go.RowKit
/-- Kept where a row of elements e grows that lies at base or above. -/
def Fact.free (e : TypeId) (base : Nat) : Fact → Prop
  | .blk _ t _ => e ≠ t
  | .bel w0 => w0.heap.size = base
  | .rdb _ B _ _ _ => B ≤ base
  | .kept B _ => B ≤ base
  | _ => False
def Fx.free (e : TypeId) (base : Nat) : List Fact → Prop
  | [] => True
  | f :: l => f.free e base ∧ Fx.free e base l
theorem Fx.grown {l : List Fact} {w w' : World} {base : Nat} {e : TypeId} {k : IntKind} {v : Value} {zs : List Int} (h : Fx l w) (ho : OwnI w base e k v zs) (hf : Fx.free e base l) (hbase : base ≤ w.heap.size) (hg : w.grownBy w' v.ownBlock) : Fx l w' := by
  induction l with
  | nil => exact trivial
  | cons f l ih =>
    refine ⟨?_, ih h.2 hf.2⟩
    have h1 := h.1
    have h2 := hf.1
    cases f with
    | blk g t cs => exact Blk.grown h1 ho h2 hg
    | rd k A n zs => exact h2.elim
    | rows A n rs => exact h2.elim
    | bel w0 =>
      have h3 : w0.heap.size = base := h2
      subst h3
      exact ho.below_ h1 hbase hg
    | rdb k B A n zs =>
      have hb : Below base w w' := ho.below_ (Below.refl _ _) hbase hg
      exact ⟨Rd.below h1.1 (hb.mono h2), Nat.le_trans h1.2 hb.size⟩
    | kept B R =>
      have hb : Below base w w' := ho.below_ (Below.refl _ _) hbase hg
      exact ⟨fun w2 h3 => h1.1 w2 ((hb.mono h2).trans h3), Nat.le_trans h1.2 hb.size⟩
/-! ### lists of blocks, the newest first -/
def Fact.plain : Fact → Bool
  | .blk _ _ _ => true
  | .bel _ => true
  | .rdb _ _ _ _ _ => true
  | .kept _ _ => true
  | _ => false
def Fact.under (g : Nat) : Fact → Prop
  | .blk g' _ _ => g' < g
  | .bel w0 => w0.heap.size ≤ g
  | .rdb _ B _ _ _ => B ≤ g
  | .kept B _ => B ≤ g
  | _ => False
def Fx.under (g : Nat) : List Fact → Prop
  | [] => True
  | f :: l => f.under g ∧ Fx.under g l
section
variable {l : List Fact} {f : Fact} {w w' w0 : World} {g g' : Nat} {t : TypeId} {k : IntKind} {zs ys : List Int} {cs : Array Value}
theorem Fx.box (h : BlkI w' w.heap.size t k zs) (hb : Below w.heap.size w w') : Fx [.blk w.heap.size t (intsA k zs), .bel w] w' := ⟨h, hb, trivial⟩
theorem Fx.new (h : Fx l w) (hk : BlkI w' w.heap.size t k zs) (hb : Below w.heap.size w w') : Fx (.blk w.heap.size t (intsA k zs) :: l) w' := ⟨hk, h.below hb⟩
theorem Fx.bel0 (w : World) : Fx [.bel w] w := ⟨Below.refl _ _, trivial⟩
theorem Fx.fst (h : Fx (.blk g t (intsA k zs) :: l) w) : BlkI w g t k zs := h.1
theorem Fx.fstB (h : Fx (.blk g t cs :: l) w) : Blk w g t cs := h.1
theorem Fx.tl (h : Fx (f :: l) w) : Fx l w := h.2
theorem Fx.snd (h : Fx (f :: .blk g t (intsA k zs) :: l) w) : BlkI w g t k zs := h.2.1
theorem Fx.bel1 (h : Fx [.bel w0] w) : Below w0.heap.size w0 w := h.1
theorem Fx.bel2 (h : Fx [f, .bel w0] w) : Below w0.heap.size w0 w := h.2.1
theorem Fx.bel3 {f2 : Fact} (h : Fx [f, f2, .bel w0] w) : Below w0.heap.size w0 w := h.2.2.1
theorem Fx.bel4 {f2 f3 : Fact} (h : Fx [f, f2, f3, .bel w0] w) : Below w0.heap.size w0 w := h.2.2.2.1
theorem Fx.under_new (h : Fx l w) (hp : l.all Fact.plain = true) : Fx.under w.heap.size l := by
  induction l with
  | nil => exact trivial
  | cons f l ih =>
    rw [List.all_cons, Bool.and_eq_true] at hp
    refine ⟨?_, ih h.2 hp.2⟩
    have h1 := h.1
    cases f with
    | blk g t cs => exact Blk.lt h1
    | bel w0 => exact Below.size h1
    | rdb k B A n zs => exact h1.2
    | kept B R => exact h1.2
    | rd k A n zs => cases hp.1
    | rows A n rs => cases hp.1
theorem Fx.off_under (h : Fx.under g l) (cs : Array Value) : Fx.off g cs l := by
  induction l with
  | nil => exact trivial
  | cons f l ih =>
    refine ⟨?_, ih h.2⟩
    have h1 := h.1
    cases f with
    | blk g' t cs => exact Nat.ne_of_lt h1
    | bel w0 => exact h1
    | rdb k B A n zs => exact h1
    | kept B R => exact h1
    | rd k A n zs => exact h1.elim
    | rows A n rs => exact h1.elim
/-- The newest block is written. -/
theorem Fx.put1 (h : Fx (.blk g t cs :: l) w) (hu : Fx.under g l) (hk : BlkI w' g t k ys) (hs : w'.heap.size = w.heap.size) (hb : ∀ B, B ≤ g → Below B w w') (ho : ∀ j, j ≠ g → w'.heap[j]? = w.heap[j]?) : Fx (.blk g t (intsA k ys) :: l) w' :=
  ⟨hk, h.2.store h.1 (Fx.off_under hu _) hs hb ho⟩
/-- The one below it is written. -/
theorem Fx.put2 {t' : TypeId} {cs' : Array Value} (h : Fx (.blk g' t' cs' :: .blk g t cs :: l) w) (hu : Fx.under g' (.blk g t cs :: l)) (hu2 : Fx.under g l) (hk : BlkI w' g t k ys) (hs : w'.heap.size = w.heap.size) (hb : ∀ B, B ≤ g → Below B w w') (ho : ∀ j, j ≠ g → w'.heap[j]? = w.heap[j]?) : Fx (.blk g' t' cs' :: .blk g t (intsA k ys) :: l) w' :=
  ⟨Blk.other h.1 ho (Nat.ne_of_gt hu.1), Fx.put1 h.2 hu2 hk hs hb ho⟩
theorem Fx.under_put (h : Fx.under g' (.blk g t cs :: l)) (cs' : Array Value) : Fx.under g' (.blk g t cs' :: l) := h
end
theorem Fx.free2 {e t : TypeId} {g : Nat} {cs : Array Value} {w : World} (h : e ≠ t) : Fx.free e w.heap.size [.blk g t cs, .bel w] := ⟨h, rfl, trivial⟩
theorem Fx.free3 {e t t2 : TypeId} {g g2 : Nat} {cs cs2 : Array Value} {w : World} (h : e ≠ t) (h2 : e ≠ t2) : Fx.free e w.heap.size [.blk g t cs, .blk g2 t2 cs2, .bel w] := ⟨h, h2, rfl, trivial⟩
section
variable {P : Program} {ops : Array Oper} {Q : Exit → Act → World → Prop} {a : Act} {w w1 : World}
/-- An operation whose value and world are known, where it comes up. -/
theorem step_run {o : Oper} {K : Act → World → Prop} {E : Prop} (d : Option Tmp) (hd : o.dst = d) (hw : Region.wanted o (yielded ops a.tmps) = true) (v : Value) (he : (execOp a.eval o).run P w = .ok (.value v) w1) (h : K (a.put d v) w1) :
    if Region.wanted o (yielded ops a.tmps) = true then Oper.wp P o a w K Q else E := by
  subst hd
  rw [if_pos hw]
  unfold Oper.wp
  rw [he]
  exact h
end
end Go.Proofs.YtepclbmcacdhlaaGreatDoor
/-
  Lists of facts of memory: each one by its place, what is added in front, what is written in front.
  Conditions: those that each theorem names.
-/
set_option maxRecDepth 100000
set_option linter.unusedVariables false
set_option linter.unusedSimpArgs false
namespace Go.Proofs.YtepclbmcacdhlaaGreatDoor
open Go.ChangeShapes Go.WideShapes Go.ChangeAt Go.RowKit
section
variable {l : List Fact} {w w' w0 : World} {g B n : Nat} {t : TypeId} {k : IntKind} {zs : List Int} {A : Option Addr} {cs ys : Array Value} {f0 : Fact} {f1 : Fact} {f2 : Fact} {f3 : Fact} {f4 : Fact} {f5 : Fact} {f6 : Fact} {f7 : Fact} {f8 : Fact} {f9 : Fact} {f10 : Fact} {f11 : Fact} {f12 : Fact} {f13 : Fact} {f14 : Fact} {f15 : Fact} {f16 : Fact} {f17 : Fact} {f18 : Fact} {f19 : Fact} {f20 : Fact} {f21 : Fact} {f22 : Fact} {f23 : Fact} {f24 : Fact} {f25 : Fact} {f26 : Fact} {f27 : Fact} {f28 : Fact} {f29 : Fact} {f30 : Fact} {f31 : Fact}
theorem Fx.newB (h : Fx l w) (hk : Blk w' w.heap.size t cs) (hb : Below w.heap.size w w') : Fx (.blk w.heap.size t cs :: l) w' := ⟨hk, h.below hb⟩
theorem Fx.addR (h : Fx l w) (hb : Below w.heap.size w w') (hr : Rd k w' w'.heap.size A n zs) : Fx (.rdb k w'.heap.size A n zs :: l) w' := ⟨⟨hr, Nat.le_refl _⟩, h.below hb⟩
theorem Fx.addK {R : World → Prop} (h : Fx l w) (hb : Below w.heap.size w w') (hr : ∀ w2, Below w'.heap.size w' w2 → R w2) : Fx (.kept w'.heap.size R :: l) w' := ⟨⟨hr, Nat.le_refl _⟩, h.below hb⟩
theorem Fx.put1B (h : Fx (.blk g t cs :: l) w) (hu : Fx.under g l) (hk : Blk w' g t ys) (hs : w'.heap.size = w.heap.size) (hb : ∀ B, B ≤ g → Below B w w') (ho : ∀ j, j ≠ g → w'.heap[j]? = w.heap[j]?) : Fx (.blk g t ys :: l) w' :=
  ⟨hk, h.2.store h.1 (Fx.off_under hu _) hs hb ho⟩
theorem Fx.b0 (h : Fx (.blk g t cs :: l) w) : Blk w g t cs := h.1
theorem Fx.i0 (h : Fx (.blk g t (intsA k zs) :: l) w) : BlkI w g t k zs := h.1
theorem Fx.r0 (h : Fx (.rdb k B A n zs :: l) w) : Rd k w w.heap.size A n zs := h.1.1.mono h.1.2
theorem Fx.q0 (h : Fx (.rdb k B A n zs :: l) w) : Rd k w B A n zs := h.1.1
theorem Fx.k0 {R : World → Prop} (h : Fx (.kept B R :: l) w) : R w := h.1.1 _ (Below.refl _ _)
theorem Fx.s0 (h : Fx (.rd k A n zs :: l) w) : Rd k w w.heap.size A n zs := h.1
theorem Fx.e0 (h : Fx (.bel w0 :: l) w) : Below w0.heap.size w0 w := h.1
theorem Fx.b1 (h : Fx (f0 :: .blk g t cs :: l) w) : Blk w g t cs := h.2.1
theorem Fx.i1 (h : Fx (f0 :: .blk g t (intsA k zs) :: l) w) : BlkI w g t k zs := h.2.1
theorem Fx.r1 (h : Fx (f0 :: .rdb k B A n zs :: l) w) : Rd k w w.heap.size A n zs := h.2.1.1.mono h.2.1.2
theorem Fx.q1 (h : Fx (f0 :: .rdb k B A n zs :: l) w) : Rd k w B A n zs := h.2.1.1
theorem Fx.k1 {R : World → Prop} (h : Fx (f0 :: .kept B R :: l) w) : R w := h.2.1.1 _ (Below.refl _ _)
theorem Fx.s1 (h : Fx (f0 :: .rd k A n zs :: l) w) : Rd k w w.heap.size A n zs := h.2.1
theorem Fx.e1 (h : Fx (f0 :: .bel w0 :: l) w) : Below w0.heap.size w0 w := h.2.1
theorem Fx.b2 (h : Fx (f0 :: f1 :: .blk g t cs :: l) w) : Blk w g t cs := h.2.2.1
theorem Fx.i2 (h : Fx (f0 :: f1 :: .blk g t (intsA k zs) :: l) w) : BlkI w g t k zs := h.2.2.1
theorem Fx.r2 (h : Fx (f0 :: f1 :: .rdb k B A n zs :: l) w) : Rd k w w.heap.size A n zs := h.2.2.1.1.mono h.2.2.1.2
theorem Fx.q2 (h : Fx (f0 :: f1 :: .rdb k B A n zs :: l) w) : Rd k w B A n zs := h.2.2.1.1
theorem Fx.k2 {R : World → Prop} (h : Fx (f0 :: f1 :: .kept B R :: l) w) : R w := h.2.2.1.1 _ (Below.refl _ _)
theorem Fx.s2 (h : Fx (f0 :: f1 :: .rd k A n zs :: l) w) : Rd k w w.heap.size A n zs := h.2.2.1
theorem Fx.e2 (h : Fx (f0 :: f1 :: .bel w0 :: l) w) : Below w0.heap.size w0 w := h.2.2.1
theorem Fx.b3 (h : Fx (f0 :: f1 :: f2 :: .blk g t cs :: l) w) : Blk w g t cs := h.2.2.2.1
theorem Fx.i3 (h : Fx (f0 :: f1 :: f2 :: .blk g t (intsA k zs) :: l) w) : BlkI w g t k zs := h.2.2.2.1
theorem Fx.r3 (h : Fx (f0 :: f1 :: f2 :: .rdb k B A n zs :: l) w) : Rd k w w.heap.size A n zs := h.2.2.2.1.1.mono h.2.2.2.1.2
theorem Fx.q3 (h : Fx (f0 :: f1 :: f2 :: .rdb k B A n zs :: l) w) : Rd k w B A n zs := h.2.2.2.1.1
theorem Fx.k3 {R : World → Prop} (h : Fx (f0 :: f1 :: f2 :: .kept B R :: l) w) : R w := h.2.2.2.1.1 _ (Below.refl _ _)
theorem Fx.s3 (h : Fx (f0 :: f1 :: f2 :: .rd k A n zs :: l) w) : Rd k w w.heap.size A n zs := h.2.2.2.1
theorem Fx.e3 (h : Fx (f0 :: f1 :: f2 :: .bel w0 :: l) w) : Below w0.heap.size w0 w := h.2.2.2.1
theorem Fx.b4 (h : Fx (f0 :: f1 :: f2 :: f3 :: .blk g t cs :: l) w) : Blk w g t cs := h.2.2.2.2.1
theorem Fx.i4 (h : Fx (f0 :: f1 :: f2 :: f3 :: .blk g t (intsA k zs) :: l) w) : BlkI w g t k zs := h.2.2.2.2.1
theorem Fx.r4 (h : Fx (f0 :: f1 :: f2 :: f3 :: .rdb k B A n zs :: l) w) : Rd k w w.heap.size A n zs := h.2.2.2.2.1.1.mono h.2.2.2.2.1.2
theorem Fx.q4 (h : Fx (f0 :: f1 :: f2 :: f3 :: .rdb k B A n zs :: l) w) : Rd k w B A n zs := h.2.2.2.2.1.1
theorem Fx.k4 {R : World → Prop} (h : Fx (f0 :: f1 :: f2 :: f3 :: .kept B R :: l) w) : R w := h.2.2.2.2.1.1 _ (Below.refl _ _)
theorem Fx.s4 (h : Fx (f0 :: f1 :: f2 :: f3 :: .rd k A n zs :: l) w) : Rd k w w.heap.size A n zs := h.2.2.2.2.1
theorem Fx.e4 (h : Fx (f0 :: f1 :: f2 :: f3 :: .bel w0 :: l) w) : Below w0.heap.size w0 w := h.2.2.2.2.1
theorem Fx.b5 (h : Fx (f0 :: f1 :: f2 :: f3 :: f4 :: .blk g t cs :: l) w) : Blk w g t cs := h.2.2.2.2.2.1
theorem Fx.i5 (h : Fx (f0 :: f1 :: f2 :: f3 :: f4 :: .blk g t (intsA k zs) :: l) w) : BlkI w g t k zs := h.2.2.2.2.2.1
theorem Fx.r5 (h : Fx (f0 :: f1 :: f2 :: f3 :: f4 :: .rdb k B A n zs :: l) w) : Rd k w w.heap.size A n zs := h.2.2.2.2.2.1.1.mono h.2.2.2.2.2.1.2
theorem Fx.q5 (h : Fx (f0 :: f1 :: f2 :: f3 :: f4 :: .rdb k B A n zs :: l) w) : Rd k w B A n zs := h.2.2.2.2.2.1.1
theorem Fx.k5 {R : World → Prop} (h : Fx (f0 :: f1 :: f2 :: f3 :: f4 :: .kept B R :: l) w) : R w := h.2.2.2.2.2.1.1 _ (Below.refl _ _)
theorem Fx.s5 (h : Fx (f0 :: f1 :: f2 :: f3 :: f4 :: .rd k A n zs :: l) w) : Rd k w w.heap.size A n zs := h.2.2.2.2.2.1
theorem Fx.e5 (h : Fx (f0 :: f1 :: f2 :: f3 :: f4 :: .bel w0 :: l) w) : Below w0.heap.size w0 w := h.2.2.2.2.2.1
theorem Fx.b6 (h : Fx (f0 :: f1 :: f2 :: f3 :: f4 :: f5 :: .blk g t cs :: l) w) : Blk w g t cs := h.2.2.2.2.2.2.1
theorem Fx.i6 (h : Fx (f0 :: f1 :: f2 :: f3 :: f4 :: f5 :: .blk g t (intsA k zs) :: l) w) : BlkI w g t k zs := h.2.2.2.2.2.2.1
theorem Fx.r6 (h : Fx (f0 :: f1 :: f2 :: f3 :: f4 :: f5 :: .rdb k B A n zs :: l) w) : Rd k w w.heap.size A n zs := h.2.2.2.2.2.2.1.1.mono h.2.2.2.2.2.2.1.2
theorem Fx.q6 (h : Fx (f0 :: f1 :: f2 :: f3 :: f4 :: f5 :: .rdb k B A n zs :: l) w) : Rd k w B A n zs := h.2.2.2.2.2.2.1.1
theorem Fx.k6 {R : World → Prop} (h : Fx (f0 :: f1 :: f2 :: f3 :: f4 :: f5 :: .kept B R :: l) w) : R w := h.2.2.2.2.2.2.1.1 _ (Below.refl _ _)
theorem Fx.s6 (h : Fx (f0 :: f1 :: f2 :: f3 :: f4 :: f5 :: .rd k A n zs :: l) w) : Rd k w w.heap.size A n zs := h.2.2.2.2.2.2.1
theorem Fx.e6 (h : Fx (f0 :: f1 :: f2 :: f3 :: f4 :: f5 :: .bel w0 :: l) w) : Below w0.heap.size w0 w := h.2.2.2.2.2.2.1
theorem Fx.b7 (h : Fx (f0 :: f1 :: f2 :: f3 :: f4 :: f5 :: f6 :: .blk g t cs :: l) w) : Blk w g t cs := h.2.2.2.2.2.2.2.1
theorem Fx.i7 (h : Fx (f0 :: f1 :: f2 :: f3 :: f4 :: f5 :: f6 :: .blk g t (intsA k zs) :: l) w) : BlkI w g t k zs := h.2.2.2.2.2.2.2.1
theorem Fx.r7 (h : Fx (f0 :: f1 :: f2 :: f3 :: f4 :: f5 :: f6 :: .rdb k B A n zs :: l) w) : Rd k w w.heap.size A n zs := h.2.2.2.2.2.2.2.1.1.mono h.2.2.2.2.2.2.2.1.2
theorem Fx.q7 (h : Fx (f0 :: f1 :: f2 :: f3 :: f4 :: f5 :: f6 :: .rdb k B A n zs :: l) w) : Rd k w B A n zs := h.2.2.2.2.2.2.2.1.1
theorem Fx.k7 {R : World → Prop} (h : Fx (f0 :: f1 :: f2 :: f3 :: f4 :: f5 :: f6 :: .kept B R :: l) w) : R w := h.2.2.2.2.2.2.2.1.1 _ (Below.refl _ _)
theorem Fx.s7 (h : Fx (f0 :: f1 :: f2 :: f3 :: f4 :: f5 :: f6 :: .rd k A n zs :: l) w) : Rd k w w.heap.size A n zs := h.2.2.2.2.2.2.2.1
theorem Fx.e7 (h : Fx (f0 :: f1 :: f2 :: f3 :: f4 :: f5 :: f6 :: .bel w0 :: l) w) : Below w0.heap.size w0 w := h.2.2.2.2.2.2.2.1
theorem Fx.b8 (h : Fx (f0 :: f1 :: f2 :: f3 :: f4 :: f5 :: f6 :: f7 :: .blk g t cs :: l) w) : Blk w g t cs := h.2.2.2.2.2.2.2.2.1
theorem Fx.i8 (h : Fx (f0 :: f1 :: f2 :: f3 :: f4 :: f5 :: f6 :: f7 :: .blk g t (intsA k zs) :: l) w) : BlkI w g t k zs := h.2.2.2.2.2.2.2.2.1
theorem Fx.r8 (h : Fx (f0 :: f1 :: f2 :: f3 :: f4 :: f5 :: f6 :: f7 :: .rdb k B A n zs :: l) w) : Rd k w w.heap.size A n zs := h.2.2.2.2.2.2.2.2.1.1.mono h.2.2.2.2.2.2.2.2.1.2
theorem Fx.q8 (h : Fx (f0 :: f1 :: f2 :: f3 :: f4 :: f5 :: f6 :: f7 :: .rdb k B A n zs :: l) w) : Rd k w B A n zs := h.2.2.2.2.2.2.2.2.1.1
theorem Fx.k8 {R : World → Prop} (h : Fx (f0 :: f1 :: f2 :: f3 :: f4 :: f5 :: f6 :: f7 :: .kept B R :: l) w) : R w := h.2.2.2.2.2.2.2.2.1.1 _ (Below.refl _ _)
theorem Fx.s8 (h : Fx (f0 :: f1 :: f2 :: f3 :: f4 :: f5 :: f6 :: f7 :: .rd k A n zs :: l) w) : Rd k w w.heap.size A n zs := h.2.2.2.2.2.2.2.2.1
theorem Fx.e8 (h : Fx (f0 :: f1 :: f2 :: f3 :: f4 :: f5 :: f6 :: f7 :: .bel w0 :: l) w) : Below w0.heap.size w0 w := h.2.2.2.2.2.2.2.2.1
theorem Fx.b9 (h : Fx (f0 :: f1 :: f2 :: f3 :: f4 :: f5 :: f6 :: f7 :: f8 :: .blk g t cs :: l) w) : Blk w g t cs := h.2.2.2.2.2.2.2.2.2.1
theorem Fx.i9 (h : Fx (f0 :: f1 :: f2 :: f3 :: f4 :: f5 :: f6 :: f7 :: f8 :: .blk g t (intsA k zs) :: l) w) : BlkI w g t k zs := h.2.2.2.2.2.2.2.2.2.1
theorem Fx.r9 (h : Fx (f0 :: f1 :: f2 :: f3 :: f4 :: f5 :: f6 :: f7 :: f8 :: .rdb k B A n zs :: l) w) : Rd k w w.heap.size A n zs := h.2.2.2.2.2.2.2.2.2.1.1.mono h.2.2.2.2.2.2.2.2.2.1.2
theorem Fx.q9 (h : Fx (f0 :: f1 :: f2 :: f3 :: f4 :: f5 :: f6 :: f7 :: f8 :: .rdb k B A n zs :: l) w) : Rd k w B A n zs := h.2.2.2.2.2.2.2.2.2.1.1
theorem Fx.k9 {R : World → Prop} (h : Fx (f0 :: f1 :: f2 :: f3 :: f4 :: f5 :: f6 :: f7 :: f8 :: .kept B R :: l) w) : R w := h.2.2.2.2.2.2.2.2.2.1.1 _ (Below.refl _ _)
theorem Fx.s9 (h : Fx (f0 :: f1 :: f2 :: f3 :: f4 :: f5 :: f6 :: f7 :: f8 :: .rd k A n zs :: l) w) : Rd k w w.heap.size A n zs := h.2.2.2.2.2.2.2.2.2.1
theorem Fx.e9 (h : Fx (f0 :: f1 :: f2 :: f3 :: f4 :: f5 :: f6 :: f7 :: f8 :: .bel w0 :: l) w) : Below w0.heap.size w0 w := h.2.2.2.2.2.2.2.2.2.1
theorem Fx.b10 (h : Fx (f0 :: f1 :: f2 :: f3 :: f4 :: f5 :: f6 :: f7 :: f8 :: f9 :: .blk g t cs :: l) w) : Blk w g t cs := h.2.2.2.2.2.2.2.2.2.2.1
theorem Fx.i10 (h : Fx (f0 :: f1 :: f2 :: f3 :: f4 :: f5 :: f6 :: f7 :: f8 :: f9 :: .blk g t (intsA k zs) :: l) w) : BlkI w g t k zs := h.2.2.2.2.2.2.2.2.2.2.1
theorem Fx.r10 (h : Fx (f0 :: f1 :: f2 :: f3 :: f4 :: f5 :: f6 :: f7 :: f8 :: f9 :: .rdb k B A n zs :: l) w) : Rd k w w.heap.size A n zs := h.2.2.2.2.2.2.2.2.2.2.1.1.mono h.2.2.2.2.2.2.2.2.2.2.1.2
theorem Fx.q10 (h : Fx (f0 :: f1 :: f2 :: f3 :: f4 :: f5 :: f6 :: f7 :: f8 :: f9 :: .rdb k B A n zs :: l) w) : Rd k w B A n zs := h.2.2.2.2.2.2.2.2.2.2.1.1
theorem Fx.k10 {R : World → Prop} (h : Fx (f0 :: f1 :: f2 :: f3 :: f4 :: f5 :: f6 :: f7 :: f8 :: f9 :: .kept B R :: l) w) : R w := h.2.2.2.2.2.2.2.2.2.2.1.1 _ (Below.refl _ _)
theorem Fx.s10 (h : Fx (f0 :: f1 :: f2 :: f3 :: f4 :: f5 :: f6 :: f7 :: f8 :: f9 :: .rd k A n zs :: l) w) : Rd k w w.heap.size A n zs := h.2.2.2.2.2.2.2.2.2.2.1
theorem Fx.e10 (h : Fx (f0 :: f1 :: f2 :: f3 :: f4 :: f5 :: f6 :: f7 :: f8 :: f9 :: .bel w0 :: l) w) : Below w0.heap.size w0 w := h.2.2.2.2.2.2.2.2.2.2.1
theorem Fx.b11 (h : Fx (f0 :: f1 :: f2 :: f3 :: f4 :: f5 :: f6 :: f7 :: f8 :: f9 :: f10 :: .blk g t cs :: l) w) : Blk w g t cs := h.2.2.2.2.2.2.2.2.2.2.2.1
theorem Fx.i11 (h : Fx (f0 :: f1 :: f2 :: f3 :: f4 :: f5 :: f6 :: f7 :: f8 :: f9 :: f10 :: .blk g t (intsA k zs) :: l) w) : BlkI w g t k zs := h.2.2.2.2.2.2.2.2.2.2.2.1
theorem Fx.r11 (h : Fx (f0 :: f1 :: f2 :: f3 :: f4 :: f5 :: f6 :: f7 :: f8 :: f9 :: f10 :: .rdb k B A n zs :: l) w) : Rd k w w.heap.size A n zs := h.2.2.2.2.2.2.2.2.2.2.2.1.1.mono h.2.2.2.2.2.2.2.2.2.2.2.1.2
theorem Fx.q11 (h : Fx (f0 :: f1 :: f2 :: f3 :: f4 :: f5 :: f6 :: f7 :: f8 :: f9 :: f10 :: .rdb k B A n zs :: l) w) : Rd k w B A n zs := h.2.2.2.2.2.2.2.2.2.2.2.1.1
theorem Fx.k11 {R : World → Prop} (h : Fx (f0 :: f1 :: f2 :: f3 :: f4 :: f5 :: f6 :: f7 :: f8 :: f9 :: f10 :: .kept B R :: l) w) : R w := h.2.2.2.2.2.2.2.2.2.2.2.1.1 _ (Below.refl _ _)
theorem Fx.s11 (h : Fx (f0 :: f1 :: f2 :: f3 :: f4 :: f5 :: f6 :: f7 :: f8 :: f9 :: f10 :: .rd k A n zs :: l) w) : Rd k w w.heap.size A n zs := h.2.2.2.2.2.2.2.2.2.2.2.1
theorem Fx.e11 (h : Fx (f0 :: f1 :: f2 :: f3 :: f4 :: f5 :: f6 :: f7 :: f8 :: f9 :: f10 :: .bel w0 :: l) w) : Below w0.heap.size w0 w := h.2.2.2.2.2.2.2.2.2.2.2.1
theorem Fx.b12 (h : Fx (f0 :: f1 :: f2 :: f3 :: f4 :: f5 :: f6 :: f7 :: f8 :: f9 :: f10 :: f11 :: .blk g t cs :: l) w) : Blk w g t cs := h.2.2.2.2.2.2.2.2.2.2.2.2.1
theorem Fx.i12 (h : Fx (f0 :: f1 :: f2 :: f3 :: f4 :: f5 :: f6 :: f7 :: f8 :: f9 :: f10 :: f11 :: .blk g t (intsA k zs) :: l) w) : BlkI w g t k zs := h.2.2.2.2.2.2.2.2.2.2.2.2.1
theorem Fx.r12 (h : Fx (f0 :: f1 :: f2 :: f3 :: f4 :: f5 :: f6 :: f7 :: f8 :: f9 :: f10 :: f11 :: .rdb k B A n zs :: l) w) : Rd k w w.heap.size A n zs := h.2.2.2.2.2.2.2.2.2.2.2.2.1.1.mono h.2.2.2.2.2.2.2.2.2.2.2.2.1.2
theorem Fx.q12 (h : Fx (f0 :: f1 :: f2 :: f3 :: f4 :: f5 :: f6 :: f7 :: f8 :: f9 :: f10 :: f11 :: .rdb k B A n zs :: l) w) : Rd k w B A n zs := h.2.2.2.2.2.2.2.2.2.2.2.2.1.1
theorem Fx.k12 {R : World → Prop} (h : Fx (f0 :: f1 :: f2 :: f3 :: f4 :: f5 :: f6 :: f7 :: f8 :: f9 :: f10 :: f11 :: .kept B R :: l) w) : R w := h.2.2.2.2.2.2.2.2.2.2.2.2.1.1 _ (Below.refl _ _)
theorem Fx.s12 (h : Fx (f0 :: f1 :: f2 :: f3 :: f4 :: f5 :: f6 :: f7 :: f8 :: f9 :: f10 :: f11 :: .rd k A n zs :: l) w) : Rd k w w.heap.size A n zs := h.2.2.2.2.2.2.2.2.2.2.2.2.1
theorem Fx.e12 (h : Fx (f0 :: f1 :: f2 :: f3 :: f4 :: f5 :: f6 :: f7 :: f8 :: f9 :: f10 :: f11 :: .bel w0 :: l) w) : Below w0.heap.size w0 w := h.2.2.2.2.2.2.2.2.2.2.2.2.1
theorem Fx.b13 (h : Fx (f0 :: f1 :: f2 :: f3 :: f4 :: f5 :: f6 :: f7 :: f8 :: f9 :: f10 :: f11 :: f12 :: .blk g t cs :: l) w) : Blk w g t cs := h.2.2.2.2.2.2.2.2.2.2.2.2.2.1
theorem Fx.i13 (h : Fx (f0 :: f1 :: f2 :: f3 :: f4 :: f5 :: f6 :: f7 :: f8 :: f9 :: f10 :: f11 :: f12 :: .blk g t (intsA k zs) :: l) w) : BlkI w g t k zs := h.2.2.2.2.2.2.2.2.2.2.2.2.2.1
theorem Fx.r13 (h : Fx (f0 :: f1 :: f2 :: f3 :: f4 :: f5 :: f6 :: f7 :: f8 :: f9 :: f10 :: f11 :: f12 :: .rdb k B A n zs :: l) w) : Rd k w w.heap.size A n zs := h.2.2.2.2.2.2.2.2.2.2.2.2.2.1.1.mono h.2.2.2.2.2.2.2.2.2.2.2.2.2.1.2
theorem Fx.q13 (h : Fx (f0 :: f1 :: f2 :: f3 :: f4 :: f5 :: f6 :: f7 :: f8 :: f9 :: f10 :: f11 :: f12 :: .rdb k B A n zs :: l) w) : Rd k w B A n zs := h.2.2.2.2.2.2.2.2.2.2.2.2.2.1.1
theorem Fx.k13 {R : World → Prop} (h : Fx (f0 :: f1 :: f2 :: f3 :: f4 :: f5 :: f6 :: f7 :: f8 :: f9 :: f10 :: f11 :: f12 :: .kept B R :: l) w) : R w := h.2.2.2.2.2.2.2.2.2.2.2.2.2.1.1 _ (Below.refl _ _)
theorem Fx.s13 (h : Fx (f0 :: f1 :: f2 :: f3 :: f4 :: f5 :: f6 :: f7 :: f8 :: f9 :: f10 :: f11 :: f12 :: .rd k A n zs :: l) w) : Rd k w w.heap.size A n zs := h.2.2.2.2.2.2.2.2.2.2.2.2.2.1
theorem Fx.e13 (h : Fx (f0 :: f1 :: f2 :: f3 :: f4 :: f5 :: f6 :: f7 :: f8 :: f9 :: f10 :: f11 :: f12 :: .bel w0 :: l) w) : Below w0.heap.size w0 w := h.2.2.2.2.2.2.2.2.2.2.2.2.2.1
theorem Fx.b14 (h : Fx (f0 :: f1 :: f2 :: f3 :: f4 :: f5 :: f6 :: f7 :: f8 :: f9 :: f10 :: f11 :: f12 :: f13 :: .blk g t cs :: l) w) : Blk w g t cs := h.2.2.2.2.2.2.2.2.2.2.2.2.2.2.1
theorem Fx.i14 (h : Fx (f0 :: f1 :: f2 :: f3 :: f4 :: f5 :: f6 :: f7 :: f8 :: f9 :: f10 :: f11 :: f12 :: f13 :: .blk g t (intsA k zs) :: l) w) : BlkI w g t k zs := h.2.2.2.2.2.2.2.2.2.2.2.2.2.2.1
theorem Fx.r14 (h : Fx (f0 :: f1 :: f2 :: f3 :: f4 :: f5 :: f6 :: f7 :: f8 :: f9 :: f10 :: f11 :: f12 :: f13 :: .rdb k B A n zs :: l) w) : Rd k w w.heap.size A n zs := h.2.2.2.2.2.2.2.2.2.2.2.2.2.2.1.1.mono h.2.2.2.2.2.2.2.2.2.2.2.2.2.2.1.2
theorem Fx.q14 (h : Fx (f0 :: f1 :: f2 :: f3 :: f4 :: f5 :: f6 :: f7 :: f8 :: f9 :: f10 :: f11 :: f12 :: f13 :: .rdb k B A n zs :: l) w) : Rd k w B A n zs := h.2.2.2.2.2.2.2.2.2.2.2.2.2.2.1.1
theorem Fx.k14 {R : World → Prop} (h : Fx (f0 :: f1 :: f2 :: f3 :: f4 :: f5 :: f6 :: f7 :: f8 :: f9 :: f10 :: f11 :: f12 :: f13 :: .kept B R :: l) w) : R w := h.2.2.2.2.2.2.2.2.2.2.2.2.2.2.1.1 _ (Below.refl _ _)
theorem Fx.s14 (h : Fx (f0 :: f1 :: f2 :: f3 :: f4 :: f5 :: f6 :: f7 :: f8 :: f9 :: f10 :: f11 :: f12 :: f13 :: .rd k A n zs :: l) w) : Rd k w w.heap.size A n zs := h.2.2.2.2.2.2.2.2.2.2.2.2.2.2.1
theorem Fx.e14 (h : Fx (f0 :: f1 :: f2 :: f3 :: f4 :: f5 :: f6 :: f7 :: f8 :: f9 :: f10 :: f11 :: f12 :: f13 :: .bel w0 :: l) w) : Below w0.heap.size w0 w := h.2.2.2.2.2.2.2.2.2.2.2.2.2.2.1
theorem Fx.b15 (h : Fx (f0 :: f1 :: f2 :: f3 :: f4 :: f5 :: f6 :: f7 :: f8 :: f9 :: f10 :: f11 :: f12 :: f13 :: f14 :: .blk g t cs :: l) w) : Blk w g t cs := h.2.2.2.2.2.2.2.2.2.2.2.2.2.2.2.1
theorem Fx.i15 (h : Fx (f0 :: f1 :: f2 :: f3 :: f4 :: f5 :: f6 :: f7 :: f8 :: f9 :: f10 :: f11 :: f12 :: f13 :: f14 :: .blk g t (intsA k zs) :: l) w) : BlkI w g t k zs := h.2.2.2.2.2.2.2.2.2.2.2.2.2.2.2.1
theorem Fx.r15 (h : Fx (f0 :: f1 :: f2 :: f3 :: f4 :: f5 :: f6 :: f7 :: f8 :: f9 :: f10 :: f11 :: f12 :: f13 :: f14 :: .rdb k B A n zs :: l) w) : Rd k w w.heap.size A n zs := h.2.2.2.2.2.2.2.2.2.2.2.2.2.2.2.1.1.mono h.2.2.2.2.2.2.2.2.2.2.2.2.2.2.2.1.2
theorem Fx.q15 (h : Fx (f0 :: f1 :: f2 :: f3 :: f4 :: f5 :: f6 :: f7 :: f8 :: f9 :: f10 :: f11 :: f12 :: f13 :: f14 :: .rdb k B A n zs :: l) w) : Rd k w B A n zs := h.2.2.2.2.2.2.2.2.2.2.2.2.2.2.2.1.1
theorem Fx.k15 {R : World → Prop} (h : Fx (f0 :: f1 :: f2 :: f3 :: f4 :: f5 :: f6 :: f7 :: f8 :: f9 :: f10 :: f11 :: f12 :: f13 :: f14 :: .kept B R :: l) w) : R w := h.2.2.2.2.2.2.2.2.2.2.2.2.2.2.2.1.1 _ (Below.refl _ _)
theorem Fx.s15 (h : Fx (f0 :: f1 :: f2 :: f3 :: f4 :: f5 :: f6 :: f7 :: f8 :: f9 :: f10 :: f11 :: f12 :: f13 :: f14 :: .rd k A n zs :: l) w) : Rd k w w.heap.size A n zs := h.2.2.2.2.2.2.2.2.2.2.2.2.2.2.2.1
theorem Fx.e15 (h : Fx (f0 :: f1 :: f2 :: f3 :: f4 :: f5 :: f6 :: f7 :: f8 :: f9 :: f10 :: f11 :: f12 :: f13 :: f14 :: .bel w0 :: l) w) : Below w0.heap.size w0 w := h.2.2.2.2.2.2.2.2.2.2.2.2.2.2.2.1
theorem Fx.b16 (h : Fx (f0 :: f1 :: f2 :: f3 :: f4 :: f5 :: f6 :: f7 :: f8 :: f9 :: f10 :: f11 :: f12 :: f13 :: f14 :: f15 :: .blk g t cs :: l) w) : Blk w g t cs := h.2.2.2.2.2.2.2.2.2.2.2.2.2.2.2.2.1
theorem Fx.i16 (h : Fx (f0 :: f1 :: f2 :: f3 :: f4 :: f5 :: f6 :: f7 :: f8 :: f9 :: f10 :: f11 :: f12 :: f13 :: f14 :: f15 :: .blk g t (intsA k zs) :: l) w) : BlkI w g t k zs := h.2.2.2.2.2.2.2.2.2.2.2.2.2.2.2.2.1
theorem Fx.r16 (h : Fx (f0 :: f1 :: f2 :: f3 :: f4 :: f5 :: f6 :: f7 :: f8 :: f9 :: f10 :: f11 :: f12 :: f13 :: f14 :: f15 :: .rdb k B A n zs :: l) w) : Rd k w w.heap.size A n zs := h.2.2.2.2.2.2.2.2.2.2.2.2.2.2.2.2.1.1.mono h.2.2.2.2.2.2.2.2.2.2.2.2.2.2.2.2.1.2
theorem Fx.q16 (h : Fx (f0 :: f1 :: f2 :: f3 :: f4 :: f5 :: f6 :: f7 :: f8 :: f9 :: f10 :: f11 :: f12 :: f13 :: f14 :: f15 :: .rdb k B A n zs :: l) w) : Rd k w B A n zs := h.2.2.2.2.2.2.2.2.2.2.2.2.2.2.2.2.1.1
theorem Fx.k16 {R : World → Prop} (h : Fx (f0 :: f1 :: f2 :: f3 :: f4 :: f5 :: f6 :: f7 :: f8 :: f9 :: f10 :: f11 :: f12 :: f13 :: f14 :: f15 :: .kept B R :: l) w) : R w := h.2.2.2.2.2.2.2.2.2.2.2.2.2.2.2.2.1.1 _ (Below.refl _ _)
theorem Fx.e16 (h : Fx (f0 :: f1 :: f2 :: f3 :: f4 :: f5 :: f6 :: f7 :: f8 :: f9 :: f10 :: f11 :: f12 :: f13 :: f14 :: f15 :: .bel w0 :: l) w) : Below w0.heap.size w0 w := h.2.2.2.2.2.2.2.2.2.2.2.2.2.2.2.2.1
theorem Fx.b17 (h : Fx (f0 :: f1 :: f2 :: f3 :: f4 :: f5 :: f6 :: f7 :: f8 :: f9 :: f10 :: f11 :: f12 :: f13 :: f14 :: f15 :: f16 :: .blk g t cs :: l) w) : Blk w g t cs := h.2.2.2.2.2.2.2.2.2.2.2.2.2.2.2.2.2.1
theorem Fx.i17 (h : Fx (f0 :: f1 :: f2 :: f3 :: f4 :: f5 :: f6 :: f7 :: f8 :: f9 :: f10 :: f11 :: f12 :: f13 :: f14 :: f15 :: f16 :: .blk g t (intsA k zs) :: l) w) : BlkI w g t k zs := h.2.2.2.2.2.2.2.2.2.2.2.2.2.2.2.2.2.1
theorem Fx.r17 (h : Fx (f0 :: f1 :: f2 :: f3 :: f4 :: f5 :: f6 :: f7 :: f8 :: f9 :: f10 :: f11 :: f12 :: f13 :: f14 :: f15 :: f16 :: .rdb k B A n zs :: l) w) : Rd k w w.heap.size A n zs := h.2.2.2.2.2.2.2.2.2.2.2.2.2.2.2.2.2.1.1.mono h.2.2.2.2.2.2.2.2.2.2.2.2.2.2.2.2.2.1.2
theorem Fx.q17 (h : Fx (f0 :: f1 :: f2 :: f3 :: f4 :: f5 :: f6 :: f7 :: f8 :: f9 :: f10 :: f11 :: f12 :: f13 :: f14 :: f15 :: f16 :: .rdb k B A n zs :: l) w) : Rd k w B A n zs := h.2.2.2.2.2.2.2.2.2.2.2.2.2.2.2.2.2.1.1
theorem Fx.k17 {R : World → Prop} (h : Fx (f0 :: f1 :: f2 :: f3 :: f4 :: f5 :: f6 :: f7 :: f8 :: f9 :: f10 :: f11 :: f12 :: f13 :: f14 :: f15 :: f16 :: .kept B R :: l) w) : R w := h.2.2.2.2.2.2.2.2.2.2.2.2.2.2.2.2.2.1.1 _ (Below.refl _ _)
theorem Fx.e17 (h : Fx (f0 :: f1 :: f2 :: f3 :: f4 :: f5 :: f6 :: f7 :: f8 :: f9 :: f10 :: f11 :: f12 :: f13 :: f14 :: f15 :: f16 :: .bel w0 :: l) w) : Below w0.heap.size w0 w := h.2.2.2.2.2.2.2.2.2.2.2.2.2.2.2.2.2.1
theorem Fx.b18 (h : Fx (f0 :: f1 :: f2 :: f3 :: f4 :: f5 :: f6 :: f7 :: f8 :: f9 :: f10 :: f11 :: f12 :: f13 :: f14 :: f15 :: f16 :: f17 :: .blk g t cs :: l) w) : Blk w g t cs := h.2.2.2.2.2.2.2.2.2.2.2.2.2.2.2.2.2.2.1
theorem Fx.i18 (h : Fx (f0 :: f1 :: f2 :: f3 :: f4 :: f5 :: f6 :: f7 :: f8 :: f9 :: f10 :: f11 :: f12 :: f13 :: f14 :: f15 :: f16 :: f17 :: .blk g t (intsA k zs) :: l) w) : BlkI w g t k zs := h.2.2.2.2.2.2.2.2.2.2.2.2.2.2.2.2.2.2.1
theorem Fx.r18 (h : Fx (f0 :: f1 :: f2 :: f3 :: f4 :: f5 :: f6 :: f7 :: f8 :: f9 :: f10 :: f11 :: f12 :: f13 :: f14 :: f15 :: f16 :: f17 :: .rdb k B A n zs :: l) w) : Rd k w w.heap.size A n zs := h.2.2.2.2.2.2.2.2.2.2.2.2.2.2.2.2.2.2.1.1.mono h.2.2.2.2.2.2.2.2.2.2.2.2.2.2.2.2.2.2.1.2
theorem Fx.q18 (h : Fx (f0 :: f1 :: f2 :: f3 :: f4 :: f5 :: f6 :: f7 :: f8 :: f9 :: f10 :: f11 :: f12 :: f13 :: f14 :: f15 :: f16 :: f17 :: .rdb k B A n zs :: l) w) : Rd k w B A n zs := h.2.2.2.2.2.2.2.2.2.2.2.2.2.2.2.2.2.2.1.1
theorem Fx.k18 {R : World → Prop} (h : Fx (f0 :: f1 :: f2 :: f3 :: f4 :: f5 :: f6 :: f7 :: f8 :: f9 :: f10 :: f11 :: f12 :: f13 :: f14 :: f15 :: f16 :: f17 :: .kept B R :: l) w) : R w := h.2.2.2.2.2.2.2.2.2.2.2.2.2.2.2.2.2.2.1.1 _ (Below.refl _ _)
theorem Fx.e18 (h : Fx (f0 :: f1 :: f2 :: f3 :: f4 :: f5 :: f6 :: f7 :: f8 :: f9 :: f10 :: f11 :: f12 :: f13 :: f14 :: f15 :: f16 :: f17 :: .bel w0 :: l) w) : Below w0.heap.size w0 w := h.2.2.2.2.2.2.2.2.2.2.2.2.2.2.2.2.2.2.1
theorem Fx.b19 (h : Fx (f0 :: f1 :: f2 :: f3 :: f4 :: f5 :: f6 :: f7 :: f8 :: f9 :: f10 :: f11 :: f12 :: f13 :: f14 :: f15 :: f16 :: f17 :: f18 :: .blk g t cs :: l) w) : Blk w g t cs := h.2.2.2.2.2.2.2.2.2.2.2.2.2.2.2.2.2.2.2.1
theorem Fx.i19 (h : Fx (f0 :: f1 :: f2 :: f3 :: f4 :: f5 :: f6 :: f7 :: f8 :: f9 :: f10 :: f11 :: f12 :: f13 :: f14 :: f15 :: f16 :: f17 :: f18 :: .blk g t (intsA k zs) :: l) w) : BlkI w g t k zs := h.2.2.2.2.2.2.2.2.2.2.2.2.2.2.2.2.2.2.2.1
theorem Fx.r19 (h : Fx (f0 :: f1 :: f2 :: f3 :: f4 :: f5 :: f6 :: f7 :: f8 :: f9 :: f10 :: f11 :: f12 :: f13 :: f14 :: f15 :: f16 :: f17 :: f18 :: .rdb k B A n zs :: l) w) : Rd k w w.heap.size A n zs := h.2.2.2.2.2.2.2.2.2.2.2.2.2.2.2.2.2.2.2.1.1.mono h.2.2.2.2.2.2.2.2.2.2.2.2.2.2.2.2.2.2.2.1.2
theorem Fx.q19 (h : Fx (f0 :: f1 :: f2 :: f3 :: f4 :: f5 :: f6 :: f7 :: f8 :: f9 :: f10 :: f11 :: f12 :: f13 :: f14 :: f15 :: f16 :: f17 :: f18 :: .rdb k B A n zs :: l) w) : Rd k w B A n zs := h.2.2.2.2.2.2.2.2.2.2.2.2.2.2.2.2.2.2.2.1.1
theorem Fx.k19 {R : World → Prop} (h : Fx (f0 :: f1 :: f2 :: f3 :: f4 :: f5 :: f6 :: f7 :: f8 :: f9 :: f10 :: f11 :: f12 :: f13 :: f14 :: f15 :: f16 :: f17 :: f18 :: .kept B R :: l) w) : R w := h.2.2.2.2.2.2.2.2.2.2.2.2.2.2.2.2.2.2.2.1.1 _ (Below.refl _ _)
theorem Fx.e19 (h : Fx (f0 :: f1 :: f2 :: f3 :: f4 :: f5 :: f6 :: f7 :: f8 :: f9 :: f10 :: f11 :: f12 :: f13 :: f14 :: f15 :: f16 :: f17 :: f18 :: .bel w0 :: l) w) : Below w0.heap.size w0 w := h.2.2.2.2.2.2.2.2.2.2.2.2.2.2.2.2.2.2.2.1
theorem Fx.b20 (h : Fx (f0 :: f1 :: f2 :: f3 :: f4 :: f5 :: f6 :: f7 :: f8 :: f9 :: f10 :: f11 :: f12 :: f13 :: f14 :: f15 :: f16 :: f17 :: f18 :: f19 :: .blk g t cs :: l) w) : Blk w g t cs := h.2.2.2.2.2.2.2.2.2.2.2.2.2.2.2.2.2.2.2.2.1
theorem Fx.i20 (h : Fx (f0 :: f1 :: f2 :: f3 :: f4 :: f5 :: f6 :: f7 :: f8 :: f9 :: f10 :: f11 :: f12 :: f13 :: f14 :: f15 :: f16 :: f17 :: f18 :: f19 :: .blk g t (intsA k zs) :: l) w) : BlkI w g t k zs := h.2.2.2.2.2.2.2.2.2.2.2.2.2.2.2.2.2.2.2.2.1
theorem Fx.r20 (h : Fx (f0 :: f1 :: f2 :: f3 :: f4 :: f5 :: f6 :: f7 :: f8 :: f9 :: f10 :: f11 :: f12 :: f13 :: f14 :: f15 :: f16 :: f17 :: f18 :: f19 :: .rdb k B A n zs :: l) w) : Rd k w w.heap.size A n zs := h.2.2.2.2.2.2.2.2.2.2.2.2.2.2.2.2.2.2.2.2.1.1.mono h.2.2.2.2.2.2.2.2.2.2.2.2.2.2.2.2.2.2.2.2.1.2
theorem Fx.q20 (h : Fx (f0 :: f1 :: f2 :: f3 :: f4 :: f5 :: f6 :: f7 :: f8 :: f9 :: f10 :: f11 :: f12 :: f13 :: f14 :: f15 :: f16 :: f17 :: f18 :: f19 :: .rdb k B A n zs :: l) w) : Rd k w B A n zs := h.2.2.2.2.2.2.2.2.2.2.2.2.2.2.2.2.2.2.2.2.1.1
theorem Fx.k20 {R : World → Prop} (h : Fx (f0 :: f1 :: f2 :: f3 :: f4 :: f5 :: f6 :: f7 :: f8 :: f9 :: f10 :: f11 :: f12 :: f13 :: f14 :: f15 :: f16 :: f17 :: f18 :: f19 :: .kept B R :: l) w) : R w := h.2.2.2.2.2.2.2.2.2.2.2.2.2.2.2.2.2.2.2.2.1.1 _ (Below.refl _ _)
theorem Fx.e20 (h : Fx (f0 :: f1 :: f2 :: f3 :: f4 :: f5 :: f6 :: f7 :: f8 :: f9 :: f10 :: f11 :: f12 :: f13 :: f14 :: f15 :: f16 :: f17 :: f18 :: f19 :: .bel w0 :: l) w) : Below w0.heap.size w0 w := h.2.2.2.2.2.2.2.2.2.2.2.2.2.2.2.2.2.2.2.2.1
theorem Fx.b21 (h : Fx (f0 :: f1 :: f2 :: f3 :: f4 :: f5 :: f6 :: f7 :: f8 :: f9 :: f10 :: f11 :: f12 :: f13 :: f14 :: f15 :: f16 :: f17 :: f18 :: f19 :: f20 :: .blk g t cs :: l) w) : Blk w g t cs := h.2.2.2.2.2.2.2.2.2.2.2.2.2.2.2.2.2.2.2.2.2.1
theorem Fx.i21 (h : Fx (f0 :: f1 :: f2 :: f3 :: f4 :: f5 :: f6 :: f7 :: f8 :: f9 :: f10 :: f11 :: f12 :: f13 :: f14 :: f15 :: f16 :: f17 :: f18 :: f19 :: f20 :: .blk g t (intsA k zs) :: l) w) : BlkI w g t k zs := h.2.2.2.2.2.2.2.2.2.2.2.2.2.2.2.2.2.2.2.2.2.1
theorem Fx.r21 (h : Fx (f0 :: f1 :: f2 :: f3 :: f4 :: f5 :: f6 :: f7 :: f8 :: f9 :: f10 :: f11 :: f12 :: f13 :: f14 :: f15 :: f16 :: f17 :: f18 :: f19 :: f20 :: .rdb k B A n zs :: l) w) : Rd k w w.heap.size A n zs := h.2.2.2.2.2.2.2.2.2.2.2.2.2.2.2.2.2.2.2.2.2.1.1.mono h.2.2.2.2.2.2.2.2.2.2.2.2.2.2.2.2.2.2.2.2.2.1.2
theorem Fx.q21 (h : Fx (f0 :: f1 :: f2 :: f3 :: f4 :: f5 :: f6 :: f7 :: f8 :: f9 :: f10 :: f11 :: f12 :: f13 :: f14 :: f15 :: f16 :: f17 :: f18 :: f19 :: f20 :: .rdb k B A n zs :: l) w) : Rd k w B A n zs := h.2.2.2.2.2.2.2.2.2.2.2.2.2.2.2.2.2.2.2.2.2.1.1
theorem Fx.k21 {R : World → Prop} (h : Fx (f0 :: f1 :: f2 :: f3 :: f4 :: f5 :: f6 :: f7 :: f8 :: f9 :: f10 :: f11 :: f12 :: f13 :: f14 :: f15 :: f16 :: f17 :: f18 :: f19 :: f20 :: .kept B R :: l) w) : R w := h.2.2.2.2.2.2.2.2.2.2.2.2.2.2.2.2.2.2.2.2.2.1.1 _ (Below.refl _ _)
theorem Fx.e21 (h : Fx (f0 :: f1 :: f2 :: f3 :: f4 :: f5 :: f6 :: f7 :: f8 :: f9 :: f10 :: f11 :: f12 :: f13 :: f14 :: f15 :: f16 :: f17 :: f18 :: f19 :: f20 :: .bel w0 :: l) w) : Below w0.heap.size w0 w := h.2.2.2.2.2.2.2.2.2.2.2.2.2.2.2.2.2.2.2.2.2.1
theorem Fx.b22 (h : Fx (f0 :: f1 :: f2 :: f3 :: f4 :: f5 :: f6 :: f7 :: f8 :: f9 :: f10 :: f11 :: f12 :: f13 :: f14 :: f15 :: f16 :: f17 :: f18 :: f19 :: f20 :: f21 :: .blk g t cs :: l) w) : Blk w g t cs := h.2.2.2.2.2.2.2.2.2.2.2.2.2.2.2.2.2.2.2.2.2.2.1
theorem Fx.i22 (h : Fx (f0 :: f1 :: f2 :: f3 :: f4 :: f5 :: f6 :: f7 :: f8 :: f9 :: f10 :: f11 :: f12 :: f13 :: f14 :: f15 :: f16 :: f17 :: f18 :: f19 :: f20 :: f21 :: .blk g t (intsA k zs) :: l) w) : BlkI w g t k zs := h.2.2.2.2.2.2.2.2.2.2.2.2.2.2.2.2.2.2.2.2.2.2.1
theorem Fx.r22 (h : Fx (f0 :: f1 :: f2 :: f3 :: f4 :: f5 :: f6 :: f7 :: f8 :: f9 :: f10 :: f11 :: f12 :: f13 :: f14 :: f15 :: f16 :: f17 :: f18 :: f19 :: f20 :: f21 :: .rdb k B A n zs :: l) w) : Rd k w w.heap.size A n zs := h.2.2.2.2.2.2.2.2.2.2.2.2.2.2.2.2.2.2.2.2.2.2.1.1.mono h.2.2.2.2.2.2.2.2.2.2.2.2.2.2.2.2.2.2.2.2.2.2.1.2
theorem Fx.q22 (h : Fx (f0 :: f1 :: f2 :: f3 :: f4 :: f5 :: f6 :: f7 :: f8 :: f9 :: f10 :: f11 :: f12 :: f13 :: f14 :: f15 :: f16 :: f17 :: f18 :: f19 :: f20 :: f21 :: .rdb k B A n zs :: l) w) : Rd k w B A n zs := h.2.2.2.2.2.2.2.2.2.2.2.2.2.2.2.2.2.2.2.2.2.2.1.1
theorem Fx.k22 {R : World → Prop} (h : Fx (f0 :: f1 :: f2 :: f3 :: f4 :: f5 :: f6 :: f7 :: f8 :: f9 :: f10 :: f11 :: f12 :: f13 :: f14 :: f15 :: f16 :: f17 :: f18 :: f19 :: f20 :: f21 :: .kept B R :: l) w) : R w := h.2.2.2.2.2.2.2.2.2.2.2.2.2.2.2.2.2.2.2.2.2.2.1.1 _ (Below.refl _ _)
theorem Fx.e22 (h : Fx (f0 :: f1 :: f2 :: f3 :: f4 :: f5 :: f6 :: f7 :: f8 :: f9 :: f10 :: f11 :: f12 :: f13 :: f14 :: f15 :: f16 :: f17 :: f18 :: f19 :: f20 :: f21 :: .bel w0 :: l) w) : Below w0.heap.size w0 w := h.2.2.2.2.2.2.2.2.2.2.2.2.2.2.2.2.2.2.2.2.2.2.1
theorem Fx.b23 (h : Fx (f0 :: f1 :: f2 :: f3 :: f4 :: f5 :: f6 :: f7 :: f8 :: f9 :: f10 :: f11 :: f12 :: f13 :: f14 :: f15 :: f16 :: f17 :: f18 :: f19 :: f20 :: f21 :: f22 :: .blk g t cs :: l) w) : Blk w g t cs := h.2.2.2.2.2.2.2.2.2.2.2.2.2.2.2.2.2.2.2.2.2.2.2.1
theorem Fx.i23 (h : Fx (f0 :: f1 :: f2 :: f3 :: f4 :: f5 :: f6 :: f7 :: f8 :: f9 :: f10 :: f11 :: f12 :: f13 :: f14 :: f15 :: f16 :: f17 :: f18 :: f19 :: f20 :: f21 :: f22 :: .blk g t (intsA k zs) :: l) w) : BlkI w g t k zs := h.2.2.2.2.2.2.2.2.2.2.2.2.2.2.2.2.2.2.2.2.2.2.2.1
theorem Fx.r23 (h : Fx (f0 :: f1 :: f2 :: f3 :: f4 :: f5 :: f6 :: f7 :: f8 :: f9 :: f10 :: f11 :: f12 :: f13 :: f14 :: f15 :: f16 :: f17 :: f18 :: f19 :: f20 :: f21 :: f22 :: .rdb k B A n zs :: l) w) : Rd k w w.heap.size A n zs := h.2.2.2.2.2.2.2.2.2.2.2.2.2.2.2.2.2.2.2.2.2.2.2.1.1.mono h.2.2.2.2.2.2.2.2.2.2.2.2.2.2.2.2.2.2.2.2.2.2.2.1.2
theorem Fx.q23 (h : Fx (f0 :: f1 :: f2 :: f3 :: f4 :: f5 :: f6 :: f7 :: f8 :: f9 :: f10 :: f11 :: f12 :: f13 :: f14 :: f15 :: f16 :: f17 :: f18 :: f19 :: f20 :: f21 :: f22 :: .rdb k B A n zs :: l) w) : Rd k w B A n zs := h.2.2.2.2.2.2.2.2.2.2.2.2.2.2.2.2.2.2.2.2.2.2.2.1.1
theorem Fx.k23 {R : World → Prop} (h : Fx (f0 :: f1 :: f2 :: f3 :: f4 :: f5 :: f6 :: f7 :: f8 :: f9 :: f10 :: f11 :: f12 :: f13 :: f14 :: f15 :: f16 :: f17 :: f18 :: f19 :: f20 :: f21 :: f22 :: .kept B R :: l) w) : R w := h.2.2.2.2.2.2.2.2.2.2.2.2.2.2.2.2.2.2.2.2.2.2.2.1.1 _ (Below.refl _ _)
theorem Fx.e23 (h : Fx (f0 :: f1 :: f2 :: f3 :: f4 :: f5 :: f6 :: f7 :: f8 :: f9 :: f10 :: f11 :: f12 :: f13 :: f14 :: f15 :: f16 :: f17 :: f18 :: f19 :: f20 :: f21 :: f22 :: .bel w0 :: l) w) : Below w0.heap.size w0 w := h.2.2.2.2.2.2.2.2.2.2.2.2.2.2.2.2.2.2.2.2.2.2.2.1
theorem Fx.b24 (h : Fx (f0 :: f1 :: f2 :: f3 :: f4 :: f5 :: f6 :: f7 :: f8 :: f9 :: f10 :: f11 :: f12 :: f13 :: f14 :: f15 :: f16 :: f17 :: f18 :: f19 :: f20 :: f21 :: f22 :: f23 :: .blk g t cs :: l) w) : Blk w g t cs := h.2.2.2.2.2.2.2.2.2.2.2.2.2.2.2.2.2.2.2.2.2.2.2.2.1
theorem Fx.i24 (h : Fx (f0 :: f1 :: f2 :: f3 :: f4 :: f5 :: f6 :: f7 :: f8 :: f9 :: f10 :: f11 :: f12 :: f13 :: f14 :: f15 :: f16 :: f17 :: f18 :: f19 :: f20 :: f21 :: f22 :: f23 :: .blk g t (intsA k zs) :: l) w) : BlkI w g t k zs := h.2.2.2.2.2.2.2.2.2.2.2.2.2.2.2.2.2.2.2.2.2.2.2.2.1
theorem Fx.r24 (h : Fx (f0 :: f1 :: f2 :: f3 :: f4 :: f5 :: f6 :: f7 :: f8 :: f9 :: f10 :: f11 :: f12 :: f13 :: f14 :: f15 :: f16 :: f17 :: f18 :: f19 :: f20 :: f21 :: f22 :: f23 :: .rdb k B A n zs :: l) w) : Rd k w w.heap.size A n zs := h.2.2.2.2.2.2.2.2.2.2.2.2.2.2.2.2.2.2.2.2.2.2.2.2.1.1.mono h.2.2.2.2.2.2.2.2.2.2.2.2.2.2.2.2.2.2.2.2.2.2.2.2.1.2
theorem Fx.q24 (h : Fx (f0 :: f1 :: f2 :: f3 :: f4 :: f5 :: f6 :: f7 :: f8 :: f9 :: f10 :: f11 :: f12 :: f13 :: f14 :: f15 :: f16 :: f17 :: f18 :: f19 :: f20 :: f21 :: f22 :: f23 :: .rdb k B A n zs :: l) w) : Rd k w B A n zs := h.2.2.2.2.2.2.2.2.2.2.2.2.2.2.2.2.2.2.2.2.2.2.2.2.1.1
theorem Fx.k24 {R : World → Prop} (h : Fx (f0 :: f1 :: f2 :: f3 :: f4 :: f5 :: f6 :: f7 :: f8 :: f9 :: f10 :: f11 :: f12 :: f13 :: f14 :: f15 :: f16 :: f17 :: f18 :: f19 :: f20 :: f21 :: f22 :: f23 :: .kept B R :: l) w) : R w := h.2.2.2.2.2.2.2.2.2.2.2.2.2.2.2.2.2.2.2.2.2.2.2.2.1.1 _ (Below.refl _ _)
theorem Fx.e24 (h : Fx (f0 :: f1 :: f2 :: f3 :: f4 :: f5 :: f6 :: f7 :: f8 :: f9 :: f10 :: f11 :: f12 :: f13 :: f14 :: f15 :: f16 :: f17 :: f18 :: f19 :: f20 :: f21 :: f22 :: f23 :: .bel w0 :: l) w) : Below w0.heap.size w0 w := h.2.2.2.2.2.2.2.2.2.2.2.2.2.2.2.2.2.2.2.2.2.2.2.2.1
theorem Fx.b25 (h : Fx (f0 :: f1 :: f2 :: f3 :: f4 :: f5 :: f6 :: f7 :: f8 :: f9 :: f10 :: f11 :: f12 :: f13 :: f14 :: f15 :: f16 :: f17 :: f18 :: f19 :: f20 :: f21 :: f22 :: f23 :: f24 :: .blk g t cs :: l) w) : Blk w g t cs := h.2.2.2.2.2.2.2.2.2.2.2.2.2.2.2.2.2.2.2.2.2.2.2.2.2.1
theorem Fx.i25 (h : Fx (f0 :: f1 :: f2 :: f3 :: f4 :: f5 :: f6 :: f7 :: f8 :: f9 :: f10 :: f11 :: f12 :: f13 :: f14 :: f15 :: f16 :: f17 :: f18 :: f19 :: f20 :: f21 :: f22 :: f23 :: f24 :: .blk g t (intsA k zs) :: l) w) : BlkI w g t k zs := h.2.2.2.2.2.2.2.2.2.2.2.2.2.2.2.2.2.2.2.2.2.2.2.2.2.1
theorem Fx.r25 (h : Fx (f0 :: f1 :: f2 :: f3 :: f4 :: f5 :: f6 :: f7 :: f8 :: f9 :: f10 :: f11 :: f12 :: f13 :: f14 :: f15 :: f16 :: f17 :: f18 :: f19 :: f20 :: f21 :: f22 :: f23 :: f24 :: .rdb k B A n zs :: l) w) : Rd k w w.heap.size A n zs := h.2.2.2.2.2.2.2.2.2.2.2.2.2.2.2.2.2.2.2.2.2.2.2.2.2.1.1.mono h.2.2.2.2.2.2.2.2.2.2.2.2.2.2.2.2.2.2.2.2.2.2.2.2.2.1.2
theorem Fx.q25 (h : Fx (f0 :: f1 :: f2 :: f3 :: f4 :: f5 :: f6 :: f7 :: f8 :: f9 :: f10 :: f11 :: f12 :: f13 :: f14 :: f15 :: f16 :: f17 :: f18 :: f19 :: f20 :: f21 :: f22 :: f23 :: f24 :: .rdb k B A n zs :: l) w) : Rd k w B A n zs := h.2.2.2.2.2.2.2.2.2.2.2.2.2.2.2.2.2.2.2.2.2.2.2.2.2.1.1
theorem Fx.k25 {R : World → Prop} (h : Fx (f0 :: f1 :: f2 :: f3 :: f4 :: f5 :: f6 :: f7 :: f8 :: f9 :: f10 :: f11 :: f12 :: f13 :: f14 :: f15 :: f16 :: f17 :: f18 :: f19 :: f20 :: f21 :: f22 :: f23 :: f24 :: .kept B R :: l) w) : R w := h.2.2.2.2.2.2.2.2.2.2.2.2.2.2.2.2.2.2.2.2.2.2.2.2.2.1.1 _ (Below.refl _ _)
theorem Fx.e25 (h : Fx (f0 :: f1 :: f2 :: f3 :: f4 :: f5 :: f6 :: f7 :: f8 :: f9 :: f10 :: f11 :: f12 :: f13 :: f14 :: f15 :: f16 :: f17 :: f18 :: f19 :: f20 :: f21 :: f22 :: f23 :: f24 :: .bel w0 :: l) w) : Below w0.heap.size w0 w := h.2.2.2.2.2.2.2.2.2.2.2.2.2.2.2.2.2.2.2.2.2.2.2.2.2.1
theorem Fx.b26 (h : Fx (f0 :: f1 :: f2 :: f3 :: f4 :: f5 :: f6 :: f7 :: f8 :: f9 :: f10 :: f11 :: f12 :: f13 :: f14 :: f15 :: f16 :: f17 :: f18 :: f19 :: f20 :: f21 :: f22 :: f23 :: f24 :: f25 :: .blk g t cs :: l) w) : Blk w g t cs := h.2.2.2.2.2.2.2.2.2.2.2.2.2.2.2.2.2.2.2.2.2.2.2.2.2.2.1
theorem Fx.i26 (h : Fx (f0 :: f1 :: f2 :: f3 :: f4 :: f5 :: f6 :: f7 :: f8 :: f9 :: f10 :: f11 :: f12 :: f13 :: f14 :: f15 :: f16 :: f17 :: f18 :: f19 :: f20 :: f21 :: f22 :: f23 :: f24 :: f25 :: .blk g t (intsA k zs) :: l) w) : BlkI w g t k zs := h.2.2.2.2.2.2.2.2.2.2.2.2.2.2.2.2.2.2.2.2.2.2.2.2.2.2.1
theorem Fx.r26 (h : Fx (f0 :: f1 :: f2 :: f3 :: f4 :: f5 :: f6 :: f7 :: f8 :: f9 :: f10 :: f11 :: f12 :: f13 :: f14 :: f15 :: f16 :: f17 :: f18 :: f19 :: f20 :: f21 :: f22 :: f23 :: f24 :: f25 :: .rdb k B A n zs :: l) w) : Rd k w w.heap.size A n zs := h.2.2.2.2.2.2.2.2.2.2.2.2.2.2.2.2.2.2.2.2.2.2.2.2.2.2.1.1.mono h.2.2.2.2.2.2.2.2.2.2.2.2.2.2.2.2.2.2.2.2.2.2.2.2.2.2.1.2
theorem Fx.q26 (h : Fx (f0 :: f1 :: f2 :: f3 :: f4 :: f5 :: f6 :: f7 :: f8 :: f9 :: f10 :: f11 :: f12 :: f13 :: f14 :: f15 :: f16 :: f17 :: f18 :: f19 :: f20 :: f21 :: f22 :: f23 :: f24 :: f25 :: .rdb k B A n zs :: l) w) : Rd k w B A n zs := h.2.2.2.2.2.2.2.2.2.2.2.2.2.2.2.2.2.2.2.2.2.2.2.2.2.2.1.1
theorem Fx.k26 {R : World → Prop} (h : Fx (f0 :: f1 :: f2 :: f3 :: f4 :: f5 :: f6 :: f7 :: f8 :: f9 :: f10 :: f11 :: f12 :: f13 :: f14 :: f15 :: f16 :: f17 :: f18 :: f19 :: f20 :: f21 :: f22 :: f23 :: f24 :: f25 :: .kept B R :: l) w) : R w := h.2.2.2.2.2.2.2.2.2.2.2.2.2.2.2.2.2.2.2.2.2.2.2.2.2.2.1.1 _ (Below.refl _ _)
theorem Fx.e26 (h : Fx (f0 :: f1 :: f2 :: f3 :: f4 :: f5 :: f6 :: f7 :: f8 :: f9 :: f10 :: f11 :: f12 :: f13 :: f14 :: f15 :: f16 :: f17 :: f18 :: f19 :: f20 :: f21 :: f22 :: f23 :: f24 :: f25 :: .bel w0 :: l) w) : Below w0.heap.size w0 w := h.2.2.2.2.2.2.2.2.2.2.2.2.2.2.2.2.2.2.2.2.2.2.2.2.2.2.1
theorem Fx.b27 (h : Fx (f0 :: f1 :: f2 :: f3 :: f4 :: f5 :: f6 :: f7 :: f8 :: f9 :: f10 :: f11 :: f12 :: f13 :: f14 :: f15 :: f16 :: f17 :: f18 :: f19 :: f20 :: f21 :: f22 :: f23 :: f24 :: f25 :: f26 :: .blk g t cs :: l) w) : Blk w g t cs := h.2.2.2.2.2.2.2.2.2.2.2.2.2.2.2.2.2.2.2.2.2.2.2.2.2.2.2.1
theorem Fx.i27 (h : Fx (f0 :: f1 :: f2 :: f3 :: f4 :: f5 :: f6 :: f7 :: f8 :: f9 :: f10 :: f11 :: f12 :: f13 :: f14 :: f15 :: f16 :: f17 :: f18 :: f19 :: f20 :: f21 :: f22 :: f23 :: f24 :: f25 :: f26 :: .blk g t (intsA k zs) :: l) w) : BlkI w g t k zs := h.2.2.2.2.2.2.2.2.2.2.2.2.2.2.2.2.2.2.2.2.2.2.2.2.2.2.2.1
theorem Fx.r27 (h : Fx (f0 :: f1 :: f2 :: f3 :: f4 :: f5 :: f6 :: f7 :: f8 :: f9 :: f10 :: f11 :: f12 :: f13 :: f14 :: f15 :: f16 :: f17 :: f18 :: f19 :: f20 :: f21 :: f22 :: f23 :: f24 :: f25 :: f26 :: .rdb k B A n zs :: l) w) : Rd k w w.heap.size A n zs := h.2.2.2.2.2.2.2.2.2.2.2.2.2.2.2.2.2.2.2.2.2.2.2.2.2.2.2.1.1.mono h.2.2.2.2.2.2.2.2.2.2.2.2.2.2.2.2.2.2.2.2.2.2.2.2.2.2.2.1.2
theorem Fx.q27 (h : Fx (f0 :: f1 :: f2 :: f3 :: f4 :: f5 :: f6 :: f7 :: f8 :: f9 :: f10 :: f11 :: f12 :: f13 :: f14 :: f15 :: f16 :: f17 :: f18 :: f19 :: f20 :: f21 :: f22 :: f23 :: f24 :: f25 :: f26 :: .rdb k B A n zs :: l) w) : Rd k w B A n zs := h.2.2.2.2.2.2.2.2.2.2.2.2.2.2.2.2.2.2.2.2.2.2.2.2.2.2.2.1.1
theorem Fx.k27 {R : World → Prop} (h : Fx (f0 :: f1 :: f2 :: f3 :: f4 :: f5 :: f6 :: f7 :: f8 :: f9 :: f10 :: f11 :: f12 :: f13 :: f14 :: f15 :: f16 :: f17 :: f18 :: f19 :: f20 :: f21 :: f22 :: f23 :: f24 :: f25 :: f26 :: .kept B R :: l) w) : R w := h.2.2.2.2.2.2.2.2.2.2.2.2.2.2.2.2.2.2.2.2.2.2.2.2.2.2.2.1.1 _ (Below.refl _ _)
theorem Fx.e27 (h : Fx (f0 :: f1 :: f2 :: f3 :: f4 :: f5 :: f6 :: f7 :: f8 :: f9 :: f10 :: f11 :: f12 :: f13 :: f14 :: f15 :: f16 :: f17 :: f18 :: f19 :: f20 :: f21 :: f22 :: f23 :: f24 :: f25 :: f26 :: .bel w0 :: l) w) : Below w0.heap.size w0 w := h.2.2.2.2.2.2.2.2.2.2.2.2.2.2.2.2.2.2.2.2.2.2.2.2.2.2.2.1
theorem Fx.b28 (h : Fx (f0 :: f1 :: f2 :: f3 :: f4 :: f5 :: f6 :: f7 :: f8 :: f9 :: f10 :: f11 :: f12 :: f13 :: f14 :: f15 :: f16 :: f17 :: f18 :: f19 :: f20 :: f21 :: f22 :: f23 :: f24 :: f25 :: f26 :: f27 :: .blk g t cs :: l) w) : Blk w g t cs := h.2.2.2.2.2.2.2.2.2.2.2.2.2.2.2.2.2.2.2.2.2.2.2.2.2.2.2.2.1
theorem Fx.i28 (h : Fx (f0 :: f1 :: f2 :: f3 :: f4 :: f5 :: f6 :: f7 :: f8 :: f9 :: f10 :: f11 :: f12 :: f13 :: f14 :: f15 :: f16 :: f17 :: f18 :: f19 :: f20 :: f21 :: f22 :: f23 :: f24 :: f25 :: f26 :: f27 :: .blk g t (intsA k zs) :: l) w) : BlkI w g t k zs := h.2.2.2.2.2.2.2.2.2.2.2.2.2.2.2.2.2.2.2.2.2.2.2.2.2.2.2.2.1
theorem Fx.r28 (h : Fx (f0 :: f1 :: f2 :: f3 :: f4 :: f5 :: f6 :: f7 :: f8 :: f9 :: f10 :: f11 :: f12 :: f13 :: f14 :: f15 :: f16 :: f17 :: f18 :: f19 :: f20 :: f21 :: f22 :: f23 :: f24 :: f25 :: f26 :: f27 :: .rdb k B A n zs :: l) w) : Rd k w w.heap.size A n zs := h.2.2.2.2.2.2.2.2.2.2.2.2.2.2.2.2.2.2.2.2.2.2.2.2.2.2.2.2.1.1.mono h.2.2.2.2.2.2.2.2.2.2.2.2.2.2.2.2.2.2.2.2.2.2.2.2.2.2.2.2.1.2
theorem Fx.q28 (h : Fx (f0 :: f1 :: f2 :: f3 :: f4 :: f5 :: f6 :: f7 :: f8 :: f9 :: f10 :: f11 :: f12 :: f13 :: f14 :: f15 :: f16 :: f17 :: f18 :: f19 :: f20 :: f21 :: f22 :: f23 :: f24 :: f25 :: f26 :: f27 :: .rdb k B A n zs :: l) w) : Rd k w B A n zs := h.2.2.2.2.2.2.2.2.2.2.2.2.2.2.2.2.2.2.2.2.2.2.2.2.2.2.2.2.1.1
theorem Fx.k28 {R : World → Prop} (h : Fx (f0 :: f1 :: f2 :: f3 :: f4 :: f5 :: f6 :: f7 :: f8 :: f9 :: f10 :: f11 :: f12 :: f13 :: f14 :: f15 :: f16 :: f17 :: f18 :: f19 :: f20 :: f21 :: f22 :: f23 :: f24 :: f25 :: f26 :: f27 :: .kept B R :: l) w) : R w := h.2.2.2.2.2.2.2.2.2.2.2.2.2.2.2.2.2.2.2.2.2.2.2.2.2.2.2.2.1.1 _ (Below.refl _ _)
theorem Fx.e28 (h : Fx (f0 :: f1 :: f2 :: f3 :: f4 :: f5 :: f6 :: f7 :: f8 :: f9 :: f10 :: f11 :: f12 :: f13 :: f14 :: f15 :: f16 :: f17 :: f18 :: f19 :: f20 :: f21 :: f22 :: f23 :: f24 :: f25 :: f26 :: f27 :: .bel w0 :: l) w) : Below w0.heap.size w0 w := h.2.2.2.2.2.2.2.2.2.2.2.2.2.2.2.2.2.2.2.2.2.2.2.2.2.2.2.2.1
theorem Fx.b29 (h : Fx (f0 :: f1 :: f2 :: f3 :: f4 :: f5 :: f6 :: f7 :: f8 :: f9 :: f10 :: f11 :: f12 :: f13 :: f14 :: f15 :: f16 :: f17 :: f18 :: f19 :: f20 :: f21 :: f22 :: f23 :: f24 :: f25 :: f26 :: f27 :: f28 :: .blk g t cs :: l) w) : Blk w g t cs := h.2.2.2.2.2.2.2.2.2.2.2.2.2.2.2.2.2.2.2.2.2.2.2.2.2.2.2.2.2.1
theorem Fx.i29 (h : Fx (f0 :: f1 :: f2 :: f3 :: f4 :: f5 :: f6 :: f7 :: f8 :: f9 :: f10 :: f11 :: f12 :: f13 :: f14 :: f15 :: f16 :: f17 :: f18 :: f19 :: f20 :: f21 :: f22 :: f23 :: f24 :: f25 :: f26 :: f27 :: f28 :: .blk g t (intsA k zs) :: l) w) : BlkI w g t k zs := h.2.2.2.2.2.2.2.2.2.2.2.2.2.2.2.2.2.2.2.2.2.2.2.2.2.2.2.2.2.1
theorem Fx.r29 (h : Fx (f0 :: f1 :: f2 :: f3 :: f4 :: f5 :: f6 :: f7 :: f8 :: f9 :: f10 :: f11 :: f12 :: f13 :: f14 :: f15 :: f16 :: f17 :: f18 :: f19 :: f20 :: f21 :: f22 :: f23 :: f24 :: f25 :: f26 :: f27 :: f28 :: .rdb k B A n zs :: l) w) : Rd k w w.heap.size A n zs := h.2.2.2.2.2.2.2.2.2.2.2.2.2.2.2.2.2.2.2.2.2.2.2.2.2.2.2.2.2.1.1.mono h.2.2.2.2.2.2.2.2.2.2.2.2.2.2.2.2.2.2.2.2.2.2.2.2.2.2.2.2.2.1.2
theorem Fx.q29 (h : Fx (f0 :: f1 :: f2 :: f3 :: f4 :: f5 :: f6 :: f7 :: f8 :: f9 :: f10 :: f11 :: f12 :: f13 :: f14 :: f15 :: f16 :: f17 :: f18 :: f19 :: f20 :: f21 :: f22 :: f23 :: f24 :: f25 :: f26 :: f27 :: f28 :: .rdb k B A n zs :: l) w) : Rd k w B A n zs := h.2.2.2.2.2.2.2.2.2.2.2.2.2.2.2.2.2.2.2.2.2.2.2.2.2.2.2.2.2.1.1
theorem Fx.k29 {R : World → Prop} (h : Fx (f0 :: f1 :: f2 :: f3 :: f4 :: f5 :: f6 :: f7 :: f8 :: f9 :: f10 :: f11 :: f12 :: f13 :: f14 :: f15 :: f16 :: f17 :: f18 :: f19 :: f20 :: f21 :: f22 :: f23 :: f24 :: f25 :: f26 :: f27 :: f28 :: .kept B R :: l) w) : R w := h.2.2.2.2.2.2.2.2.2.2.2.2.2.2.2.2.2.2.2.2.2.2.2.2.2.2.2.2.2.1.1 _ (Below.refl _ _)
theorem Fx.e29 (h : Fx (f0 :: f1 :: f2 :: f3 :: f4 :: f5 :: f6 :: f7 :: f8 :: f9 :: f10 :: f11 :: f12 :: f13 :: f14 :: f15 :: f16 :: f17 :: f18 :: f19 :: f20 :: f21 :: f22 :: f23 :: f24 :: f25 :: f26 :: f27 :: f28 :: .bel w0 :: l) w) : Below w0.heap.size w0 w := h.2.2.2.2.2.2.2.2.2.2.2.2.2.2.2.2.2.2.2.2.2.2.2.2.2.2.2.2.2.1
theorem Fx.b30 (h : Fx (f0 :: f1 :: f2 :: f3 :: f4 :: f5 :: f6 :: f7 :: f8 :: f9 :: f10 :: f11 :: f12 :: f13 :: f14 :: f15 :: f16 :: f17 :: f18 :: f19 :: f20 :: f21 :: f22 :: f23 :: f24 :: f25 :: f26 :: f27 :: f28 :: f29 :: .blk g t cs :: l) w) : Blk w g t cs := h.2.2.2.2.2.2.2.2.2.2.2.2.2.2.2.2.2.2.2.2.2.2.2.2.2.2.2.2.2.2.1
theorem Fx.i30 (h : Fx (f0 :: f1 :: f2 :: f3 :: f4 :: f5 :: f6 :: f7 :: f8 :: f9 :: f10 :: f11 :: f12 :: f13 :: f14 :: f15 :: f16 :: f17 :: f18 :: f19 :: f20 :: f21 :: f22 :: f23 :: f24 :: f25 :: f26 :: f27 :: f28 :: f29 :: .blk g t (intsA k zs) :: l) w) : BlkI w g t k zs := h.2.2.2.2.2.2.2.2.2.2.2.2.2.2.2.2.2.2.2.2.2.2.2.2.2.2.2.2.2.2.1
theorem Fx.r30 (h : Fx (f0 :: f1 :: f2 :: f3 :: f4 :: f5 :: f6 :: f7 :: f8 :: f9 :: f10 :: f11 :: f12 :: f13 :: f14 :: f15 :: f16 :: f17 :: f18 :: f19 :: f20 :: f21 :: f22 :: f23 :: f24 :: f25 :: f26 :: f27 :: f28 :: f29 :: .rdb k B A n zs :: l) w) : Rd k w w.heap.size A n zs := h.2.2.2.2.2.2.2.2.2.2.2.2.2.2.2.2.2.2.2.2.2.2.2.2.2.2.2.2.2.2.1.1.mono h.2.2.2.2.2.2.2.2.2.2.2.2.2.2.2.2.2.2.2.2.2.2.2.2.2.2.2.2.2.2.1.2
theorem Fx.q30 (h : Fx (f0 :: f1 :: f2 :: f3 :: f4 :: f5 :: f6 :: f7 :: f8 :: f9 :: f10 :: f11 :: f12 :: f13 :: f14 :: f15 :: f16 :: f17 :: f18 :: f19 :: f20 :: f21 :: f22 :: f23 :: f24 :: f25 :: f26 :: f27 :: f28 :: f29 :: .rdb k B A n zs :: l) w) : Rd k w B A n zs := h.2.2.2.2.2.2.2.2.2.2.2.2.2.2.2.2.2.2.2.2.2.2.2.2.2.2.2.2.2.2.1.1
theorem Fx.k30 {R : World → Prop} (h : Fx (f0 :: f1 :: f2 :: f3 :: f4 :: f5 :: f6 :: f7 :: f8 :: f9 :: f10 :: f11 :: f12 :: f13 :: f14 :: f15 :: f16 :: f17 :: f18 :: f19 :: f20 :: f21 :: f22 :: f23 :: f24 :: f25 :: f26 :: f27 :: f28 :: f29 :: .kept B R :: l) w) : R w := h.2.2.2.2.2.2.2.2.2.2.2.2.2.2.2.2.2.2.2.2.2.2.2.2.2.2.2.2.2.2.1.1 _ (Below.refl _ _)
theorem Fx.e30 (h : Fx (f0 :: f1 :: f2 :: f3 :: f4 :: f5 :: f6 :: f7 :: f8 :: f9 :: f10 :: f11 :: f12 :: f13 :: f14 :: f15 :: f16 :: f17 :: f18 :: f19 :: f20 :: f21 :: f22 :: f23 :: f24 :: f25 :: f26 :: f27 :: f28 :: f29 :: .bel w0 :: l) w) : Below w0.heap.size w0 w := h.2.2.2.2.2.2.2.2.2.2.2.2.2.2.2.2.2.2.2.2.2.2.2.2.2.2.2.2.2.2.1
theorem Fx.b31 (h : Fx (f0 :: f1 :: f2 :: f3 :: f4 :: f5 :: f6 :: f7 :: f8 :: f9 :: f10 :: f11 :: f12 :: f13 :: f14 :: f15 :: f16 :: f17 :: f18 :: f19 :: f20 :: f21 :: f22 :: f23 :: f24 :: f25 :: f26 :: f27 :: f28 :: f29 :: f30 :: .blk g t cs :: l) w) : Blk w g t cs := h.2.2.2.2.2.2.2.2.2.2.2.2.2.2.2.2.2.2.2.2.2.2.2.2.2.2.2.2.2.2.2.1
theorem Fx.i31 (h : Fx (f0 :: f1 :: f2 :: f3 :: f4 :: f5 :: f6 :: f7 :: f8 :: f9 :: f10 :: f11 :: f12 :: f13 :: f14 :: f15 :: f16 :: f17 :: f18 :: f19 :: f20 :: f21 :: f22 :: f23 :: f24 :: f25 :: f26 :: f27 :: f28 :: f29 :: f30 :: .blk g t (intsA k zs) :: l) w) : BlkI w g t k zs := h.2.2.2.2.2.2.2.2.2.2.2.2.2.2.2.2.2.2.2.2.2.2.2.2.2.2.2.2.2.2.2.1
theorem Fx.r31 (h : Fx (f0 :: f1 :: f2 :: f3 :: f4 :: f5 :: f6 :: f7 :: f8 :: f9 :: f10 :: f11 :: f12 :: f13 :: f14 :: f15 :: f16 :: f17 :: f18 :: f19 :: f20 :: f21 :: f22 :: f23 :: f24 :: f25 :: f26 :: f27 :: f28 :: f29 :: f30 :: .rdb k B A n zs :: l) w) : Rd k w w.heap.size A n zs := h.2.2.2.2.2.2.2.2.2.2.2.2.2.2.2.2.2.2.2.2.2.2.2.2.2.2.2.2.2.2.2.1.1.mono h.2.2.2.2.2.2.2.2.2.2.2.2.2.2.2.2.2.2.2.2.2.2.2.2.2.2.2.2.2.2.2.1.2
theorem Fx.q31 (h : Fx (f0 :: f1 :: f2 :: f3 :: f4 :: f5 :: f6 :: f7 :: f8 :: f9 :: f10 :: f11 :: f12 :: f13 :: f14 :: f15 :: f16 :: f17 :: f18 :: f19 :: f20 :: f21 :: f22 :: f23 :: f24 :: f25 :: f26 :: f27 :: f28 :: f29 :: f30 :: .rdb k B A n zs :: l) w) : Rd k w B A n zs := h.2.2.2.2.2.2.2.2.2.2.2.2.2.2.2.2.2.2.2.2.2.2.2.2.2.2.2.2.2.2.2.1.1
theorem Fx.k31 {R : World → Prop} (h : Fx (f0 :: f1 :: f2 :: f3 :: f4 :: f5 :: f6 :: f7 :: f8 :: f9 :: f10 :: f11 :: f12 :: f13 :: f14 :: f15 :: f16 :: f17 :: f18 :: f19 :: f20 :: f21 :: f22 :: f23 :: f24 :: f25 :: f26 :: f27 :: f28 :: f29 :: f30 :: .kept B R :: l) w) : R w := h.2.2.2.2.2.2.2.2.2.2.2.2.2.2.2.2.2.2.2.2.2.2.2.2.2.2.2.2.2.2.2.1.1 _ (Below.refl _ _)
theorem Fx.e31 (h : Fx (f0 :: f1 :: f2 :: f3 :: f4 :: f5 :: f6 :: f7 :: f8 :: f9 :: f10 :: f11 :: f12 :: f13 :: f14 :: f15 :: f16 :: f17 :: f18 :: f19 :: f20 :: f21 :: f22 :: f23 :: f24 :: f25 :: f26 :: f27 :: f28 :: f29 :: f30 :: .bel w0 :: l) w) : Below w0.heap.size w0 w := h.2.2.2.2.2.2.2.2.2.2.2.2.2.2.2.2.2.2.2.2.2.2.2.2.2.2.2.2.2.2.2.1
end
end Go.Proofs.YtepclbmcacdhlaaGreatDoor
/-
  What laws need of memory: slices of literal numbers, a cell of a block stored, answers said by what they are.
  Conditions: those that each theorem names.
-/
set_option maxRecDepth 100000
set_option linter.unusedVariables false
set_option linter.unusedSimpArgs false
namespace Go.Proofs.YtepclbmcacdhlaaGreatDoor
open Go.ChangeShapes Go.WideShapes Go.ChangeAt Go.RowKit
section
variable {ops : Array Oper} {rest : List Oper} {o : Oper} {a : Act} {w : World} {Q : Exit → Act → World → Prop}
theorem wpList_run_gd {P : Program} (hw : Region.wanted o (yielded ops a.tmps) = true) (v : Value) (w' : World) (hv : (execOp a.eval o).run P w = .ok (.value v) w')
    (h : wpList P ops Q rest (a.put o.dst v) w') : wpList P ops Q (o :: rest) a w :=
  wpList_step fun K hK => by
    rw [if_pos hw]
    unfold Oper.wp
    simp only [hv]
    exact hK _ _ h
theorem run_build_u64_4 (x y z v : Int) (w : World) : (Instr.buildSlice 22 4 #[(0, .int .u64 x), (1, .int .u64 y), (2, .int .u64 z), (3, .int .u64 v)]).run Tryz.prog w = .ok (.slice (some ⟨w.heap.size, 0, none⟩) 4 4) (w.alloc (.cells #[.int .u64 x, .int .u64 y, .int .u64 z, .int .u64 v] 24)) := by
  go_simp
theorem run_build_u64_2 (x y : Int) (w : World) : (Instr.buildSlice 22 2 #[(0, .int .u64 x), (1, .int .u64 y)]).run Tryz.prog w = .ok (.slice (some ⟨w.heap.size, 0, none⟩) 2 2) (w.alloc (.cells #[.int .u64 x, .int .u64 y] 24)) := by
  go_simp
theorem rd_alloc (w : World) (e : TypeId) (k : IntKind) (zs : List Int) : Rd k (w.alloc (.cells (intsA k zs) e)) (w.alloc (.cells (intsA k zs) e)).heap.size (some ⟨w.heap.size, 0, none⟩) zs.length zs := by
  refine ⟨rfl, fun _ => ⟨w.heap.size, 0, rfl, (Blk.new w e (intsA k zs)).lt, fun j hj => ?_⟩⟩
  rw [(Blk.new w e (intsA k zs)).cell, Nat.zero_add]
  simp [intsA, hj]
theorem wpList_build4 (hw : Region.wanted o (yielded ops a.tmps) = true) (p q r s : Operand) (ho : o.op = .buildSlice 22 4 #[(0, p), (1, q), (2, r), (3, s)]) (x y z v : Int) (hp : a.eval p = .int .u64 x) (hq : a.eval q = .int .u64 y) (hr : a.eval r = .int .u64 z) (hs : a.eval s = .int .u64 v)
    (h : ∀ g w', Rd .u64 w' w'.heap.size (some ⟨g, 0, none⟩) 4 [x, y, z, v] → Below w.heap.size w w' → wpList Tryz.prog ops Q rest (a.put o.dst (.slice (some ⟨g, 0, none⟩) 4 4)) w') : wpList Tryz.prog ops Q (o :: rest) a w := by
  refine wpList_run_gd hw (.slice (some ⟨w.heap.size, 0, none⟩) 4 4) (w.alloc (.cells #[.int .u64 x, .int .u64 y, .int .u64 z, .int .u64 v] 24)) ?_ (h _ _ (rd_alloc w _ .u64 [x, y, z, v]) ((Below.refl _ _).alloc (Nat.le_refl _) _))
  have hr1 := run_build_u64_4 x y z v w
  unfold execOp
  simp only [ho, List.map_toArray, List.map_cons, List.map_nil, hp, hq, hr, hs]
  change ((Instr.buildSlice 22 4 #[(0, .int .u64 x), (1, .int .u64 y), (2, .int .u64 z), (3, .int .u64 v)]) >>= fun v => pure (Next.value v)).run Tryz.prog w = _
  simp only [Sem.run_bind, hr1, Result.andThen_ok, Sem.run_pure]
theorem wpList_build2 (hw : Region.wanted o (yielded ops a.tmps) = true) (p q : Operand) (ho : o.op = .buildSlice 22 2 #[(0, p), (1, q)]) (x y : Int) (hp : a.eval p = .int .u64 x) (hq : a.eval q = .int .u64 y)
    (h : ∀ g w', Rd .u64 w' w'.heap.size (some ⟨g, 0, none⟩) 2 [x, y] → Below w.heap.size w w' → wpList Tryz.prog ops Q rest (a.put o.dst (.slice (some ⟨g, 0, none⟩) 2 2)) w') : wpList Tryz.prog ops Q (o :: rest) a w := by
  refine wpList_run_gd hw (.slice (some ⟨w.heap.size, 0, none⟩) 2 2) (w.alloc (.cells #[.int .u64 x, .int .u64 y] 24)) ?_ (h _ _ (rd_alloc w _ .u64 [x, y]) ((Below.refl _ _).alloc (Nat.le_refl _) _))
  have hr1 := run_build_u64_2 x y w
  unfold execOp
  simp only [ho, List.map_toArray, List.map_cons, List.map_nil, hp, hq]
  change ((Instr.buildSlice 22 2 #[(0, .int .u64 x), (1, .int .u64 y)]) >>= fun v => pure (Next.value v)).run Tryz.prog w = _
  simp only [Sem.run_bind, hr1, Result.andThen_ok, Sem.run_pure]
end
theorem Fx.addS {l : List Fact} {w w' : World} {k : IntKind} {A : Option Addr} {n : Nat} {zs : List Int} (h : Fx l w) (hb : Below w.heap.size w w') (hr : Rd k w' w'.heap.size A n zs) : Fx (.rd k A n zs :: l) w' := ⟨hr, h.below hb⟩
theorem Fx.lit4 {l : List Fact} {w : World} (h : Fx l w) (x y z v : Int) : Fx (.rdb .u64 (w.alloc (.cells #[.int .u64 x, .int .u64 y, .int .u64 z, .int .u64 v] 24)).heap.size (some ⟨w.heap.size, 0, none⟩) 4 [x, y, z, v] :: l) (w.alloc (.cells #[.int .u64 x, .int .u64 y, .int .u64 z, .int .u64 v] 24)) :=
  Fx.addR h ((Below.refl _ _).alloc (Nat.le_refl _) _) (rd_alloc w _ .u64 [x, y, z, v])
section
variable {P : Program} {ops : Array Oper} {rest : List Oper} {o : Oper} {a : Act} {w : World} {Q : Exit → Act → World → Prop}
/-- A cell of a block is stored; what else stays, said as of a whole row. -/
theorem wpList_store_cell_any (hgd : o.guard = none) (ty : TypeId) (x y : Operand) (ho : o.op = .store ty x y) (g off : Nat) (hx : a.eval x = .pointer (some ⟨g, off, none⟩)) (t : TypeId) (cs : Array Value) (hb : Blk w g t cs)
    (v : Value) (hy : a.eval y = v) (hl : off < cs.size) (hz : (P.info? ty).map (·.size) = some 1) (h1 : v.cells = #[v]) (h2 : v.oneCell' = true)
    (h : ∀ w', Hid (Blk w' g t (cs.setIfInBounds off v)) → Hid (w'.heap.size = w.heap.size) → (∀ B, B ≤ g → Below B w w') → (∀ j, j ≠ g → w'.heap[j]? = w.heap[j]?) → wpList P ops Q rest (a.put o.dst undef) w') : wpList P ops Q (o :: rest) a w := by
  refine wpList_plain hgd fun K hK => ?_
  have hrun := run_storeVar_cell (P := P) (w := w) g off ty v (hb.there off 1 (by omega)) hz h1 h2
  unfold Oper.wp execOp
  simp only [ho, hx, hy, Instr.storeAt, Instr.sureAddr, Sem.run_bind, Sem.run_pure, Result.andThen_ok, hrun]
  exact hK _ _ (h _ (hb.set_ off v) (show _ = _ by simp [World.setCell]) (fun B hB => (Only.setCell g off w v).below hB (Nat.le_of_lt (Nat.lt_of_le_of_lt hB hb.lt))) (fun j hj => Below.heap_setCell w ⟨g, off, none⟩ v j hj))
end
theorem intsA_put (k : IntKind) (l : List Int) (j : Nat) (z : Int) : (intsA k l).setIfInBounds j (.int k z) = intsA k (l.set j z) := by
  apply Array.ext'
  simp [intsA, List.map_set]
theorem Fx.own {l : List Fact} {w : World} {k : IntKind} {g n : Nat} {t : TypeId} {zs : List Int} (h : Fx (.blk g t (intsA k zs) :: l) w) (hn : zs.length = n) : Rd k w w.heap.size (some ⟨g, 0, none⟩) n zs := by
  subst hn
  have hb : Blk w g t (intsA k zs) := h.1
  exact ⟨rfl, fun _ => ⟨g, 0, rfl, hb.lt, fun j hj => by rw [hb.cell, Nat.zero_add]; simp [intsA, hj]⟩⟩
theorem Fx.at0 {l : List Fact} {w : World} {k : IntKind} {g : Nat} {t : TypeId} {zs : List Int} (h : Fx (.blk g t (intsA k zs) :: l) w) (j : Nat) (x : Int) (hj : j < zs.length) (hx : zs.getD j 0 = x) : w.cell? ⟨g, j, none⟩ = some (.int k x) := by
  have hb : Blk w g t (intsA k zs) := h.1
  rw [hb.cell, ← hx]
  simp [intsA, hj]
section
variable {P : Program} {f : FuncId} {args : Array Value} {w : World}
theorem calls_val {v v' : Value} (h : Calls P f args w fun e w' => e = .returned v ∧ Below w.heap.size w w') (hv : v = v') : Calls P f args w fun e w' => e = .returned v' ∧ Below w.heap.size w w' := by
  subst hv
  exact h
theorem calls_pure {v v' : Value} (h : Calls P f args w fun e w' => e = .returned v ∧ w = w') (hv : v = v') : Calls P f args w fun e w' => e = .returned v' ∧ w = w' := by
  subst hv
  exact h
end
theorem tup_ub {a b : Int} {p q : Bool} (h : a = b) (h2 : p = q) : Value.tuple #[.int .u64 a, .bool p] = .tuple #[.int .u64 b, .bool q] := by rw [h, h2]
theorem tup_ui {a b c d : Int} (h : a = b) (h2 : c = d) : Value.tuple #[.int .u64 a, .int .i64 c] = .tuple #[.int .u64 b, .int .i64 d] := by rw [h, h2]
theorem tup_ii {a b c d : Int} (h : a = b) (h2 : c = d) : Value.tuple #[.int .i64 a, .int .i64 c] = .tuple #[.int .i64 b, .int .i64 d] := by rw [h, h2]
end Go.Proofs.YtepclbmcacdhlaaGreatDoor
/-
  What the laws of stage 11 need of memory: slices of literal numbers, a tree's own field, answers with their lengths said apart.
  Conditions: those that each theorem names.
-/
set_option maxRecDepth 100000
set_option linter.unusedVariables false
set_option linter.unusedSimpArgs false
namespace Go.Proofs.YtepclbmcacdhlaaGreatDoor
open Go.ChangeShapes Go.WideShapes Go.ChangeAt Go.RowKit
section
variable {ops : Array Oper} {rest : List Oper} {o : Oper} {a : Act} {w : World} {Q : Exit → Act → World → Prop}
/-- A tree's numbers, loaded. -/
theorem wpList_load_fld (hw : Region.wanted o (yielded ops a.tmps) = true) (x : Operand) (ho : o.op = .load 22 x) (g : Nat) (hx : a.eval x = .pointer (some ⟨g, 0, none⟩)) (t : TypeId) (v : Value) (hb : Blk w g t #[v])
    (h : wpList Tryz.prog ops Q rest (a.put o.dst v) w) : wpList Tryz.prog ops Q (o :: rest) a w := by
  refine wpList_run_gd hw v w ?_ h
  have p : w.cell? ⟨g, 0, none⟩ = some v := by rw [hb.cell]; rfl
  unfold execOp
  simp only [ho, hx]
  go_simp
/-- A whole tree, loaded. -/
theorem wpList_load_fen (hw : Region.wanted o (yielded ops a.tmps) = true) (x : Operand) (ho : o.op = .load 38 x) (g : Nat) (hx : a.eval x = .pointer (some ⟨g, 0, none⟩)) (t : TypeId) (v : Value) (hb : Blk w g t #[v])
    (h : wpList Tryz.prog ops Q rest (a.put o.dst (.agg #[v])) w) : wpList Tryz.prog ops Q (o :: rest) a w := by
  refine wpList_run_gd hw (.agg #[v]) w ?_ h
  have p : w.cell? ⟨g, 0, none⟩ = some v := by rw [hb.cell]; rfl
  unfold execOp
  simp only [ho, hx]
  go_simp
end
/-- A block that was apart is stored, and named. -/
theorem Fx.storeN {l : List Fact} {w w' : World} {g : Nat} {t : TypeId} {cs ys : Array Value} (h : Fx l w) (hk : Blk w g t cs) (ha : Fx.off g cs l) (hk2 : Blk w' g t ys) (hs : w'.heap.size = w.heap.size) (hb : ∀ B, B ≤ g → Below B w w') (ho : ∀ j, j ≠ g → w'.heap[j]? = w.heap[j]?) : Fx (.blk g t ys :: l) w' := ⟨hk2, Fx.store h hk ha hs hb ho⟩
theorem noint_slice (k : IntKind) (A : Option Addr) (n c : Nat) : NoInt k #[.slice A n c] := noint_fen _ (fun _ _ h => by cases h) k
/-! ### answers whose lengths are said apart -/
def RetFenN (w : World) (n : Nat) (ts : List Int) (er : Int) (e : Ending) (w' : World) : Prop := ∃ A c, e = .returned (.tuple #[.agg #[.slice A n c], .int .i64 er]) ∧ Rd .u64 w' w'.heap.size A n ts ∧ n ≤ c ∧ c ≤ maxLen ∧ Below w.heap.size w w'
def RetLstN (w : World) (n : Nat) (ts : List Int) (er : Int) (e : Ending) (w' : World) : Prop := ∃ A c, e = .returned (.tuple #[.slice A n c, .int .i64 er]) ∧ Rd .u64 w' w'.heap.size A n ts ∧ n ≤ c ∧ c ≤ maxLen ∧ Below w.heap.size w w'
def RetLN (w : World) (n : Nat) (ts : List Int) (e : Ending) (w' : World) : Prop := ∃ A c, e = .returned (.slice A n c) ∧ Rd .u64 w' w'.heap.size A n ts ∧ n ≤ c ∧ c ≤ maxLen ∧ Below w.heap.size w w'
def RetTreeN (w : World) (n : Nat) (ts : List Int) (e : Ending) (w' : World) : Prop := ∃ A c, e = .returned (.agg #[.slice A n c]) ∧ Rd .u64 w' w'.heap.size A n ts ∧ n ≤ c ∧ c ≤ maxLen ∧ Below w.heap.size w w'
section
variable {P : Program} {f : FuncId} {args : Array Value} {w : World} {n : Nat} {ts ts' l : List Int} {er er' : Int}
theorem calls_fen (h : Calls P f args w (RetFen w ts er)) (h1 : ts = ts') (h2 : er = er') (hn : ts'.length = n) : Calls P f args w (RetFenN w n ts' er') := by
  subst h1 h2 hn
  exact h
theorem calls_lst (h : Calls P f args w (RetLst w ts er)) (h1 : ts = ts') (h2 : er = er') (hn : ts'.length = n) : Calls P f args w (RetLstN w n ts' er') := by
  subst h1 h2 hn
  exact h
theorem calls_l (h : Calls P f args w (RetL w ts)) (hn : ts.length = n) : Calls P f args w (RetLN w n ts) := by
  subst hn
  exact h
theorem calls_tree (h : Calls P f args w (RetTree w l)) (hn : l.length = n) : Calls P f args w (RetTreeN w n (treeL l)) := by
  subst hn
  exact h
end
/-! ### the document's example -/
theorem low1 : lowN 1 = 1 := lowN_odd rfl
theorem low2 : lowN 2 = 2 := by rw [lowN_even (by omega) rfl]; show 2 * lowN 1 = 2; rw [low1]
theorem low3 : lowN 3 = 1 := lowN_odd rfl
theorem low4 : lowN 4 = 4 := by rw [lowN_even (by omega) rfl]; show 2 * lowN 2 = 4; rw [low2]
theorem low5 : lowN 5 = 1 := lowN_odd rfl
theorem tree4 (a b c d : Int) : treeL [a, b, c, d] = [a, a + b, c, a + b + c + d] := by
  simp only [treeL, List.length_cons, List.length_nil, List.range_succ, List.range_zero, List.nil_append, List.cons_append, List.map_cons, List.map_nil, Nat.zero_add, Nat.reduceAdd, low1, low2, low3, low4, Nat.reduceSub, Nat.sub_self]
  simp [preL, sumL]
  omega
theorem tree5 (a b c d e : Int) : treeL [a, b, c, d, e] = [a, a + b, c, a + b + c + d, e] := by
  simp only [treeL, List.length_cons, List.length_nil, List.range_succ, List.range_zero, List.nil_append, List.cons_append, List.map_cons, List.map_nil, Nat.zero_add, Nat.reduceAdd, low1, low2, low3, low4, low5, Nat.reduceSub, Nat.sub_self]
  simp [preL, sumL]
  omega
end Go.Proofs.YtepclbmcacdhlaaGreatDoor
/-
  What drawlotref09 returns: sums, differences and products below 2^63, or refused; whether two lists are the same.
  Conditions: the numbers lie in their type's range; the slices read as lists.
-/
set_option maxRecDepth 100000
set_option linter.unusedSimpArgs false
namespace Go.Proofs.YtepclbmcacdhlaaGreatDoor
open Go.ChangeShapes Go.WideShapes Go.ChangeAt Go.RowKit
set_option linter.unusedVariables false
-- arith
theorem r9add_c (a b : Int) (a0 : 0 ≤ a) (a1 : a < 18446744073709551616) (b0 : 0 ≤ b) (b1 : b < 18446744073709551616) (w : World) : Calls Tryz.prog 28 #[.int .u64 a, .int .u64 b] w fun e w' => e = .returned (.tuple #[.int .u64 (addV a b), .bool (addO a b)]) ∧ w = w' := by
  by_cases h : a + b < 9223372036854775808
  · have HV := Lib.hid (addV_ok h)
    have h1 : ¬ 9223372036854775808 ≤ a := by omega
    have h2 : ¬ 9223372036854775808 - a ≤ b := by omega
    go_enter Tryz.func28, Tryz.ntmps28
    go_wp2
    go_ret2
    exact ⟨ret_pair (sym2 HV.out), rfl⟩
  · have HV := Lib.hid (addV_no h)
    by_cases h1 : 9223372036854775808 ≤ a
    · go_enter Tryz.func28, Tryz.ntmps28
      go_wp2
      go_ret2
      exact ⟨ret_pair (sym2 HV.out), rfl⟩
    · have h2 : 9223372036854775808 - a ≤ b := by omega
      go_enter Tryz.func28, Tryz.ntmps28
      go_wp2
      go_ret2
      exact ⟨ret_pair (sym2 HV.out), rfl⟩
-- arith end
set_option maxHeartbeats 2000000 in
theorem r9total_c (zs : List Int) (hz : ∀ z ∈ zs, 0 ≤ z ∧ z < 18446744073709551616) (A : Option Addr) (n c : Nat) (hn : n ≤ maxLen) (w : World) (hrd : Rd .u64 w w.heap.size A n zs) : Calls Tryz.prog 16 #[.slice A n c] w fun e w' => e = .returned (.tuple #[.int .u64 (sumV zs), .bool (sumO zs)]) ∧ w = w' := by
  have HR := Lib.hid hrd
  have HZ := Lib.hid hz
  have hlen := hrd.len
  have hnm : (n : Int) ≤ 9223372036854775807 := by unfold maxLen at hn; omega
  have hle := fun k => sumL_le (l := zs) (fun z h => (hz z h).1) k
  have hst := fun k h => sumL_take (l := zs) (k := k) h
  have htk : zs.take n = zs := by rw [← hlen, List.take_length]
  have HLE := Lib.hid hle
  have HST := Lib.hid hst
  clear hrd hz hn hle hst
  go_enter Tryz.func16, Tryz.ntmps16
  go_wp2
  go_loopw [4, 5] (fun s i wr => ∃ k : Nat, k ≤ n ∧ i = .int .i64 (k : Int) ∧ s = .int .u64 (sumL (zs.take k)) ∧ 0 ≤ sumL (zs.take k) ∧ sumL (zs.take k) < 9223372036854775808 ∧ wr = w) (fun _ i _ => n - (intOf i).toNat)
  case atStart => exact ⟨0, by omega, rfl, rfl, Int.le_refl _, (by show (0 : Int) < 9223372036854775808; omega), by first | rfl | trivial⟩
  case round =>
    obtain ⟨k, hk, rfl, rfl, h0, h1, rfl⟩ := hrel
    by_cases hlt : k < n
    · obtain ⟨b, off, rfl, _, hc⟩ := HR.out.at_ (by omega)
      have hck := hc k hlt
      have hzk := HZ.out _ (getD_in (l := zs) (k := k) (by omega))
      have hsk := HST.out k (by omega)
      have hl1 := HLE.out (k + 1)
      have HSK := Lib.hid hsk
      obtain ⟨z, hzz⟩ : ∃ z, zs.getD k 0 = z := ⟨_, rfl⟩
      obtain ⟨S, hS⟩ : ∃ S, sumL (zs.take k) = S := ⟨_, rfl⟩
      obtain ⟨S1, hS1⟩ : ∃ S, sumL (zs.take (k + 1)) = S := ⟨_, rfl⟩
      rw [hzz, hS] at HSK
      rw [hzz] at hck hzk hsk
      rw [hS] at h0 h1 hsk ⊢
      rw [hS1] at hl1 hsk
      have hadd := fun W => r9add_c S z h0 (by omega) hzk.1 hzk.2 W
      by_cases hs : S + z < 9223372036854775808
      · rw [(addV_ok hs).1, (addV_ok hs).2] at hadd
        have HADD := Lib.hid hadd
        clear hadd hc hzz hS hS1 hsk hl1
        go_wp2_with (first
          | (go_at_call 28; (with_reducible refine (HADD.out _).mono ?_); rintro e _ ⟨rfl, rfl⟩))
        go_roundw
        case rel => exact ⟨k + 1, by omega, by go_num, by rw [HSK.out], by rw [HSK.out]; omega, by rw [HSK.out]; exact hs, by first | rfl | trivial⟩
        case measure => simp [intOf]; omega
      · rw [(addV_no hs).1, (addV_no hs).2] at hadd
        have hno : ¬ sumL zs < 9223372036854775808 := by omega
        have HADD := Lib.hid hadd
        have HNO := Lib.hid (sumV_no hno)
        clear hadd hc hzz hS hS1 hsk hl1 hno
        go_wp2_with (first
          | (go_at_call 28; (with_reducible refine (HADD.out _).mono ?_); rintro e _ ⟨rfl, rfl⟩))
        go_ret2
        exact ⟨ret_pair (sym2 HNO.out), by first | rfl | trivial⟩
    · obtain rfl : k = n := by omega
      rw [htk] at h0 h1 ⊢
      have HOK := Lib.hid (sumV_ok h1)
      go_wp2
      go_ret2
      exact ⟨ret_pair (sym2 HOK.out), by first | rfl | trivial⟩
set_option maxHeartbeats 2000000 in
theorem r9same_c (xs ys : List Int) (A B : Option Addr) (n m c d : Nat) (hn : n ≤ maxLen) (hm : m ≤ maxLen) (w : World) (hra : Rd .u64 w w.heap.size A n xs) (hrb : Rd .u64 w w.heap.size B m ys) : Calls Tryz.prog 22 #[.slice A n c, .slice B m d] w fun e w' => e = .returned (.bool (decide (xs = ys))) ∧ Below w.heap.size w w' := by
  have HA := Lib.hid hra
  have HB := Lib.hid hrb
  have hla := hra.len
  have hlb := hrb.len
  have hnm : (n : Int) ≤ 9223372036854775807 := by unfold maxLen at hn; omega
  clear hra hrb hn hm
  by_cases hl : n = m
  · subst hl
    have t0 : ((n : Int) != (n : Int)) = false := by simp
    go_enter Tryz.func22, Tryz.ntmps22
    go_wp2
    go_loopw [5] (fun i wr => ∃ k : Nat, k ≤ n ∧ i = .int .i64 (k : Int) ∧ (∀ j, j < k → xs.getD j 0 = ys.getD j 0) ∧ Below w.heap.size w wr) (fun i _ => n - (intOf i).toNat)
    case atStart => exact ⟨0, by omega, rfl, fun j h => absurd h (by omega), Below.refl _ _⟩
    case round =>
      obtain ⟨k, hk, rfl, heq, hbl⟩ := hrel
      have HEQ := Lib.hid heq
      have HBL := Lib.hid hbl
      by_cases hlt : k < n
      · obtain ⟨b1, o1, rfl, _, hc1⟩ := (HA.out.below hbl).at_ (by omega)
        obtain ⟨b2, o2, rfl, _, hc2⟩ := (HB.out.below hbl).at_ (by omega)
        have hk1 := hc1 k hlt
        have hk2 := hc2 k hlt
        obtain ⟨x, hx⟩ : ∃ x, xs.getD k 0 = x := ⟨_, rfl⟩
        obtain ⟨y, hy⟩ : ∃ y, ys.getD k 0 = y := ⟨_, rfl⟩
        rw [hx] at hk1
        rw [hy] at hk2
        have i0 : (0 : Int) ≤ (k : Int) := by omega
        have i1 : (k : Int) < (n : Int) := by omega
        clear heq hbl hc1 hc2
        by_cases hxy : x = y
        · subst hxy
          have HK : ∀ j, j < k + 1 → xs.getD j 0 = ys.getD j 0 := fun j hj => by
            by_cases h : j = k
            · rw [h, hx, hy]
            · exact HEQ.out j (by omega)
          have HKK := Lib.hid HK
          have t1 : (x != x) = false := by simp
          clear hx hy HEQ HK
          go_wp2
          go_quiet (fail)
          go_wp2
          go_roundw
          case rel => exact ⟨k + 1, by omega, by go_num, HKK.out, HBL.out.trans (below_drewN (Below.refl _ _) _)⟩
          case measure => simp [intOf]; omega
        · have hne : ¬ xs = ys := fun h => hxy (by rw [← hx, ← hy, h])
          have t1 : (x != y) = true := by simp [bne, hxy]
          have HNE := Lib.hid hne
          clear hx hy HEQ hne
          go_wp2
          go_quiet (fail)
          go_wp2
          go_ret
          exact ⟨ret_bool (decide_eq_false HNE.out).symm, below_drewN HBL.out _⟩
      · have hxy : xs = ys := ext_getD (by omega) fun j hj => heq j (by omega)
        obtain rfl : k = n := by omega
        have HXY := Lib.hid hxy
        clear heq hbl hxy
        go_wp2
        go_ret
        exact ⟨ret_bool (decide_eq_true HXY.out).symm, HBL.out⟩
  · have t0 : ((n : Int) != (m : Int)) = true := by simp [bne]; omega
    have hne : ¬ xs = ys := fun h => hl (by rw [← hla, ← hlb, h])
    have HNE := Lib.hid hne
    clear hne
    go_enter Tryz.func22, Tryz.ntmps22
    go_wp2
    go_ret
    exact ⟨ret_bool (decide_eq_false HNE.out).symm, Below.refl _ _⟩
end Go.Proofs.YtepclbmcacdhlaaGreatDoor
/-
  What drawlotref11's low, sum and Owner return.
  Conditions: the number is above 0 and below 2^62; the stakes aren't below 0, their sum is below 2^63 (sum).
-/
set_option maxRecDepth 100000
set_option linter.unusedSimpArgs false
namespace Go.Proofs.YtepclbmcacdhlaaGreatDoor
open Go.ChangeShapes Go.WideShapes Go.ChangeAt Go.RowKit
set_option linter.unusedVariables false
theorem ret_i64 {a b : Nat} (h : a = b) : Ending.returned (.int .i64 (a : Int)) = .returned (.int .i64 (b : Int)) := by rw [h]
set_option maxHeartbeats 2000000 in
theorem r11low_c (n : Nat) (h0 : n ≠ 0) (hn : n < 4611686018427387904) (w : World) : Calls Tryz.prog 24 #[.int .i64 (n : Int)] w fun e w' => e = .returned (.int .i64 ((lowN n : Nat) : Int)) ∧ w = w' := by
  have HN := Lib.hid hn
  clear hn
  go_enter Tryz.func24, Tryz.ntmps24
  go_wp2
  go_loop [0, 3] (fun a b => ∃ m k : Nat, m ≠ 0 ∧ a = .int .i64 (m : Int) ∧ b = .int .i64 (k : Int) ∧ k * lowN m = lowN n ∧ k * m ≤ n) (fun a _ => (intOf a).toNat)
  case atStart => exact ⟨n, 1, h0, rfl, rfl, Nat.one_mul _, by omega⟩
  case round =>
    obtain ⟨m, k, hm, rfl, rfl, hk, hkm⟩ := hrel
    rcases Nat.mod_two_eq_zero_or_one m with h2 | h2
    · have hl := lowN_even hm h2
      obtain ⟨j, hj⟩ : ∃ j, m / 2 = j := ⟨_, rfl⟩
      have hmj : m = 2 * j := by omega
      rw [hj] at hl
      have HK : Hid (2 * k * lowN j = lowN n) := Lib.hid (by rw [← hk, hl, Nat.mul_comm 2 k, Nat.mul_assoc])
      have HM : Hid (2 * k * j ≤ n) := Lib.hid (by rw [Nat.mul_comm 2 k, Nat.mul_assoc, ← hmj]; exact hkm)
      have hk2 : 2 * k ≤ n := Nat.le_trans (by rw [Nat.mul_comm]; exact Nat.mul_le_mul_left k (show 2 ≤ m by omega)) hkm
      have HJ : Hid (j ≠ 0) := Lib.hid (by omega)
      have HLT : Hid (j < m) := Lib.hid (by omega)
      obtain ⟨mi, hmi⟩ : ∃ z : Int, (m : Int) = z := ⟨_, rfl⟩
      obtain ⟨ji, hji⟩ : ∃ z : Int, (j : Int) = z := ⟨_, rfl⟩
      obtain ⟨ki, hki⟩ : ∃ z : Int, (k : Int) = z := ⟨_, rfl⟩
      have h3 : mi % 2 = 0 := by omega
      have h4 : mi / 2 = ji := by omega
      have h5 : 0 ≤ mi := by omega
      have h6 : mi < 4611686018427387904 := by
        have := HN.out
        have h9 : m ≤ k * m := Nat.le_mul_of_pos_left m (by
          rcases Nat.eq_zero_or_pos k with h | h
          · subst h
            rw [Nat.zero_mul] at hk
            have := lowN_pos h0
            omega
          · exact h)
        omega
      have h7 : IntKind.i64.wrap (2 * ki) = 2 * ki := by have := HN.out; rw [IntKind.wrap_i64]; omega
      have HKI : Hid (2 * ki = ((2 * k : Nat) : Int)) := Lib.hid (by omega)
      have HJI := Lib.hid hji
      have HMI := Lib.hid hmi
      rw [hmi, hki]
      have h8 : IntKind.i64.wrap ji = ji := by rw [IntKind.wrap_i64]; omega
      have h9 : mi.tdiv 2 = ji := by rw [Int.tdiv_eq_ediv_of_nonneg h5]; exact h4
      have h10 : mi.tmod 2 = 0 := by rw [Int.tmod_eq_emod_of_nonneg h5]; exact h3
      clear hl hj hmj hk hkm hk2 hmi hji hki h2 hm
      go_wp2
      go_round
      case rel => exact ⟨j, 2 * k, HJ.out, by rw [HJI.out], by rw [HKI.out], HK.out, HM.out⟩
      case measure => rw [← HJI.out, ← HMI.out]; have := HLT.out; simp only [intOf]; omega
    · have hl := lowN_odd h2
      rw [hl, Nat.mul_one] at hk
      have HK := Lib.hid hk
      have h3 : (m : Int) % 2 = 1 := by omega
      obtain ⟨mi, hmi⟩ : ∃ z : Int, (m : Int) = z := ⟨_, rfl⟩
      rw [hmi] at h3 ⊢
      have h5 : 0 ≤ mi := by omega
      have h10 : mi.tmod 2 = 1 := by rw [Int.tmod_eq_emod_of_nonneg h5]; exact h3
      clear hl hk h2 hm hkm hmi
      go_wp2
      go_ret
      first
        | exact ⟨rfl, rfl⟩
        | exact ⟨ret_i64 HK.out, rfl⟩
set_option maxHeartbeats 2000000 in
theorem r11sum_c (l : List Int) (hz : ∀ z ∈ l, 0 ≤ z) (hs : sumL l < 9223372036854775808) (A : Option Addr) (n c : Nat) (hn : n ≤ maxLen) (a b : Nat) (hab : a ≤ b) (hbn : b ≤ n) (w : World) (hrd : Rd .u64 w w.heap.size A n l) : Calls Tryz.prog 23 #[.slice A n c, .int .i64 (a : Int), .int .i64 (b : Int)] w fun e w' => e = .returned (.int .u64 (preL l b - preL l a)) ∧ w = w' := by
  have HR := Lib.hid hrd
  have hlen := hrd.len
  have hnm : (n : Int) ≤ 9223372036854775807 := by unfold maxLen at hn; omega
  have HNX := Lib.hid (fun k (h : k < n) => preL_next (l := l) (n := k) (by omega))
  have HMO := Lib.hid (fun (x y : Nat) (h : x ≤ y) => preL_mono hz h)
  have HLE := Lib.hid (fun k => preL_le hz k)
  have HNN := Lib.hid (fun k => preL_nn hz k)
  have HZ := Lib.hid hz
  have HS := Lib.hid hs
  clear hrd hz hn hs
  go_enter Tryz.func23, Tryz.ntmps23
  go_wp2
  go_loopw [7, 8] (fun s i wr => ∃ k : Nat, a ≤ k ∧ k ≤ b ∧ i = .int .i64 (k : Int) ∧ s = .int .u64 (preL l k - preL l a) ∧ wr = w) (fun _ i _ => b - (intOf i).toNat)
  case atStart => exact ⟨a, Nat.le_refl _, hab, rfl, by rw [Int.sub_self], by first | rfl | trivial⟩
  case round =>
    obtain ⟨k, hak, hkb, rfl, rfl, rfl⟩ := hrel
    by_cases hlt : k < b
    · obtain ⟨g, off, rfl, _, hc⟩ := HR.out.at_ (by omega)
      have hck := hc k (by omega)
      have hnx := HNX.out k (by omega)
      have h1 := HMO.out _ _ hak
      have h2 := HLE.out (k + 1)
      have h3 := HNN.out a
      have h4 := HS.out
      obtain ⟨z, hzz⟩ : ∃ z, l.getD k 0 = z := ⟨_, rfl⟩
      obtain ⟨p, hp⟩ : ∃ z, preL l k = z := ⟨_, rfl⟩
      obtain ⟨q, hq⟩ : ∃ z, preL l a = z := ⟨_, rfl⟩
      have hz0 := HZ.out _ (getD_in (l := l) (k := k) (by omega))
      rw [hzz] at hck hnx hz0
      rw [hp, hq] at h1
      rw [hp] at hnx
      rw [hq] at h3
      rw [hp, hq]
      have HNP : Hid (preL l (k + 1) - q = p - q + z) := Lib.hid (by rw [hnx]; omega)
      obtain ⟨s, hs⟩ : ∃ s, p - q = s := ⟨_, rfl⟩
      rw [hs] at HNP ⊢
      have h5 : 0 ≤ s := by omega
      have h6 : s + z < 18446744073709551616 := by omega
      have hk3 : (k : Int) < (b : Int) := by omega
      have hk4 : (k : Int) < (n : Int) := by omega
      clear hc hnx h1 h2 h3 h4 hzz hp hq hs
      go_wp2
      go_roundw
      case rel => exact ⟨k + 1, by omega, by omega, by go_num, by rw [HNP.out], by first | rfl | trivial⟩
      case measure => simp [intOf]; omega
    · obtain rfl : k = b := by omega
      go_wp2
      go_ret
      exact ⟨rfl, by first | rfl | trivial⟩
/-- The place whose stake holds the ticket, from a place on. -/
def ownF : List Int → Int → Nat → Option Nat
  | [], _, _ => none
  | x :: l, t, i => if t < x then some i else ownF l (t - x) (i + 1)
def ownV (l : List Int) (t : Int) : Int := match ownF l t 0 with
  | some i => (i : Int)
  | none => 0
def ownE (l : List Int) (t : Int) : Int := match ownF l t 0 with
  | some _ => 0
  | none => 3
theorem ownF_step {l : List Int} {k : Nat} (h : k < l.length) (t : Int) : ownF (l.drop k) t k = if t < l.getD k 0 then some k else ownF (l.drop (k + 1)) (t - l.getD k 0) (k + 1) := by
  rw [List.drop_eq_getElem_cons h, ownF, List.getD_eq_getElem?_getD, List.getElem?_eq_getElem h]
  rfl
theorem ret_two64 {a b c d : Int} (h : a = b) (h2 : c = d) : Ending.returned (.tuple #[.int .i64 a, .int .i64 c]) = .returned (.tuple #[.int .i64 b, .int .i64 d]) := by rw [h, h2]
set_option maxHeartbeats 2000000 in
theorem r11owner_c (l : List Int) (hz : ∀ z ∈ l, 0 ≤ z ∧ z < 18446744073709551616) (A : Option Addr) (n c : Nat) (hn : n ≤ maxLen) (t : Int) (t0 : 0 ≤ t) (t1 : t < 18446744073709551616) (w : World) (hrd : Rd .u64 w w.heap.size A n l) : Calls Tryz.prog 18 #[.slice A n c, .int .u64 t] w fun e w' => e = .returned (.tuple #[.int .i64 (ownV l t), .int .i64 (ownE l t)]) ∧ w = w' := by
  have HR := Lib.hid hrd
  have hlen := hrd.len
  have hnm : (n : Int) ≤ 9223372036854775807 := by unfold maxLen at hn; omega
  have HST := Lib.hid (fun k (h : k < n) t => ownF_step (l := l) (k := k) (by omega) t)
  have HZ := Lib.hid (fun k (h : k < n) => hz _ (getD_in (l := l) (k := k) (by omega)))
  have HE : Hid (∀ t, ownF (l.drop n) t n = none) := Lib.hid (fun t => by rw [List.drop_eq_nil_of_le (by omega)]; rfl)
  clear hrd hz hn
  go_enter Tryz.func18, Tryz.ntmps18
  go_wp2
  go_loopw [1, 6] (fun tt i wr => ∃ (k : Nat) (u : Int), k ≤ n ∧ i = .int .i64 (k : Int) ∧ tt = .int .u64 u ∧ 0 ≤ u ∧ u < 18446744073709551616 ∧ ownF (l.drop k) u k = ownF l t 0 ∧ wr = w) (fun _ i _ => n - (intOf i).toNat)
  case atStart => exact ⟨0, t, by omega, rfl, rfl, t0, t1, by rw [List.drop_zero], by first | rfl | trivial⟩
  case round =>
    obtain ⟨k, u, hk, rfl, rfl, u0, u1, hown, rfl⟩ := hrel
    by_cases hlt : k < n
    · obtain ⟨g, off, rfl, _, hc⟩ := HR.out.at_ (by omega)
      have hck := hc k hlt
      have hst := HST.out k hlt u
      have hzk := HZ.out k hlt
      obtain ⟨z, hzz⟩ : ∃ z, l.getD k 0 = z := ⟨_, rfl⟩
      rw [hzz] at hck hst hzk
      rw [hown] at hst
      obtain ⟨z0, z1⟩ := hzk
      have hk3 : (k : Int) < (n : Int) := by omega
      by_cases hu : u < z
      · rw [if_pos hu] at hst
        have HV : Hid (ownV l t = (k : Int) ∧ ownE l t = 0) := Lib.hid (by unfold ownV ownE; rw [hst]; exact ⟨rfl, rfl⟩)
        clear hc hst hzz hown
        go_wp2
        go_ret2
        exact ⟨ret_two64 HV.out.1.symm HV.out.2.symm, by first | rfl | trivial⟩
      · rw [if_neg hu] at hst
        have HO := Lib.hid hst.symm
        clear hc hst hzz hown
        go_wp2
        go_roundw
        case rel => exact ⟨k + 1, u - z, by omega, by go_num, rfl, by omega, by omega, HO.out, by first | rfl | trivial⟩
        case measure => simp [intOf]; omega
    · obtain rfl : k = n := by omega
      rw [HE.out] at hown
      have HV : Hid (ownV l t = 0 ∧ ownE l t = 3) := Lib.hid (by unfold ownV ownE; rw [← hown]; exact ⟨rfl, rfl⟩)
      clear hown
      go_wp2
      go_ret2
      exact ⟨ret_two64 HV.out.1.symm HV.out.2.symm, by first | rfl | trivial⟩
end Go.Proofs.YtepclbmcacdhlaaGreatDoor
/-
  Owners of tickets in plain Lean: each ticket below the sum has one; each place owns as many as its stake.
  Conditions: those that each theorem names.
-/
set_option maxRecDepth 100000
set_option linter.unusedVariables false
set_option linter.unusedSimpArgs false
namespace Go.Proofs.YtepclbmcacdhlaaGreatDoor
theorem preL_cons (x : Int) (l : List Int) (n : Nat) : preL (x :: l) (n + 1) = x + preL l n := by
  unfold preL
  rw [List.take_succ_cons]
  rfl
theorem ownF_spec : ∀ (l : List Int) (t : Int) (i : Nat), (∀ z ∈ l, 0 ≤ z) → 0 ≤ t → t < sumL l → ∃ o, o < l.length ∧ ownF l t i = some (i + o) ∧ preL l o ≤ t ∧ t < preL l (o + 1)
  | [], t, i, _, h0, h1 => by
    have : t < 0 := h1
    omega
  | x :: l, t, i, hz, h0, h1 => by
    by_cases hx : t < x
    · exact ⟨0, by simp, by rw [ownF, if_pos hx]; rfl, h0, by rw [preL_cons]; show t < x + 0; omega⟩
    · have h2 : t - x < sumL l := by
        have : t < x + sumL l := h1
        omega
      obtain ⟨o, e1, e2, e3, e4⟩ := ownF_spec l (t - x) (i + 1) (fun z h => hz z (by simp [h])) (by omega) h2
      refine ⟨o + 1, by simpa using e1, ?_, ?_, ?_⟩
      · rw [ownF, if_neg hx, e2]
        congr 1
        omega
      · rw [preL_cons]; omega
      · rw [preL_cons]; omega
theorem own_at {l : List Int} {t : Int} (hz : ∀ z ∈ l, 0 ≤ z) (h0 : 0 ≤ t) (h1 : t < sumL l) : ∃ o, o < l.length ∧ ownV l t = (o : Int) ∧ ownE l t = 0 ∧ preL l o ≤ t ∧ t < preL l (o + 1) := by
  obtain ⟨o, e1, e2, e3, e4⟩ := ownF_spec l t 0 hz h0 h1
  rw [Nat.zero_add] at e2
  exact ⟨o, e1, by unfold ownV; rw [e2], by unfold ownE; rw [e2], e3, e4⟩
/-- How many of the first tickets lie within a stake. -/
def clampF (t pre s : Int) : Int := if t ≤ pre then 0 else if t - pre ≤ s then t - pre else s
def owndL (l : List Int) (t : Int) : List Int := (List.range l.length).map fun i => clampF t (preL l i) (l.getD i 0)
theorem owndL_len (l : List Int) (t : Int) : (owndL l t).length = l.length := by simp [owndL]
theorem owndL_at {l : List Int} {i : Nat} (t : Int) (h : i < l.length) : (owndL l t).getD i 0 = clampF t (preL l i) (l.getD i 0) := by simp [owndL, h]
theorem clamp_in {t pre s : Int} (hs : 0 ≤ s) : 0 ≤ clampF t pre s ∧ clampF t pre s ≤ s := by
  unfold clampF
  split
  · omega
  · split <;> omega
theorem owndL_zero {l : List Int} (hz : ∀ z ∈ l, 0 ≤ z) : owndL l 0 = List.replicate l.length 0 := by
  apply ext_getD (by rw [owndL_len, List.length_replicate])
  intro j hj
  rw [owndL_len] at hj
  have e : (List.replicate l.length (0 : Int)).getD j 0 = 0 := by rw [List.getD_eq_getElem?_getD, List.getElem?_replicate]; split <;> rfl
  rw [owndL_at 0 hj, e]
  have := preL_nn hz j
  unfold clampF
  rw [if_pos (by omega)]
theorem owndL_all {l : List Int} (hz : ∀ z ∈ l, 0 ≤ z) : owndL l (sumL l) = l := by
  apply ext_getD (owndL_len l _)
  intro j hj
  rw [owndL_len] at hj
  rw [owndL_at _ hj]
  have h1 := preL_next (l := l) (n := j) hj
  have h2 := preL_le hz (j + 1)
  have h3 := hz _ (getD_in hj)
  unfold clampF
  split
  · omega
  · split <;> omega
theorem owndL_next {l : List Int} (hz : ∀ z ∈ l, 0 ≤ z) {t : Int} {o : Nat} (ho : o < l.length) (h1 : preL l o ≤ t) (h2 : t < preL l (o + 1)) : (owndL l t).set o ((owndL l t).getD o 0 + 1) = owndL l (t + 1) := by
  apply ext_getD (by rw [List.length_set, owndL_len, owndL_len])
  intro j hj
  rw [List.length_set, owndL_len] at hj
  rw [owndL_at (t + 1) hj]
  have hn := preL_next (l := l) (n := o) ho
  by_cases hjo : j = o
  · subst hjo
    rw [List.getD_eq_getElem?_getD, List.getElem?_set_self (by rw [owndL_len]; exact hj)]
    show (owndL l t).getD j 0 + 1 = _
    rw [owndL_at t hj]
    unfold clampF
    rw [if_neg (show ¬ t + 1 ≤ preL l j by omega), if_pos (show t + 1 - preL l j ≤ l.getD j 0 by omega)]
    split
    · omega
    · rw [if_pos (by omega)]; omega
  · rw [List.getD_eq_getElem?_getD, List.getElem?_set_ne (fun h => hjo h.symm), ← List.getD_eq_getElem?_getD, owndL_at t hj]
    have hj1 := preL_next (l := l) (n := j) hj
    have hj2 := hz _ (getD_in hj)
    unfold clampF
    by_cases hlt : j < o
    · have := preL_mono hz (show j + 1 ≤ o by omega)
      by_cases h0 : l.getD j 0 = 0
      · rw [h0]
        (repeat' split) <;> omega
      · rw [if_neg (show ¬ t + 1 ≤ preL l j by omega)]
        (repeat' split) <;> omega
    · have := preL_mono hz (show o + 1 ≤ j by omega)
      rw [if_pos (show t ≤ preL l j by omega), if_pos (show t + 1 ≤ preL l j by omega)]
/-! ### stakes below 50 -/
def modL (l : List Int) : List Int := l.map (· % 50)
theorem modL_len (l : List Int) : (modL l).length = l.length := by simp [modL]
theorem modL_at {l : List Int} {i : Nat} (h : i < l.length) : (modL l).getD i 0 = l.getD i 0 % 50 := by simp [modL, List.getD_eq_getElem?_getD, h]
theorem modL_in {l : List Int} : ∀ z ∈ modL l, 0 ≤ z ∧ z < 50 := by
  intro z h
  obtain ⟨y, _, rfl⟩ := List.mem_map.1 h
  exact ⟨Int.emod_nonneg _ (by omega), Int.emod_lt_of_pos _ (by omega)⟩
theorem modL_pre (l : List Int) : ∀ i : Nat, i ≤ l.length → 0 ≤ preL (modL l) i ∧ preL (modL l) i ≤ 50 * (i : Int)
  | 0, _ => ⟨Int.le_refl _, Int.le_refl _⟩
  | i + 1, h => by
    have ih := modL_pre l i (by omega)
    have h1 := preL_next (l := modL l) (n := i) (by rw [modL_len]; omega)
    have h2 := modL_in (l := l) _ (getD_in (l := modL l) (k := i) (by rw [modL_len]; omega))
    rw [h1]
    push_cast
    omega
theorem modL_take {l : List Int} {i : Nat} (h : i < l.length) : (modL l).take (i + 1) = (modL l).take i ++ [l.getD i 0 % 50] := by
  rw [List.take_succ_eq_append_getElem (by rw [modL_len]; exact h)]
  congr 2
  have := modL_at h
  rw [List.getD_eq_getElem?_getD, List.getElem?_eq_getElem (by rw [modL_len]; exact h)] at this
  exact this
end Go.Proofs.YtepclbmcacdhlaaGreatDoor

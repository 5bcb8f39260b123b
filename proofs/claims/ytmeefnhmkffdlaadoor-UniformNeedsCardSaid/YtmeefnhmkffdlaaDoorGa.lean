/-
  Texts of this claim, joined: MemA, CopyA, ArrM, HeldA, HeldB, RegA, PlainA, ArrA, WordA, RefA, PlanP, RefC, PlanQ, CompP, RefD, RefE, RefB, ShaP. What each shows, and its conditions, stand at its own head.
-/
import Derived.Handy
import Derived.Lib.Hide
import Derived.Below
import Derived.Deep.Draws
import Derived.Maps.AppendAt
import Derived.Deep.AppendLies
import Derived.OwnWalk
import Derived.Laws.BytesString
import Derived.Deep.MidRow
import Derived.Great.BuildSlice
import Derived.Deep.QuietTactic
import Derived.BigQuiet
import Derived.Laws.CopyOwn
import Derived.Laws.MakeOwn
import Derived.Deep.WholeRow
import Derived.Deep.RegionHeld3
import Derived.Laws.BitsAllLaws
import Derived.Test.YtmeefnhmkffdlaaDoorRows
import Derived.ChangeSame
import Derived.KernelRfl
/-
  Slices of integers in memory: what one reads as, that reading kept, cut, made a string, and appended to a row of the call's own.
  Conditions: those that each theorem names.
-/
set_option maxRecDepth 100000
namespace Go.Proofs.YtmeefnhmkffdlaaDoor
open Go.ChangeShapes Go.WideShapes Go.ChangeAt Go.RowKit

/-- The slice (A, n, ..) reads as the numbers zs, and lies below block B; nil and empty ones let in. -/
def Rd (k : IntKind) (w : World) (B : Nat) (A : Option Addr) (n : Nat) (zs : List Int) : Prop :=
  zs.length = n ∧ (0 < n → ∃ b off, A = some ⟨b, off, none⟩ ∧ b < B ∧ ∀ j, j < n → w.cell? ⟨b, off + j, none⟩ = some (.int k (zs.getD j 0)))

theorem add_flat (b off j : Nat) : (⟨b, off, none⟩ : Addr).add j = ⟨b, off + j, none⟩ := by
  unfold Addr.add
  split
  · rename_i h; rw [h]; rfl
  · rfl

section
variable {k : IntKind} {w w' : World} {B B' n : Nat} {A : Option Addr} {zs ys : List Int}
theorem Rd.len (h : Rd k w B A n zs) : zs.length = n := h.1
theorem Rd.none_ : Rd k w B A 0 [] := ⟨rfl, fun h => absurd h (by omega)⟩
theorem Rd.at_ (h : Rd k w B A n zs) (hn : 0 < n) : ∃ b off, A = some ⟨b, off, none⟩ ∧ b < B ∧ ∀ j, j < n → w.cell? ⟨b, off + j, none⟩ = some (.int k (zs.getD j 0)) := h.2 hn
theorem Rd.keep (h : Rd k w B A n zs) (hk : ∀ p : Addr, p.block < B → w'.cell? p = w.cell? p) : Rd k w' B A n zs :=
  ⟨h.1, fun hn => by
    obtain ⟨b, off, e, hb, hc⟩ := h.2 hn
    exact ⟨b, off, e, hb, fun j hj => (hk ⟨b, off + j, none⟩ hb).trans (hc j hj)⟩⟩
theorem Rd.mono (h : Rd k w B A n zs) (hB : B ≤ B') : Rd k w B' A n zs :=
  ⟨h.1, fun hn => by
    obtain ⟨b, off, e, hb, hc⟩ := h.2 hn
    exact ⟨b, off, e, by omega, hc⟩⟩
theorem Rd.below (h : Rd k w B A n zs) (hb : Below B w w') : Rd k w' B A n zs := h.keep fun _ hp => hb.cell hp
theorem Rd.drew (h : Rd k w B A n zs) : Rd k w.drew B A n zs := h
theorem Rd.drewN (h : Rd k w B A n zs) (m : Nat) : Rd k (w.drewN m) B A n zs := h
theorem Rd.alloc (h : Rd k w B A n zs) (hB : B ≤ w.heap.size) (o : Obj) : Rd k (w.alloc o) B A n zs := h.keep fun p hp => World.cell?_alloc_lt w o p (by omega)
/-- Within the world's own size. -/
theorem Rd.fit (h : Rd k w B A n zs) : Rd k w w.heap.size A n zs :=
  ⟨h.1, fun hn => by
    obtain ⟨b, off, e, hb, hc⟩ := h.2 hn
    exact ⟨b, off, e, World.block_lt_of_cell? w _ (hc 0 hn), hc⟩⟩
/-- What a row of the call's own reads as. -/
theorem Rd.of_own {base c : Nat} {e : TypeId} (h : w.ownsRow base e 1 (.slice A n c) n (zs.map (Value.int k))) : Rd k w w.heap.size A n zs := by
  refine ⟨by have := h.1; simpa using this, fun hn => ?_⟩
  obtain ⟨g, cap, hv, _, hlt⟩ := h.form hn
  have hA : A = some ⟨g, 0, none⟩ := by injection hv
  subst hA
  refine ⟨g, 0, rfl, hlt, fun j hj => ?_⟩
  have hl : j < zs.length := by have := h.1; simp at this; omega
  have hc := h.cells (g := g) rfl j (.int k (zs.getD j 0)) (by simp [hl])
  rw [add_flat] at hc
  exact hc
/-- Cut: from i on, up to j. -/
theorem Rd.cut (h : Rd k w B A n zs) {i j cap : Nat} (hi : i ≤ j) (hj : j ≤ n) (hc : n ≤ cap) :
    Rd k w B (if cap = i then A else A.map (·.add (i * 1))) (j - i) ((zs.take j).drop i) := by
  refine ⟨by rw [List.length_drop, List.length_take, h.1]; omega, fun hn => ?_⟩
  obtain ⟨b, off, rfl, hb, hcell⟩ := h.2 (by omega)
  rw [if_neg (by omega)]
  refine ⟨b, off + i, by rw [Option.map_some, Nat.mul_one, add_flat], hb, fun m hm => ?_⟩
  rw [Nat.add_assoc, hcell (i + m) (by omega)]
  congr 2
  simp only [List.getD_eq_getElem?_getD, List.getElem?_drop, List.getElem?_take]
  rw [if_pos (by omega)]
theorem Rd.from_ (h : Rd k w B A n zs) {i cap : Nat} (hi : i ≤ n) (hc : n ≤ cap) :
    Rd k w B (if cap = i then A else A.map (·.add (i * 1))) (n - i) (zs.drop i) := by
  have := h.cut hi (Nat.le_refl n) hc
  rwa [List.take_of_length_le (by rw [h.1]; exact Nat.le_refl _)] at this
theorem Rd.upto (h : Rd k w B A n zs) {j : Nat} (hj : j ≤ n) : Rd k w B A j (zs.take j) := by
  refine ⟨by rw [List.length_take, h.1]; omega, fun hn => ?_⟩
  obtain ⟨b, off, rfl, hb, hcell⟩ := h.2 (by omega)
  refine ⟨b, off, rfl, hb, fun m hm => ?_⟩
  rw [hcell m (by omega)]
  congr 2
  simp only [List.getD_eq_getElem?_getD, List.getElem?_take]
  rw [if_pos (by omega)]
/-- As the cells that an append takes. -/
theorem Rd.news {ad : Addr} (h : Rd k w B (some ad) n zs) : ∀ j u, (zs.map (Value.int k))[j]? = some u → w.cell? (ad.add j) = some u := by
  intro j u hu
  have hj : j < zs.length := by
    rcases Nat.lt_or_ge j zs.length with h1 | h1
    · exact h1
    · rw [List.getElem?_eq_none (by simpa using h1)] at hu; cases hu
  obtain ⟨b, off, e, _, hc⟩ := h.2 (by rw [← h.1]; omega)
  injection e with e
  subst e
  rw [add_flat, hc j (by rw [← h.1]; exact hj)]
  rw [← hu]
  simp [hj]
end

theorem ints_one (k : IntKind) (zs : List Int) : ∀ u ∈ zs.map (Value.int k), u.oneCell' = true := by
  intro u hu
  obtain ⟨z, _, rfl⟩ := List.mem_map.1 hu
  rfl

/-! ### append onto a row of the call's own -/
section
variable {P : Program} (w : World)
/-- A row of the call's own that holds the numbers zs. -/
def OwnI (w : World) (base : Nat) (e : TypeId) (k : IntKind) (v : Value) (zs : List Int) : Prop := w.ownsRow base e 1 v zs.length (zs.map (Value.int k))
theorem OwnI.form {w : World} {base : Nat} {e : TypeId} {k : IntKind} {v : Value} {zs : List Int} (h : OwnI w base e k v zs) : ∃ A c, v = .slice A zs.length c ∧ zs.length ≤ c ∧ c ≤ maxLen := by
  rcases h.2 with ⟨rfl, hn⟩ | ⟨g, cap, cur, rfl, _, _, h1, h2, _⟩
  · exact ⟨none, 0, by rw [hn], by omega, by simp [maxLen]⟩
  · exact ⟨_, _, rfl, h1, h2⟩
theorem OwnI.rd {w : World} {base : Nat} {e : TypeId} {k : IntKind} {A : Option Addr} {n c : Nat} {zs : List Int} (h : OwnI w base e k (.slice A n c) zs) (hn : zs.length = n) : Rd k w w.heap.size A n zs := by
  subst hn
  exact Rd.of_own h
theorem OwnI.block_ge {w : World} {base : Nat} {e : TypeId} {k : IntKind} {v : Value} {zs : List Int} (h : OwnI w base e k v zs) : ∀ g, v.ownBlock = some g → base ≤ g := by
  intro g hg
  rcases h.2 with ⟨rfl, _⟩ | ⟨g', cap, cur, rfl, hb, _⟩
  · simp [Value.ownBlock] at hg
  · simp [Value.ownBlock] at hg
    omega
theorem OwnI.drew {w : World} {base : Nat} {e : TypeId} {k : IntKind} {v : Value} {zs : List Int} (h : OwnI w base e k v zs) : OwnI w.drew base e k v zs := h

theorem run_append_nothing (base : Nat) (t ty e : TypeId) (i : TypeInfo) (ht : P.underlying t = some (.slice e)) (hi : P.info? e = some i)
    (v : Value) (n : Nat) (xs : List Value) (hown : w.ownsRow base e 1 v n xs) (c : Nat) : (Builtin.append_ #[t, t] ty #[v, .slice none 0 c]).run P w = .ok v w := by
  rcases hown.2 with ⟨rfl, rfl⟩ | ⟨g, cap, cur, rfl, _, _, hnc, _⟩
  · simp [Builtin.append_, run_underlying ht, sizeOf, typeInfo, hi, Builtin.lenOf, Builtin.firstCells]
  · simp [Builtin.append_, run_underlying ht, sizeOf, typeInfo, hi, Builtin.lenOf, Builtin.firstCells, hnc, storeCells]

theorem run_append_ints (base : Nat) (t ty e : TypeId) (i : TypeInfo) (z : Value) (bytes : Nat) (k : IntKind) (ht : P.underlying t = some (.slice e)) (hi : P.info? e = some i) (hz : i.zero = some z)
    (hsize : i.size = 1) (hby : i.bytes = bytes) (hzs : z.cells.size = 1) (v : Value) (zs : List Int) (hown : OwnI w base e k v zs)
    (B : Nat) (A : Option Addr) (m c : Nat) (ys : List Int) (hr : Rd k w B A m ys)
    (h63 : zs.length + m ≤ maxLen) (hbytes : (zs.length + m) * bytes ≤ 140737488355328) (hbase : base ≤ w.heap.size) :
    ∃ v' w', (Builtin.append_ #[t, t] ty #[v, .slice A m c]).run P w = .ok v' w' ∧ OwnI w' base e k v' (zs ++ ys) ∧ w.grownBy w' v.ownBlock ∧
      (v'.ownBlock = v.ownBlock ∨ v'.ownBlock = some w.heap.size) := by
  rcases A with _ | ad
  · have hm : m = 0 := by
      rcases Nat.eq_zero_or_pos m with h0 | h0
      · exact h0
      · obtain ⟨b, off, e, _⟩ := hr.2 h0
        cases e
    subst hm
    have hn : ys = [] := List.eq_nil_of_length_eq_zero hr.1
    subst hn
    exact ⟨v, w, run_append_nothing w base t ty e i ht hi v _ _ hown c, by simpa using hown, World.grownBy.refl w _, .inl rfl⟩
  · obtain ⟨v', w', hrun, h2, h3, _, h5⟩ := run_append_own_at (P := P) w base t ty e i z 1 bytes ht hi hz hsize hby hzs (by omega) v zs.length _ hown ad m c (ys.map (Value.int k)) (by simpa using hr.1) hr.news (ints_one k ys) h63 hbytes hbase
    refine ⟨v', w', hrun, ?_, h3, h5⟩
    unfold OwnI
    rw [List.length_append, hr.1, List.map_append]
    exact h2

theorem wp_append_ints {o : Oper} {a : Act} {K : Act → World → Prop} {Q : Exit → Act → World → Prop} (s x : Operand) (t : TypeId)
    (ho : o.op = .call { callee := .builtin .append, args := #[s, x], argTypes := #[t, t] })
    (base : Nat) (e : TypeId) (i : TypeInfo) (z : Value) (bytes : Nat) (k : IntKind) (ht : P.underlying t = some (.slice e)) (hi : P.info? e = some i) (hz : i.zero = some z)
    (hsize : i.size = 1) (hby : i.bytes = bytes) (hzs : z.cells.size = 1) (v : Value) (zs : List Int) (hs : a.eval s = v) (hown : OwnI w base e k v zs)
    (B : Nat) (A : Option Addr) (m c : Nat) (ys : List Int) (hx : a.eval x = .slice A m c) (hr : Rd k w B A m ys)
    (h63 : zs.length + m ≤ maxLen) (hbytes : (zs.length + m) * bytes ≤ 140737488355328) (hbase : base ≤ w.heap.size)
    (h : ∀ v' w', OwnI w' base e k v' (zs ++ ys) → w.grownBy w' v.ownBlock → (v'.ownBlock = v.ownBlock ∨ v'.ownBlock = some w.heap.size) → K (a.put o.dst v') w') : o.wp P a w K Q := by
  obtain ⟨v', w', hrun, h2, h3, h4⟩ := run_append_ints (P := P) w base t o.type e i z bytes k ht hi hz hsize hby hzs v zs hown B A m c ys hr h63 hbytes hbase
  unfold Oper.wp execOp
  simp only [ho, resolve, invoke, builtin, Sem.run_bind, Sem.run_pure, Result.andThen_ok, List.map_toArray, List.map_cons, List.map_nil, hs, hx, hrun]
  exact h v' w' h2 h3 h4

theorem wpList_append_ints {ops : Array Oper} {rest : List Oper} {o : Oper} {a : Act} {Q : Exit → Act → World → Prop} (hgd : o.guard = none) (s x : Operand) (t : TypeId)
    (ho : o.op = .call { callee := .builtin .append, args := #[s, x], argTypes := #[t, t] })
    (base : Nat) (e : TypeId) (i : TypeInfo) (z : Value) (bytes : Nat) (k : IntKind) (ht : P.underlying t = some (.slice e)) (hi : P.info? e = some i) (hz : i.zero = some z)
    (hsize : i.size = 1) (hby : i.bytes = bytes) (hzs : z.cells.size = 1) (v : Value) (zs : List Int) (hs : a.eval s = v) (hown : OwnI w base e k v zs)
    (B : Nat) (A : Option Addr) (m c : Nat) (ys : List Int) (hx : a.eval x = .slice A m c) (hr : Rd k w B A m ys)
    (h63 : zs.length + m ≤ maxLen) (hbytes : (zs.length + m) * bytes ≤ 140737488355328) (hbase : base ≤ w.heap.size)
    (h : ∀ v' w', OwnI w' base e k v' (zs ++ ys) → w.grownBy w' v.ownBlock → (v'.ownBlock = v.ownBlock ∨ v'.ownBlock = some w.heap.size) → wpList P ops Q rest (a.put o.dst v') w') : wpList P ops Q (o :: rest) a w :=
  wpList_plain hgd fun _ hK => wp_append_ints w s x t ho base e i z bytes k ht hi hz hsize hby hzs v zs hs hown B A m c ys hx hr h63 hbytes hbase fun v' w' h2 h3 h4 => hK _ _ (h v' w' h2 h3 h4)
end

theorem step_append_ints {P : Program} (w : World) {ops : Array Oper} {o : Oper} {a : Act} {K : Act → World → Prop} {Q : Exit → Act → World → Prop} {E : Prop} (hgd : o.guard = none) (s x : Operand) (t : TypeId)
    (ho : o.op = .call { callee := .builtin .append, args := #[s, x], argTypes := #[t, t] })
    (base : Nat) (e : TypeId) (i : TypeInfo) (z : Value) (bytes : Nat) (k : IntKind) (ht : P.underlying t = some (.slice e)) (hi : P.info? e = some i) (hz : i.zero = some z)
    (hsize : i.size = 1) (hby : i.bytes = bytes) (hzs : z.cells.size = 1) (v : Value) (zs : List Int) (hs : a.eval s = v) (hown : OwnI w base e k v zs)
    (B : Nat) (A : Option Addr) (m c : Nat) (ys : List Int) (hx : a.eval x = .slice A m c) (hr : Rd k w B A m ys)
    (h63 : zs.length + m ≤ maxLen) (hbytes : (zs.length + m) * bytes ≤ 140737488355328) (hbase : base ≤ w.heap.size)
    (h : ∀ v' w', OwnI w' base e k v' (zs ++ ys) → w.grownBy w' v.ownBlock → (v'.ownBlock = v.ownBlock ∨ v'.ownBlock = some w.heap.size) → K (a.put o.dst v') w') :
    if Region.wanted o (yielded ops a.tmps) = true then Oper.wp P o a w K Q else E := by
  rw [if_pos (by simp [Region.wanted, hgd])]
  exact wp_append_ints w s x t ho base e i z bytes k ht hi hz hsize hby hzs v zs hs hown B A m c ys hx hr h63 hbytes hbase h

/-! ### bytes as a string -/
def strB (zs : List Int) : ByteArray := zs.foldl (fun r n => r.push (UInt8.ofNat n.toNat)) ByteArray.empty
theorem run_str {P : Program} {w : World} {src dst e : TypeId} {B : Nat} {A : Option Addr} {n c : Nat} {zs : List Int}
    (hs : P.underlying src = some (.slice e)) (he : P.underlying e = some (.int .u8)) (hd : P.underlying dst = some .string) (h : Rd .u8 w B A n zs) (hA : A = none → n = 0) :
    (convert src dst (.slice A n c)).run P w = .ok (.string (strB zs)) w := by
  rw [run_convert_bytes_string w src dst e A n c hs he hd]
  rcases A with _ | ad
  · have hn := hA rfl
    subst hn
    have : zs = [] := List.eq_nil_of_length_eq_zero h.1
    subst this
    simp [Conv.bytesToString, strB, go_sem]
  · have hl := run_loadCells_list (P := P) (w := w) ad (zs.map (Value.int .u8)) h.news
    rw [List.length_map, h.1] at hl
    exact run_bytesToString w ad n c zs hl
theorem strB_foldl (zs : List Int) : ∀ r : ByteArray, (zs.foldl (fun r n => r.push (UInt8.ofNat n.toNat)) r).data.toList = r.data.toList ++ zs.map fun n => UInt8.ofNat n.toNat := by
  induction zs with
  | nil => intro r; simp
  | cons z zs ih =>
    intro r
    rw [List.foldl_cons, ih]
    simp
theorem strB_list (zs : List Int) : (strB zs).data.toList = zs.map fun n => UInt8.ofNat n.toNat := by
  unfold strB
  rw [strB_foldl]
  simp
theorem strB_inj {zs ys : List Int} (hz : ∀ z ∈ zs, 0 ≤ z ∧ z < 256) (hy : ∀ z ∈ ys, 0 ≤ z ∧ z < 256) (h : strB zs = strB ys) : zs = ys := by
  have h1 : zs.map (fun n => UInt8.ofNat n.toNat) = ys.map fun n => UInt8.ofNat n.toNat := by rw [← strB_list, ← strB_list, h]
  have back : ∀ l : List Int, (∀ z ∈ l, 0 ≤ z ∧ z < 256) → (l.map fun n => UInt8.ofNat n.toNat).map (fun u => (u.toNat : Int)) = l := by
    intro l hl
    rw [List.map_map]
    conv => rhs; rw [← List.map_id l]
    apply List.map_congr_left
    intro z hz
    have := hl z hz
    simp only [Function.comp_def, UInt8.toNat_ofNat', id]
    omega
  rw [← back zs hz, ← back ys hy, h1]
theorem strB_eq {zs ys : List Int} (hz : ∀ z ∈ zs, 0 ≤ z ∧ z < 256) (hy : ∀ z ∈ ys, 0 ≤ z ∧ z < 256) : (strB zs = strB ys) ↔ zs = ys := ⟨strB_inj hz hy, fun h => by rw [h]⟩

theorem below_of_drew {B : Nat} {w w' : World} (h : Below B w.drew w') : Below B w w' := ⟨h.os, h.tape, h.output, h.size, h.block⟩
theorem belNext {W w1 w2 : World} (hb : Below w1.heap.size w1 w2) (h : Below W.heap.size W w1) : Below W.heap.size W w2 := h.trans (hb.mono h.size)
theorem below_drewN {B : Nat} {a w : World} (h : Below B a w) (n : Nat) : Below B a (w.drewN n) := ⟨h.os, h.tape, h.output, h.size, h.block⟩

/-! ### blocks that are known whole; what an append leaves -/
def Blk (w : World) (g : Nat) (t : TypeId) (cs : Array Value) : Prop := w.heap[g]? = some (.cells cs t (0, 0))
section
variable {w w' : World} {g base : Nat} {t e : TypeId} {cs : Array Value} {k : IntKind} {v : Value} {zs : List Int}
theorem Blk.lt (h : Blk w g t cs) : g < w.heap.size := by
  rcases Nat.lt_or_ge g w.heap.size with hlt | hge
  · exact hlt
  · unfold Blk at h; rw [Array.getElem?_eq_none hge] at h; cases h
theorem Blk.cell (h : Blk w g t cs) (i : Nat) : w.cell? ⟨g, i, none⟩ = cs[i]? := cell_of_row w g i cs t (0, 0) h
theorem Blk.new (w : World) (t : TypeId) (cs : Array Value) : Blk (w.alloc (.cells cs t)) w.heap.size t cs := heap_alloc_new w _
theorem Blk.frozen (h : Blk w g t cs) (i : Nat) : w.frozen? ⟨g, i, none⟩ = false := by
  unfold Blk at h
  simp [World.frozen?, h]
theorem Blk.set_ (h : Blk w g t cs) (i : Nat) (u : Value) : Blk (w.setCell ⟨g, i, none⟩ u) g t (cs.setIfInBounds i u) := by
  unfold Blk at h ⊢
  simp [World.setCell, Array.getElem?_modify, h]
theorem Blk.far (h : Blk w g t cs) {p : Addr} (hp : g ≠ p.block) (u : Value) : Blk (w.setCell p u) g t cs := (Below.heap_setCell w p u g hp).trans h
theorem Blk.range (h : Blk w g t cs) : w.rangeAt g 0 cs.toList := by
  intro j v hv
  rw [Nat.zero_add, h.cell j]
  simpa using hv
theorem Blk.drew (h : Blk w g t cs) : Blk w.drew g t cs := h
theorem Blk.alloc (h : Blk w g t cs) (o : Obj) : Blk (w.alloc o) g t cs := (Below.heap_alloc w o g h.lt).trans h
theorem Blk.below {B : Nat} (h : Blk w g t cs) (hb : Below B w w') (hg : g < B) : Blk w' g t cs := (hb.block g hg).trans h
/-- An append onto a row of another element type leaves it. -/
theorem Blk.grown (h : Blk w g t cs) (ho : OwnI w base e k v zs) (hne : e ≠ t) (hb : w.grownBy w' v.ownBlock) : Blk w' g t cs := by
  refine (hb.block g h.lt ?_).trans h
  rcases ho.2 with ⟨rfl, _⟩ | ⟨g', cap, cur, rfl, _, hh, _⟩
  · simp [Value.ownBlock]
  · intro he
    have hgg : g = g' := by simpa [Value.ownBlock] using he
    subst hgg
    unfold Blk at h
    rw [hh] at h
    injection h with h
    injection h with _ ht
    exact hne ht
theorem OwnI.alloc (h : OwnI w base e k v zs) (o : Obj) : OwnI (w.alloc o) base e k v zs := World.ownsRow.alloc h o
theorem OwnI.below_ (h : OwnI w base e k v zs) {w0 : World} (hb : Below base w0 w) (hbase : base ≤ w.heap.size) (hg : w.grownBy w' v.ownBlock) : Below base w0 w' :=
  hb.grown hg hbase (fun _ hk => h.block_ge _ hk)
/-- What a callee leaves of it. -/
theorem OwnI.below (h : OwnI w base e k v zs) (hb : Below w.heap.size w w') : OwnI w' base e k v zs := by
  refine ⟨h.1, ?_⟩
  rcases h.2 with h1 | ⟨g, cap, cur, h1, h2, h3, h4⟩
  · exact .inl h1
  · have hlt : g < w.heap.size := by
      rcases Nat.lt_or_ge g w.heap.size with h5 | h5
      · exact h5
      · rw [Array.getElem?_eq_none h5] at h3; cases h3
    exact .inr ⟨g, cap, cur, h1, h2, (hb.block g hlt).trans h3, h4⟩
/-- An empty slice of the call's own. -/
theorem own_empty (w : World) (e : TypeId) (k : IntKind) (hB : base ≤ w.heap.size) : OwnI (w.alloc (.cells #[] e)) base e k (.slice (some ⟨w.heap.size, 0, none⟩) 0 0) [] :=
  ⟨rfl, .inr ⟨w.heap.size, 0, #[], rfl, hB, heap_alloc_new w _, Nat.le_refl _, by simp [maxLen], rfl, rfl⟩⟩
theorem own_nil (w : World) (e : TypeId) (k : IntKind) : OwnI w base e k (.slice none 0 0) [] := ⟨rfl, .inl ⟨rfl, rfl⟩⟩
/-- The one element that is about to be appended. -/
theorem rd_one (w : World) (e : TypeId) (k : IntKind) (z : Int) : Rd k (w.alloc (.cells #[.int k z] e)) (w.heap.size + 1) (some ⟨w.heap.size, 0, none⟩) 1 [z] := by
  refine ⟨rfl, fun _ => ⟨w.heap.size, 0, rfl, by omega, fun j hj => ?_⟩⟩
  obtain rfl : j = 0 := by omega
  rw [(Blk.new w e #[.int k z]).cell]
  rfl
end
/-- The slice's cells lie apart from the row. -/
def Apart (n : Nat) (A : Option Addr) (v : Value) : Prop := ∀ b off, 0 < n → A = some ⟨b, off, none⟩ → v.ownBlock ≠ some b
theorem Rd.grownA {k : IntKind} {w w' : World} {B n : Nat} {A : Option Addr} {zs : List Int} {v : Value} (h : Rd k w B A n zs) (ha : Apart n A v) (hB : B ≤ w.heap.size) (hg : w.grownBy w' v.ownBlock) : Rd k w' B A n zs :=
  ⟨h.1, fun hn => by
    obtain ⟨b, off, e, hb, hc⟩ := h.2 hn
    refine ⟨b, off, e, hb, fun j hj => ?_⟩
    rw [← hc j hj]
    exact World.cell?_of_block (hg.block b (by omega) (fun h1 => ha b off hn e h1.symm))⟩
/-- A row without room lies apart from whatever has cells; so does what an append makes of it. -/
theorem keep_empty {k k' : IntKind} {w w' : World} {B n base g : Nat} {e : TypeId} {A : Option Addr} {zs : List Int} {v' : Value} (h : Rd k w B A n zs) (hB : B ≤ w.heap.size) (ho : OwnI w base e k' (.slice (some ⟨g, 0, none⟩) 0 0) [])
    (hg : w.grownBy w' (some g)) (hat : v'.ownBlock = some g ∨ v'.ownBlock = some w.heap.size) : Rd k w' B A n zs ∧ Apart n A v' := by
  have hne : ∀ b off, 0 < n → A = some ⟨b, off, none⟩ → b ≠ g ∧ b < w.heap.size := by
    intro b off hn eA
    obtain ⟨b1, off1, e1, hb1, hc1⟩ := h.2 hn
    rw [eA] at e1
    injection e1 with e1
    injection e1 with e2 e3
    subst e2
    subst e3
    refine ⟨?_, by omega⟩
    intro hbg
    subst hbg
    rcases ho.2 with ⟨h1, _⟩ | ⟨g', cap, cur, h1, _, h3, _, _, h6, _⟩
    · cases h1
    · injection h1 with h1 _ h2
      injection h1 with h1
      injection h1 with h1
      subst h1
      subst h2
      have h0 := hc1 0 hn
      rw [Nat.add_zero, cell_of_row w b off cur e (0, 0) h3, Array.getElem?_eq_none (by omega)] at h0
      cases h0
  refine ⟨h.grownA (v := .slice (some ⟨g, 0, none⟩) 0 0) (fun b off hn e h1 => ?_) hB hg, fun b off hn e h1 => ?_⟩
  · have := (hne b off hn e).1
    simp [Value.ownBlock] at h1
    exact this h1.symm
  · obtain ⟨h2, h3⟩ := hne b off hn e
    rcases hat with h4 | h4 <;> rw [h1] at h4 <;> injection h4 <;> omega
def lenV : Value → Nat
  | .slice _ n _ => n
  | _ => 0


/-! ### slices of arrays of integers -/
/-- A row of the call's own that holds arrays of s numbers each. -/
def OwnA (w : World) (base : Nat) (e : TypeId) (s : Nat) (k : IntKind) (v : Value) (bs : List (List Int)) : Prop :=
  w.ownsRow base e s v bs.length (bs.flatten.map (Value.int k)) ∧ ∀ x ∈ bs, x.length = s
/-- The slice reads as the arrays bs. -/
def RdA (k : IntKind) (s : Nat) (w : World) (B : Nat) (A : Option Addr) (n : Nat) (bs : List (List Int)) : Prop :=
  bs.length = n ∧ (∀ x ∈ bs, x.length = s) ∧ (0 < n → ∃ b off, A = some ⟨b, off, none⟩ ∧ b < B ∧ w.rangeAt b off (bs.flatten.map (Value.int k)))
theorem flatten_len {s : Nat} : ∀ {bs : List (List Int)}, (∀ x ∈ bs, x.length = s) → bs.flatten.length = bs.length * s
  | [], _ => by simp
  | x :: bs, h => by
    rw [List.flatten_cons, List.length_append, h x (by simp), flatten_len (bs := bs) fun y hy => h y (by simp [hy]), List.length_cons, Nat.add_mul]
    omega
theorem flatten_at {s : Nat} : ∀ {bs : List (List Int)}, (∀ x ∈ bs, x.length = s) → ∀ {i j : Nat}, i < bs.length → j < s → bs.flatten[i * s + j]? = (bs.getD i [])[j]?
  | [], _, i, j, hi, _ => by simp at hi
  | x :: bs, h, i, j, hi, hj => by
    have hx := h x (by simp)
    rw [List.flatten_cons]
    rcases i with _ | i
    · rw [Nat.zero_mul, Nat.zero_add, List.getElem?_append_left (by omega)]
      rfl
    · rw [List.getElem?_append_right (by rw [hx, Nat.add_mul]; omega), hx, show (i + 1) * s + j - s = i * s + j by rw [Nat.add_mul]; omega,
        flatten_at (bs := bs) (fun y hy => h y (by simp [hy])) (by simpa using hi) hj]
      rfl
section
variable {k : IntKind} {s : Nat} {w w' : World} {B B' n base : Nat} {A : Option Addr} {bs : List (List Int)} {e : TypeId} {v : Value}
theorem RdA.below (h : RdA k s w B A n bs) (hb : Below B w w') : RdA k s w' B A n bs :=
  ⟨h.1, h.2.1, fun hn => by
    obtain ⟨b, off, e, hlt, hc⟩ := h.2.2 hn
    exact ⟨b, off, e, hlt, fun j u hu => (hb.cell (p := ⟨b, off + j, none⟩) hlt).trans (hc j u hu)⟩⟩
theorem RdA.mono (h : RdA k s w B A n bs) (hB : B ≤ B') : RdA k s w B' A n bs :=
  ⟨h.1, h.2.1, fun hn => by
    obtain ⟨b, off, e, hlt, hc⟩ := h.2.2 hn
    exact ⟨b, off, e, by omega, hc⟩⟩
/-- One of its arrays. -/
theorem RdA.at_ (h : RdA k s w B A n bs) {i : Nat} (hi : i < n) : ∃ b off, A = some ⟨b, off, none⟩ ∧ b < B ∧ w.rangeAt b (off + i * s) ((bs.getD i []).map (Value.int k)) := by
  obtain ⟨b, off, e, hlt, hc⟩ := h.2.2 (by omega)
  refine ⟨b, off, e, hlt, fun j u hu => ?_⟩
  have hi' : i < bs.length := by rw [h.1]; exact hi
  have hl : (bs.getD i []).length = s := h.2.1 _ (by simp [List.getD, List.getElem?_eq_getElem hi'])
  have hj : j < s := by
    rcases Nat.lt_or_ge j s with h1 | h1
    · exact h1
    · rw [List.getElem?_eq_none (by rw [List.length_map, hl]; exact h1)] at hu; cases hu
  rw [Nat.add_assoc]
  apply hc
  rw [List.getElem?_map] at hu ⊢
  rw [flatten_at h.2.1 hi' hj]
  exact hu
theorem OwnA.below (h : OwnA w base e s k v bs) (hb : Below w.heap.size w w') : OwnA w' base e s k v bs := by
  refine ⟨⟨h.1.1, ?_⟩, h.2⟩
  rcases h.1.2 with h1 | ⟨g, cap, cur, h1, h2, h3, h4⟩
  · exact .inl h1
  · have hlt : g < w.heap.size := by
      rcases Nat.lt_or_ge g w.heap.size with h5 | h5
      · exact h5
      · rw [Array.getElem?_eq_none h5] at h3; cases h3
    exact .inr ⟨g, cap, cur, h1, h2, (hb.block g hlt).trans h3, h4⟩
theorem OwnA.alloc (h : OwnA w base e s k v bs) (o : Obj) : OwnA (w.alloc o) base e s k v bs := ⟨World.ownsRow.alloc h.1 o, h.2⟩
theorem OwnA.form (h : OwnA w base e s k v bs) : ∃ A c, v = .slice A bs.length c ∧ bs.length ≤ c ∧ c ≤ maxLen := by
  rcases h.1.2 with ⟨rfl, hn⟩ | ⟨g, cap, cur, rfl, _, _, h1, h2, _⟩
  · exact ⟨none, 0, by rw [hn], by omega, by simp [maxLen]⟩
  · exact ⟨_, _, rfl, h1, h2⟩
theorem OwnA.block_ge (h : OwnA w base e s k v bs) : ∀ g, v.ownBlock = some g → base ≤ g := by
  intro g hg
  rcases h.1.2 with ⟨rfl, _⟩ | ⟨g', cap, cur, rfl, hb, _⟩
  · simp [Value.ownBlock] at hg
  · simp [Value.ownBlock] at hg
    omega
theorem OwnA.below_ (h : OwnA w base e s k v bs) {w0 : World} (hb : Below base w0 w) (hbase : base ≤ w.heap.size) (hg : w.grownBy w' v.ownBlock) : Below base w0 w' :=
  hb.grown hg hbase (fun _ hk => h.block_ge _ hk)
theorem OwnA.rd {c : Nat} (h : OwnA w base e s k (.slice A n c) bs) (hn : bs.length = n) : RdA k s w w.heap.size A n bs := by
  subst hn
  refine ⟨rfl, h.2, fun hn => ?_⟩
  obtain ⟨g, cap, hv, _, hlt⟩ := h.1.form hn
  have hA : A = some ⟨g, 0, none⟩ := by injection hv
  subst hA
  refine ⟨g, 0, rfl, hlt, fun j u hu => ?_⟩
  have hc := h.1.cells (g := g) rfl j u hu
  rw [add_flat] at hc
  exact hc
theorem ownA_nil (w : World) (e : TypeId) (k : IntKind) (base s : Nat) : OwnA w base e s k (.slice none 0 0) [] := ⟨⟨by simp, .inl ⟨rfl, rfl⟩⟩, fun _ h => by cases h⟩
theorem OwnA.more {v' : Value} {x : List Int} (h : OwnA w base e s k v bs) (hx : x.length = s) (h2 : w'.ownsRow base e s v' (bs.length + 1) (bs.flatten.map (Value.int k) ++ x.map (Value.int k))) : OwnA w' base e s k v' (bs ++ [x]) := by
  refine ⟨?_, fun y hy => ?_⟩
  · rw [List.length_append, List.flatten_append, List.map_append]
    simpa using h2
  · rcases List.mem_append.1 hy with h3 | h3
    · exact h.2 y h3
    · rw [List.mem_singleton.1 h3]; exact hx
end

/-! ### the one array that is about to be appended -/
theorem fill_one (s : Nat) (hs : 0 < s) (xs cells : Array Value) (hx : xs.size = s) (hc : cells.size = s) : Instr.fill (fun i => some (i * s, s)) cells [(0, .agg xs)] = some xs := by
  obtain ⟨r, hr, hsz, hk⟩ := Great.fill_dense hs [.agg xs] 0 cells (fun v hv => by rw [List.mem_singleton.1 hv]; exact hx) (by simp [hc])
  rw [show ([Value.agg xs].zipIdx 0).map (fun x => (x.2, x.1)) = [(0, .agg xs)] from rfl] at hr
  rw [hr]
  congr 1
  apply Array.ext_getElem?
  intro k
  rw [hk k]
  by_cases h : k < s
  · rw [if_pos (by simp; exact h), Nat.div_eq_of_lt h, Nat.mod_eq_of_lt h]
    rfl
  · rw [if_neg (by simp; omega), Array.getElem?_eq_none (by omega), Array.getElem?_eq_none (by omega)]
theorem wpList_build_one {P : Program} {ops : Array Oper} {rest : List Oper} {o : Oper} {a : Act} {w : World} {Q : Exit → Act → World → Prop} (hg : o.guard = none) (t e : TypeId) (x : Operand) (ho : o.op = .buildSlice t 1 #[(0, x)])
    (ie : TypeInfo) (z : Value) (hu : P.underlying t = some (.slice e)) (hie : P.info? e = some ie) (hz : ie.zero = some z) (s : Nat) (hs : ie.size = s) (h0 : 0 < s) (h1 : s ≤ 65536)
    (xs : Array Value) (hx : a.eval x = .agg xs) (hxs : xs.size = s)
    (h : wpList P ops Q rest (a.put o.dst (.slice (some ⟨w.heap.size, 0, none⟩) 1 1)) (w.alloc (.cells xs e))) : wpList P ops Q (o :: rest) a w := by
  refine wpList_buildSlice hg t e 1 #[(0, x)] ho xs ie z hu hie hz (by rw [hs]; omega) (by rw [hs]; omega) ?_ h
  rw [hs]
  simp only [List.map_toArray, List.map_cons, List.map_nil, hx]
  exact fill_one s h0 xs _ hxs (by simp)

/-- A long array, loaded in a region that only reads. -/
theorem wpQuiet_load_mid {P : Program} {ops : Array Oper} {Q : Act → Prop} {a : Act} {o : Oper} {rest : List Oper} {w : World} (hgd : o.guard = none) (ty : TypeId) (x : Operand) (ho : o.op = .load ty x)
    (b off : Nat) (hx : a.eval x = .pointer (some ⟨b, off, none⟩)) (cs : List Value) (d : TypeDesc) (hc : w.rangeAt b off cs)
    (hu : P.underlying ty = some d) (hd : d.isRow = true) (hi : (P.info? ty).map (·.size) = some cs.length)
    (h : wpQuiet P ops (fun w' => ∃ n, w' = w.drewN n) Q rest (a.put o.dst (.agg cs.toArray))) : wpQuiet P ops (fun w' => ∃ n, w' = w.drewN n) Q (o :: rest) a := by
  refine wpQuiet_step fun K hK => ?_
  rw [if_pos (by simp [Region.wanted, hgd])]
  refine ⟨.agg cs.toArray, ?_, hK _ h⟩
  rintro w' ⟨n, rfl⟩
  unfold Oper.quietAt execOp
  simp only [ho, hx, Instr.loadAt, Instr.sureAddr, Sem.run_bind, Sem.run_pure, Result.andThen_ok, run_loadVar_mid (w.drewN n) b off ty cs d hc hu hd hi]
  exact ⟨rfl, rfl⟩

end Go.Proofs.YtmeefnhmkffdlaaDoor
/-
  make and copy, for slices of integers: a block that the call itself made, known whole as a list of numbers.
  Conditions: those that each theorem names.
-/
set_option maxRecDepth 100000
namespace Go.Proofs.YtmeefnhmkffdlaaDoor
open Go.ChangeShapes Go.WideShapes Go.ChangeAt Go.RowKit

def intsA (k : IntKind) (zs : List Int) : Array Value := (zs.map (Value.int k)).toArray
theorem intsA_size (k : IntKind) (zs : List Int) : (intsA k zs).size = zs.length := by simp [intsA]
theorem intsA_at (k : IntKind) (zs : List Int) (j : Nat) (hj : j < zs.length) : (intsA k zs)[j]? = some (.int k (zs.getD j 0)) := by simp [intsA, hj]
/-- The block g holds the numbers zs, and nothing else. -/
def BlkI (w : World) (g : Nat) (t : TypeId) (k : IntKind) (zs : List Int) : Prop := Blk w g t (intsA k zs)

theorem splice_map {α β : Type} (f : α → β) (L : List α) (off : Nat) (cs : List α) : splice (L.map f) off (cs.map f) = (splice L off cs).map f := by simp [splice]
theorem madeCells_same (v : Value) (m n : Nat) (hm : 0 < m) : madeCells (List.replicate m v).toArray n = (List.replicate n v).toArray := by
  unfold madeCells
  apply Array.ext
  · simp
  · intro i h1 h2
    have h3 : i % m < m := Nat.mod_lt _ hm
    simp [h3]

section
variable {w w' : World} {g B : Nat} {t : TypeId} {k : IntKind} {zs : List Int}
theorem BlkI.lt (h : BlkI w g t k zs) : g < w.heap.size := Blk.lt h
theorem BlkI.cell (h : BlkI w g t k zs) {j : Nat} (hj : j < zs.length) : w.cell? ⟨g, j, none⟩ = some (.int k (zs.getD j 0)) := by rw [Blk.cell h, intsA_at k zs j hj]
theorem BlkI.new (w : World) (t : TypeId) (k : IntKind) (zs : List Int) : BlkI (w.alloc (.cells (intsA k zs) t)) w.heap.size t k zs := Blk.new _ _ _
theorem BlkI.frozen (h : BlkI w g t k zs) (j : Nat) : w.frozen? ⟨g, j, none⟩ = false := Blk.frozen h j
theorem BlkI.set_ (h : BlkI w g t k zs) (j : Nat) (z : Int) : BlkI (w.setCell ⟨g, j, none⟩ (.int k z)) g t k (zs.set j z) := by
  have h1 := Blk.set_ h j (.int k z)
  unfold BlkI
  rw [show intsA k (zs.set j z) = (intsA k zs).setIfInBounds j (.int k z) by simp [intsA, List.map_set]]
  exact h1
theorem BlkI.drew (h : BlkI w g t k zs) : BlkI w.drew g t k zs := h
theorem BlkI.alloc (h : BlkI w g t k zs) (o : Obj) : BlkI (w.alloc o) g t k zs := Blk.alloc h o
theorem BlkI.below (h : BlkI w g t k zs) (hb : Below B w w') (hg : g < B) : BlkI w' g t k zs := Blk.below h hb hg
theorem BlkI.far (h : BlkI w g t k zs) {p : Addr} (hp : g ≠ p.block) (u : Value) : BlkI (w.setCell p u) g t k zs := Blk.far h hp u
theorem BlkI.other (h : BlkI w g t k zs) {r : Nat} (ho : ∀ j, j ≠ r → w'.heap[j]? = w.heap[j]?) (hg : g ≠ r) : BlkI w' g t k zs := (ho g hg).trans h
theorem BlkI.rdAt (h : BlkI w g t k zs) {off n : Nat} (hn : off + n ≤ zs.length) : Rd k w w.heap.size (some ⟨g, off, none⟩) n ((zs.drop off).take n) := by
  refine ⟨by rw [List.length_take, List.length_drop]; omega, fun _ => ⟨g, off, rfl, h.lt, fun j hj => ?_⟩⟩
  rw [h.cell (by omega)]
  congr 2
  simp only [List.getD_eq_getElem?_getD, List.getElem?_take, List.getElem?_drop]
  rw [if_pos hj]
theorem BlkI.rd (h : BlkI w g t k zs) : Rd k w w.heap.size (some ⟨g, 0, none⟩) zs.length zs := by
  have := h.rdAt (off := 0) (n := zs.length) (by omega)
  rwa [List.drop_zero, List.take_of_length_le (Nat.le_refl _)] at this
theorem BlkI.rdA (h : BlkI w g t k zs) {s : Nat} {bs : List (List Int)} (hz : zs = bs.flatten) (hs : ∀ x ∈ bs, x.length = s) : RdA k s w w.heap.size (some ⟨g, 0, none⟩) bs.length bs := by
  refine ⟨rfl, hs, fun _ => ⟨g, 0, rfl, h.lt, fun j u hu => ?_⟩⟩
  rw [Nat.zero_add, Blk.cell h, hz]
  simpa [intsA] using hu
end

section
variable {P : Program}
theorem run_make_ints (t e : TypeId) (i : TypeInfo) (k : IntKind) (ht : P.underlying t = some (.slice e)) (hi : P.info? e = some i) (hz : i.zero = some (.int k 0)) (hs : i.size = 1)
    (kl kc : IntKind) (n : Nat) (hb : i.bytes * n ≤ 281474976710656) (h63 : n ≤ 9223372036854775807) (w : World) :
    (Instr.makeSlice t (.int kl (n : Int)) (.int kc (n : Int))).run P w = .ok (.slice (some ⟨w.heap.size, 0, none⟩) n n) (w.alloc (.cells (intsA k (List.replicate n 0)) e)) := by
  have hb' : (i.bytes : Int) * (n : Int) ≤ 281474976710656 := by
    have h : ((i.bytes * n : Nat) : Int) ≤ 281474976710656 := by omega
    rwa [Int.natCast_mul] at h
  have hr := run_make (P := P) w t e i _ ht hi hz kl kc n n (by omega) (by omega) hb' (by omega)
  simp only [Int.toNat_natCast, hs, Nat.mul_one] at hr
  rw [hr, show madeCells (Value.int k 0).cells n = intsA k (List.replicate n 0) from ?_]
  have h1 := madeCells_same (.int k 0) 1 n (by omega)
  simpa [intsA, Value.cells] using h1
theorem run_make_arrs (t e : TypeId) (i : TypeInfo) (k : IntKind) (s : Nat) (hs0 : 0 < s) (ht : P.underlying t = some (.slice e)) (hi : P.info? e = some i) (hz : i.zero = some (.agg (List.replicate s (Value.int k 0)).toArray)) (hs : i.size = s)
    (kl kc : IntKind) (n : Nat) (hb : i.bytes * n ≤ 281474976710656) (h63 : n ≤ 9223372036854775807) (w : World) :
    (Instr.makeSlice t (.int kl (n : Int)) (.int kc (n : Int))).run P w = .ok (.slice (some ⟨w.heap.size, 0, none⟩) n n) (w.alloc (.cells (intsA k (List.replicate (n * s) 0)) e)) := by
  have hb' : (i.bytes : Int) * (n : Int) ≤ 281474976710656 := by
    have h : ((i.bytes * n : Nat) : Int) ≤ 281474976710656 := by omega
    rwa [Int.natCast_mul] at h
  have hr := run_make (P := P) w t e i _ ht hi hz kl kc n n (by omega) (by omega) hb' (by omega)
  simp only [Int.toNat_natCast, hs] at hr
  rw [hr, show madeCells (Value.agg (List.replicate s (Value.int k 0)).toArray).cells (n * s) = intsA k (List.replicate (n * s) 0) from ?_]
  have h1 := madeCells_same (.int k 0) s (n * s) hs0
  simpa [intsA, Value.cells] using h1

/-- Guards for an arm of a walk: only at an operation; only at the one that writes slot d. -/
theorem at_any {w : World} {ops : Array Oper} {rest : List Oper} {a : Act} {Q : Exit → Act → World → Prop} {o : Oper} (h : wpList P ops Q (o :: rest) a w) : wpList P ops Q (o :: rest) a w := h
theorem at_dst {w : World} {ops : Array Oper} {rest : List Oper} {a : Act} {Q : Exit → Act → World → Prop} {o : Oper} (d : Tmp) (_ : o.dst = some d) (h : wpList P ops Q (o :: rest) a w) : wpList P ops Q (o :: rest) a w := h
/-- Only at a store through slot d. -/
theorem at_store {w : World} {ops : Array Oper} {rest : List Oper} {a : Act} {Q : Exit → Act → World → Prop} {o : Oper} (d : Tmp) {t : TypeId} {x : Operand} (_ : o.op = .store t (.tmp d) x) (h : wpList P ops Q (o :: rest) a w) : wpList P ops Q (o :: rest) a w := h
/-- An operation whose value is known. -/
theorem wpList_val {w : World} {ops : Array Oper} {rest : List Oper} {o : Oper} {a : Act} {Q : Exit → Act → World → Prop} (hgd : o.guard = none) (v : Value) (hv : (execOp a.eval o).run P w = .ok (.value v) w)
    (h : wpList P ops Q rest (a.put o.dst v) w) : wpList P ops Q (o :: rest) a w := by
  refine wpList_plain hgd fun K hK => ?_
  unfold Oper.wp
  simp only [hv]
  exact hK _ _ h
theorem step_dst {w : World} {ops : Array Oper} {a : Act} {o : Oper} {K : Act → World → Prop} {Q : Exit → Act → World → Prop} {E : Prop} (d : Tmp) (_ : o.dst = some d)
    (h : if Region.wanted o (yielded ops a.tmps) = true then Oper.wp P o a w K Q else E) : if Region.wanted o (yielded ops a.tmps) = true then Oper.wp P o a w K Q else E := h
/-- copy onto a block that is known whole: n numbers go over. -/
theorem wpList_copy_ints {w : World} {ops : Array Oper} {rest : List Oper} {o : Oper} {a : Act} {Q : Exit → Act → World → Prop} (hgd : o.guard = none) (d s : Operand) (dT sT : TypeId)
    (ho : o.op = .call { callee := .builtin .copy, args := #[d, s], argTypes := #[dT, sT] }) (elem : TypeId) (hu : P.underlying dT = some (.slice elem)) (hsz : (P.info? elem).map (·.size) = some 1)
    (dp sp : Option Addr) (dLen dCap sLen sCap : Nat) (hd : a.eval d = .slice dp dLen dCap) (hs : a.eval s = .slice sp sLen sCap)
    (g off : Nat) (k : IntKind) (zs : List Int) (t : TypeId) (hg : BlkI w g t k zs) (n : Nat) (hn : n ≤ sLen ∧ n ≤ dLen ∧ (n = sLen ∨ n = dLen)) (B' : Nat) (ys : List Int) (hr : Rd k w B' sp n ys)
    (hdp : 0 < n → dp = some ⟨g, off, none⟩) (hfit : off + n ≤ zs.length) (B : Nat) (w0 : World) (hb : Below B w0 w) (hBg : B ≤ g)
    (h : ∀ w', Hid (BlkI w' g t k (splice zs off ys)) → Below B w0 w' → wpList P ops Q rest (a.put o.dst (.int .i64 (n : Int))) w') :
    wpList P ops Q (o :: rest) a w := by
  have hl := hr.len
  refine wpList_copy_splice hgd d s dT sT ho elem hu hsz dp sp dLen dCap sLen sCap hd hs g off (zs.map (Value.int k)) t hg (ys.map (Value.int k)) (show (ys.map (Value.int k)).length = min sLen dLen by rw [List.length_map, hl]; omega) ?_ (by simp [hl]; exact hfit) (ints_one k ys) B w0 hb hBg ?_
  · intro h0
    have h1 : 0 < n := by simpa [hl] using h0
    obtain ⟨b, o', e, _, _⟩ := hr.at_ h1
    subst e
    exact ⟨hdp h1, _, rfl, hr.news⟩
  · intro w' h1 h2
    have h3 := h w' (show _ from by rw [splice_map] at h1; exact h1) h2
    rwa [show goInt (ys.map (Value.int k)).length = Value.int .i64 (n : Int) by simp [goInt, hl]]
theorem step_copy_ints {ops : Array Oper} {o : Oper} {a : Act} {w : World} {K : Act → World → Prop} {Q : Exit → Act → World → Prop} {E : Prop} (hgd : o.guard = none) (d s : Operand) (dT sT : TypeId)
    (ho : o.op = .call { callee := .builtin .copy, args := #[d, s], argTypes := #[dT, sT] }) (elem : TypeId) (hu : P.underlying dT = some (.slice elem)) (hsz : (P.info? elem).map (·.size) = some 1)
    (dp sp : Option Addr) (dLen dCap sLen sCap : Nat) (hd : a.eval d = .slice dp dLen dCap) (hs : a.eval s = .slice sp sLen sCap)
    (g off : Nat) (k : IntKind) (zs : List Int) (t : TypeId) (hg : BlkI w g t k zs) (n : Nat) (hn : n ≤ sLen ∧ n ≤ dLen ∧ (n = sLen ∨ n = dLen)) (B' : Nat) (ys : List Int) (hr : Rd k w B' sp n ys)
    (hdp : 0 < n → dp = some ⟨g, off, none⟩) (hfit : off + n ≤ zs.length) (B : Nat) (w0 : World) (hb : Below B w0 w) (hBg : B ≤ g)
    (h : ∀ w', Hid (BlkI w' g t k (splice zs off ys)) → Below B w0 w' → K (a.put o.dst (.int .i64 (n : Int))) w') :
    if Region.wanted o (yielded ops a.tmps) = true then Oper.wp P o a w K Q else E := by
  have hl := hr.len
  refine step_copy_splice hgd d s dT sT ho elem hu hsz dp sp dLen dCap sLen sCap hd hs g off (zs.map (Value.int k)) t hg (ys.map (Value.int k)) (show (ys.map (Value.int k)).length = min sLen dLen by rw [List.length_map, hl]; omega) ?_ (by simp [hl]; exact hfit) (ints_one k ys) B w0 hb hBg ?_
  · intro h0
    have h1 : 0 < n := by simpa [hl] using h0
    obtain ⟨b, o', e, _, _⟩ := hr.at_ h1
    subst e
    exact ⟨hdp h1, _, rfl, hr.news⟩
  · intro w' h1 h2
    have h3 := h w' (show _ from by rw [splice_map] at h1; exact h1) h2
    rwa [show goInt (ys.map (Value.int k)).length = Value.int .i64 (n : Int) by simp [goInt, hl]]
end
end Go.Proofs.YtmeefnhmkffdlaaDoor
/-
  Arrays of integers in blocks of their own: boxed, allocated, loaded and stored whole, handed back as a result that lies in memory.
  Conditions: those that each theorem names.
-/
set_option maxRecDepth 100000
namespace Go.Proofs.YtmeefnhmkffdlaaDoor
open Go.ChangeShapes Go.WideShapes Go.ChangeAt Go.RowKit

section
variable {P : Program} {w : World} {ops : Array Oper} {rest : List Oper} {o : Oper} {a : Act} {Q : Exit → Act → World → Prop}
/-- A value boxed. -/
theorem wpList_box_ints (hgd : o.guard = none) (ty : TypeId) (x : Operand) (ho : o.op = .box ty x) (k : IntKind) (zs : List Int) (hx : a.eval x = .agg (intsA k zs))
    (h : ∀ w', Hid (BlkI w' w.heap.size ty k zs) → Hid (w'.heap.size = w.heap.size + 1) → Below w.heap.size w w' → wpList P ops Q rest (a.put o.dst (.pointer (some ⟨w.heap.size, 0, none⟩))) w') : wpList P ops Q (o :: rest) a w := by
  refine wpList_plain hgd fun K hK => ?_
  unfold Oper.wp execOp
  simp only [ho, hx, Instr.box, newVar, newRow, Value.cells]
  exact hK _ _ (h _ (BlkI.new w ty k zs) (show _ = _ by simp) ((Below.refl _ _).alloc (Nat.le_refl _) _))
/-- A new array. -/
theorem wpList_alloc_ints (hgd : o.guard = none) (ty : TypeId) (ho : o.op = .alloc ty) (k : IntKind) (zs : List Int) (hz : ∀ W, (zeroValue ty).run P W = .ok (.agg (intsA k zs)) W)
    (h : ∀ w', Hid (BlkI w' w.heap.size ty k zs) → Hid (w'.heap.size = w.heap.size + 1) → Below w.heap.size w w' → wpList P ops Q rest (a.put o.dst (.pointer (some ⟨w.heap.size, 0, none⟩))) w') : wpList P ops Q (o :: rest) a w := by
  refine wpList_plain hgd fun K hK => ?_
  unfold Oper.wp execOp
  simp only [ho, Instr.alloc, Sem.run_bind, hz, Result.andThen_ok, newVar, newRow, Value.cells]
  exact hK _ _ (h _ (BlkI.new w ty k _) (show _ = _ by simp) ((Below.refl _ _).alloc (Nat.le_refl _) _))
theorem blk_range {g : Nat} {t : TypeId} {k : IntKind} {zs : List Int} (h : BlkI w g t k zs) : w.rangeAt g 0 (zs.map (Value.int k)) := Blk.range h
/-- The whole array loaded. -/
theorem wpList_load_ints (hgd : o.guard = none) (ty : TypeId) (x : Operand) (ho : o.op = .load ty x) (g : Nat) (hx : a.eval x = .pointer (some ⟨g, 0, none⟩)) (t : TypeId) (k : IntKind) (zs : List Int) (hb : BlkI w g t k zs)
    (d : TypeDesc) (hu : P.underlying ty = some d) (hd : d.isRow = true) (hi : (P.info? ty).map (·.size) = some zs.length)
    (h : wpList P ops Q rest (a.put o.dst (.agg (intsA k zs))) w) : wpList P ops Q (o :: rest) a w :=
  wpList_load_mid hgd ty x ho g 0 hx (zs.map (Value.int k)) d (blk_range hb) hu hd (by rw [List.length_map]; exact hi) h
/-- The same behind a guard that holds. -/
theorem wpList_load_gd (hw : Region.wanted o (yielded ops a.tmps) = true) (ty : TypeId) (x : Operand) (ho : o.op = .load ty x) (g : Nat) (hx : a.eval x = .pointer (some ⟨g, 0, none⟩)) (t : TypeId) (k : IntKind) (zs : List Int) (hb : BlkI w g t k zs)
    (d : TypeDesc) (hu : P.underlying ty = some d) (hd : d.isRow = true) (hi : (P.info? ty).map (·.size) = some zs.length)
    (h : wpList P ops Q rest (a.put o.dst (.agg (intsA k zs))) w) : wpList P ops Q (o :: rest) a w :=
  wpList_step fun K hK => by
    rw [if_pos hw]
    exact wp_load_mid ty x ho g 0 hx (zs.map (Value.int k)) d (blk_range hb) hu hd (by rw [List.length_map]; exact hi) (hK _ _ h)
/-- The whole array stored. -/
theorem wpList_store_ints (hgd : o.guard = none) (ty : TypeId) (x y : Operand) (ho : o.op = .store ty x y) (g : Nat) (hx : a.eval x = .pointer (some ⟨g, 0, none⟩)) (t : TypeId) (k : IntKind) (zs ys : List Int) (hb : BlkI w g t k zs)
    (hy : a.eval y = .agg (intsA k ys)) (hl : zs.length = ys.length) (hi : (P.info? ty).map (·.size) = some ys.length)
    (h : ∀ w', Hid (BlkI w' g t k ys) → Hid (w'.heap.size = w.heap.size) → (∀ B, B ≤ g → Below B w w') → (∀ j, j ≠ g → w'.heap[j]? = w.heap[j]?) → wpList P ops Q rest (a.put o.dst undef) w') : wpList P ops Q (o :: rest) a w := by
  refine wpList_plain hgd fun K hK => ?_
  have hrun := run_storeVar_row (P := P) w g t ty (intsA k zs) (intsA k ys) hb (by rw [intsA_size]; exact hi) (by rw [intsA_size, intsA_size]; exact hl) (all_oneCell_toArray (ints_one k ys))
  unfold Oper.wp execOp
  simp only [ho, hx, hy, Instr.storeAt, Instr.sureAddr, Sem.run_bind, Sem.run_pure, Result.andThen_ok, hrun]
  exact hK _ _ (h _ (setRow_heap w g _ _ t _ hb) (show _ = _ by simp) (fun B hB => below_setRow (Below.refl _ _) hB _) (fun j hj => setRow_other w g j _ hj))
/-- What is handed back out of memory. -/
theorem bodyPost_cell {fn : Func} {R : Ending → World → Prop} (p : Tmp) (ty : TypeId) (h : fn.results = #[.cell p ty]) (g : Nat) (ht : a.tmps.getD p undef = .pointer (some ⟨g, 0, none⟩)) (t : TypeId) (k : IntKind) (zs : List Int) (hb : BlkI w g t k zs)
    (d : TypeDesc) (hu : P.underlying ty = some d) (hd : d.isRow = true) (hi : (P.info? ty).map (·.size) = some zs.length) (hdf : a.defers = []) (hR : R (.returned (.agg (intsA k zs))) w) : bodyPost P fn R .ret a w := by
  refine bodyPost_ret (v := .agg (intsA k zs)) ?_ hdf hR
  have hl := run_loadVar_mid (P := P) w g 0 ty (zs.map (Value.int k)) d (blk_range hb) hu hd (by rw [List.length_map]; exact hi)
  have ht' : a.tmps[p]?.getD undef = .pointer (some ⟨g, 0, none⟩) := by rw [← ht, Array.getD_eq_getD_getElem?]
  simp only [results, h]
  simp [ht', asAddr, hl, intsA]
end

/-! ### three blocks at a time -/
/-- The blocks g1, g2 and g3 hold these numbers; what lay there when the call came is as it was. -/
def In3 (w : World) (g1 g2 g3 : Nat) (t1 t2 t3 : TypeId) (k1 k2 k3 : IntKind) (l1 l2 l3 : List Int) (w' : World) : Prop :=
  BlkI w' g1 t1 k1 l1 ∧ BlkI w' g2 t2 k2 l2 ∧ BlkI w' g3 t3 k3 l3 ∧ Below w.heap.size w w' ∧ w.heap.size ≤ g3 ∧ g1 ≠ g3 ∧ g2 ≠ g3
section
variable {w w' w'' : World} {g1 g2 g3 : Nat} {t1 t2 t3 : TypeId} {k1 k2 k3 : IntKind} {l1 l2 l3 : List Int}
theorem In3.below (h : In3 w g1 g2 g3 t1 t2 t3 k1 k2 k3 l1 l2 l3 w') (hb : Below w'.heap.size w' w'') : In3 w g1 g2 g3 t1 t2 t3 k1 k2 k3 l1 l2 l3 w'' := by
  obtain ⟨h1, h2, h3, h4, h5, h6, h7⟩ := h
  exact ⟨h1.below hb h1.lt, h2.below hb h2.lt, h3.below hb h3.lt, h4.trans (hb.mono h4.size), h5, h6, h7⟩
theorem In3.set_ (h : In3 w g1 g2 g3 t1 t2 t3 k1 k2 k3 l1 l2 l3 w') (i : Nat) (z : Int) : In3 w g1 g2 g3 t1 t2 t3 k1 k2 k3 l1 l2 (l3.set i z) (w'.setCell ⟨g3, i, none⟩ (.int k3 z)) := by
  obtain ⟨h1, h2, h3, h4, h5, h6, h7⟩ := h
  exact ⟨h1.far h6 _, h2.far h7 _, h3.set_ i z, h4.setCell (p := ⟨g3, i, none⟩) h5 _, h5, h6, h7⟩
theorem In3.drew (h : In3 w g1 g2 g3 t1 t2 t3 k1 k2 k3 l1 l2 l3 w') : In3 w g1 g2 g3 t1 t2 t3 k1 k2 k3 l1 l2 l3 w'.drew := by
  obtain ⟨h1, h2, h3, h4, h5, h6, h7⟩ := h
  exact ⟨h1, h2, h3, h4.drew, h5, h6, h7⟩
theorem In3.fst (h : In3 w g1 g2 g3 t1 t2 t3 k1 k2 k3 l1 l2 l3 w') : BlkI w' g1 t1 k1 l1 := h.1
theorem In3.snd (h : In3 w g1 g2 g3 t1 t2 t3 k1 k2 k3 l1 l2 l3 w') : BlkI w' g2 t2 k2 l2 := h.2.1
theorem In3.trd (h : In3 w g1 g2 g3 t1 t2 t3 k1 k2 k3 l1 l2 l3 w') : BlkI w' g3 t3 k3 l3 := h.2.2.1
theorem In3.bel (h : In3 w g1 g2 g3 t1 t2 t3 k1 k2 k3 l1 l2 l3 w') : Below w.heap.size w w' := h.2.2.2.1
/-- With place i of the third written or not. -/
def In3W (w : World) (g1 g2 g3 : Nat) (t1 t2 t3 : TypeId) (k1 k2 k3 : IntKind) (l1 l2 l3 : List Int) (i : Nat) (w' : World) : Prop := ∃ u, In3 w g1 g2 g3 t1 t2 t3 k1 k2 k3 l1 l2 (l3.set i u) w'
theorem In3.open_ (h : In3 w g1 g2 g3 t1 t2 t3 k1 k2 k3 l1 l2 l3 w') {i : Nat} (hi : i < l3.length) : In3W w g1 g2 g3 t1 t2 t3 k1 k2 k3 l1 l2 l3 i w' := ⟨l3.getD i 0, by
  have e : l3.set i (l3.getD i 0) = l3 := by
    apply List.ext_getElem?
    intro j
    rw [List.getElem?_set]
    by_cases hj : i = j
    · subst hj; simp [hi]
    · simp [hj]
  rw [e]; exact h⟩
theorem In3W.below {i : Nat} (h : In3W w g1 g2 g3 t1 t2 t3 k1 k2 k3 l1 l2 l3 i w') (hb : Below w'.heap.size w' w'') : In3W w g1 g2 g3 t1 t2 t3 k1 k2 k3 l1 l2 l3 i w'' := by
  obtain ⟨u, hu⟩ := h
  exact ⟨u, hu.below hb⟩
theorem In3W.set_ {i : Nat} (h : In3W w g1 g2 g3 t1 t2 t3 k1 k2 k3 l1 l2 l3 i w') (z : Int) : In3 w g1 g2 g3 t1 t2 t3 k1 k2 k3 l1 l2 (l3.set i z) (w'.setCell ⟨g3, i, none⟩ (.int k3 z)) := by
  obtain ⟨u, hu⟩ := h
  have h1 := hu.set_ i z
  rwa [List.set_set] at h1
theorem In3W.again {i : Nat} (h : In3W w g1 g2 g3 t1 t2 t3 k1 k2 k3 l1 l2 l3 i w') (z : Int) : In3W w g1 g2 g3 t1 t2 t3 k1 k2 k3 l1 l2 l3 i (w'.setCell ⟨g3, i, none⟩ (.int k3 z)) := ⟨z, h.set_ z⟩
theorem In3W.cell1 {i j : Nat} (h : In3W w g1 g2 g3 t1 t2 t3 k1 k2 k3 l1 l2 l3 i w') (hj : j < l1.length) : w'.cell? ⟨g1, j, none⟩ = some (.int k1 (l1.getD j 0)) := by
  obtain ⟨u, hu⟩ := h
  exact hu.1.cell hj
theorem In3W.cell3 {i j : Nat} (h : In3W w g1 g2 g3 t1 t2 t3 k1 k2 k3 l1 l2 l3 i w') (hj : j < l3.length) (hij : j ≠ i) : w'.cell? ⟨g3, j, none⟩ = some (.int k3 (l3.getD j 0)) := by
  obtain ⟨u, hu⟩ := h
  have h1 := hu.2.2.1.cell (j := j) (by rw [List.length_set]; exact hj)
  rw [h1]
  congr 2
  simp [List.getD_eq_getElem?_getD, Ne.symm hij]
theorem In3W.at_ {i : Nat} (h : In3W w g1 g2 g3 t1 t2 t3 k1 k2 k3 l1 l2 l3 i w') (hi : i < l3.length) : (∃ u, w'.cell? ⟨g3, i, none⟩ = some (.int k3 u)) ∧ w'.frozen? ⟨g3, i, none⟩ = false := by
  obtain ⟨u, hu⟩ := h
  exact ⟨⟨_, hu.2.2.1.cell (j := i) (by rw [List.length_set]; exact hi)⟩, hu.2.2.1.frozen i⟩
end
end Go.Proofs.YtmeefnhmkffdlaaDoor
/-
  Steps by hand through a region that draws its order: a long array loaded, a value that is the same in every world that meets S, a call.
  Conditions: those that each theorem names.
-/
set_option maxRecDepth 100000
namespace Go.Proofs.YtmeefnhmkffdlaaDoor
open Go.ChangeShapes Go.WideShapes Go.ChangeAt Go.RowKit
section
variable {P : Program} {ops : Array Oper} {Q : Exit → Act → World → Prop} {md : Region.Mode} {S : World → Prop} {fuel : Nat} {listed : Array Bool} {a : Act} {w : World}
/-- A long array is loaded: taken first. -/
theorem held_load {oi : Oper} (i : Nat) (hi : ops[i]? = some oi) (hs : Region.noSelect ops = true) (hf : Region.free md ops listed i = true) (hr : (Region.ready md ops listed).contains i = true)
    (hQ2 : ∀ c a v w, Q (.panic c) (a.put oi.dst v) w → Q (.panic c) a w) (hw : Region.wanted oi (yielded ops a.tmps) = true)
    (ty : TypeId) (x : Operand) (ho : oi.op = .load ty x) (g : Nat) (hx : a.eval x = .pointer (some ⟨g, 0, none⟩)) (t : TypeId) (k : IntKind) (zs : List Int) (hS : ∀ w, S w → BlkI w g t k zs)
    (d : TypeDesc) (hu : P.underlying ty = some d) (hd : d.isRow = true) (hz : (P.info? ty).map (·.size) = some zs.length) (hSw : S w)
    (h : wpAnyH P md ops Q S fuel (listed.setIfInBounds i true) (a.put oi.dst (.agg (intsA k zs))) w) : wpAnyH P md ops Q S (fuel + 1) listed a w :=
  wpAnyH_take hi hs hf hr (fun c a w => hQ2 c a _ w) (yieldsIf_load_mid hw ty x ho g 0 hx (zs.map (Value.int k)) d (fun w h => blk_range (hS w h)) hu hd (by rw [List.length_map]; exact hz)) hSw h
/-- A value that is the same in every world that meets S: taken first. -/
theorem held_val {oi : Oper} (i : Nat) (hi : ops[i]? = some oi) (hs : Region.noSelect ops = true) (hf : Region.free md ops listed i = true) (hr : (Region.ready md ops listed).contains i = true)
    (hQ2 : ∀ c a v w, Q (.panic c) (a.put oi.dst v) w → Q (.panic c) a w) (hw : Region.wanted oi (yielded ops a.tmps) = true) (v : Value) (hv : ∀ w, S w → (execOp a.eval oi).run P w = .ok (.value v) w) (hSw : S w)
    (h : wpAnyH P md ops Q S fuel (listed.setIfInBounds i true) (a.put oi.dst v) w) : wpAnyH P md ops Q S (fuel + 1) listed a w :=
  wpAnyH_take hi hs hf hr (fun c a w => hQ2 c a _ w) (.inl ⟨hw, hv⟩) hSw h
/-- A whole array is stored, when nothing else may come up. -/
theorem held_store {oi : Oper} (i : Nat) (hi : ops[i]? = some oi) (hr : Region.ready md ops listed = [i]) (hw : Region.wanted oi (yielded ops a.tmps) = true)
    (ty : TypeId) (x y : Operand) (ho : oi.op = .store ty x y) (g : Nat) (hx : a.eval x = .pointer (some ⟨g, 0, none⟩)) (t : TypeId) (k : IntKind) (zs ys : List Int) (hb : BlkI w g t k zs)
    (hy : a.eval y = .agg (intsA k ys)) (hl : zs.length = ys.length) (hz : (P.info? ty).map (·.size) = some ys.length)
    (h : ∀ w', Hid (BlkI w' g t k ys) → (∀ B, B ≤ g → Below B w w') → (∀ j, j ≠ g → w'.heap[j]? = w.heap[j]?) → S w' ∧ wpAnyH P md ops Q S fuel (listed.setIfInBounds i true) (a.put oi.dst undef) w') : wpAnyH P md ops Q S (fuel + 1) listed a w := by
  refine wpAnyH_ready (rs := [i]) hr (by simp) (AllReadyH.cons hi (fun K hK => ?_) AllReadyH.nil)
  rw [if_pos hw]
  have hrun := run_storeVar_row (P := P) w g t ty (intsA k zs) (intsA k ys) hb (by rw [intsA_size]; exact hz) (by rw [intsA_size, intsA_size]; exact hl) (all_oneCell_toArray (ints_one k ys))
  unfold Oper.wp execOp
  simp only [ho, hx, hy, Instr.storeAt, Instr.sureAddr, Sem.run_bind, Sem.run_pure, Result.andThen_ok, hrun]
  obtain ⟨h1, h2⟩ := h _ (setRow_heap w g _ _ t _ hb) (fun B hB => below_setRow (Below.refl _ _) hB _) (fun j hj => setRow_other w g j _ hj)
  exact hK.out _ _ h1 (fun _ => h2)
/-- A whole array is loaded, where it comes up. -/
theorem step_load_ints {o : Oper} {K : Act → World → Prop} {E : Prop} (hw : Region.wanted o (yielded ops a.tmps) = true) (ty : TypeId) (x : Operand) (ho : o.op = .load ty x) (g : Nat) (hx : a.eval x = .pointer (some ⟨g, 0, none⟩)) (t : TypeId) (k : IntKind) (zs : List Int)
    (hb : BlkI w g t k zs) (d : TypeDesc) (hu : P.underlying ty = some d) (hd : d.isRow = true) (hz : (P.info? ty).map (·.size) = some zs.length) (h : K (a.put o.dst (.agg (intsA k zs))) w) :
    if Region.wanted o (yielded ops a.tmps) = true then Oper.wp P o a w K Q else E := by
  rw [if_pos hw]
  exact wp_load_mid ty x ho g 0 hx (zs.map (Value.int k)) d (blk_range hb) hu hd (by rw [List.length_map]; exact hz) h
end
end Go.Proofs.YtmeefnhmkffdlaaDoor
/-
  Rows of cells of any kind (structs) in memory: boxed, made, loaded, stored, handed back; the same inside a region that draws its order.
  Conditions: those that each theorem names.
-/
set_option maxRecDepth 100000
namespace Go.Proofs.YtmeefnhmkffdlaaDoor
open Go.ChangeShapes Go.WideShapes Go.ChangeAt Go.RowKit
/-- Each value takes one cell. -/
def Ones (cs : Array Value) : Prop := ∀ u ∈ cs.toList, u.oneCell' = true
theorem Ones.all {cs : Array Value} (h : Ones cs) : cs.all Value.oneCell' = true := by
  have := all_oneCell_toArray h
  simpa using this
section
variable {P : Program} {w w' : World} {ops : Array Oper} {rest : List Oper} {o : Oper} {a : Act} {Q : Exit → Act → World → Prop}
theorem Blk.other {g r : Nat} {t : TypeId} {cs : Array Value} (h : Blk w g t cs) (ho : ∀ j, j ≠ r → w'.heap[j]? = w.heap[j]?) (hg : g ≠ r) : Blk w' g t cs := (ho g hg).trans h
theorem wpList_box_any (hgd : o.guard = none) (ty : TypeId) (x : Operand) (ho : o.op = .box ty x) (cs : Array Value) (hx : a.eval x = .agg cs)
    (h : ∀ w', Hid (Blk w' w.heap.size ty cs) → Hid (w'.heap.size = w.heap.size + 1) → Below w.heap.size w w' → wpList P ops Q rest (a.put o.dst (.pointer (some ⟨w.heap.size, 0, none⟩))) w') : wpList P ops Q (o :: rest) a w := by
  refine wpList_plain hgd fun K hK => ?_
  unfold Oper.wp execOp
  simp only [ho, hx, Instr.box, newVar, newRow, Value.cells]
  exact hK _ _ (h _ (Blk.new w ty cs) (show _ = _ by simp) ((Below.refl _ _).alloc (Nat.le_refl _) _))
theorem wpList_alloc_any (hgd : o.guard = none) (ty : TypeId) (ho : o.op = .alloc ty) (cs : Array Value) (hz : ∀ W, (zeroValue ty).run P W = .ok (.agg cs) W)
    (h : ∀ w', Hid (Blk w' w.heap.size ty cs) → Hid (w'.heap.size = w.heap.size + 1) → Below w.heap.size w w' → wpList P ops Q rest (a.put o.dst (.pointer (some ⟨w.heap.size, 0, none⟩))) w') : wpList P ops Q (o :: rest) a w := by
  refine wpList_plain hgd fun K hK => ?_
  unfold Oper.wp execOp
  simp only [ho, Instr.alloc, Sem.run_bind, hz, Result.andThen_ok, newVar, newRow, Value.cells]
  exact hK _ _ (h _ (Blk.new w ty _) (show _ = _ by simp) ((Below.refl _ _).alloc (Nat.le_refl _) _))
theorem wpList_load_any (hgd : o.guard = none) (ty : TypeId) (x : Operand) (ho : o.op = .load ty x) (g off : Nat) (hx : a.eval x = .pointer (some ⟨g, off, none⟩)) (cs : List Value) (hb : w.rangeAt g off cs)
    (d : TypeDesc) (hu : P.underlying ty = some d) (hd : d.isRow = true) (hi : (P.info? ty).map (·.size) = some cs.length)
    (h : wpList P ops Q rest (a.put o.dst (.agg cs.toArray)) w) : wpList P ops Q (o :: rest) a w :=
  wpList_load_mid hgd ty x ho g off hx cs d hb hu hd hi h
theorem wpList_store_any (hgd : o.guard = none) (ty : TypeId) (x y : Operand) (ho : o.op = .store ty x y) (g : Nat) (hx : a.eval x = .pointer (some ⟨g, 0, none⟩)) (t : TypeId) (zs ys : Array Value) (hb : Blk w g t zs)
    (hy : a.eval y = .agg ys) (hl : zs.size = ys.size) (hi : (P.info? ty).map (·.size) = some ys.size) (h1 : ys.all (·.oneCell') = true)
    (h : ∀ w', Hid (Blk w' g t ys) → Hid (w'.heap.size = w.heap.size) → (∀ B, B ≤ g → Below B w w') → (∀ j, j ≠ g → w'.heap[j]? = w.heap[j]?) → wpList P ops Q rest (a.put o.dst undef) w') : wpList P ops Q (o :: rest) a w := by
  refine wpList_plain hgd fun K hK => ?_
  have hrun := run_storeVar_row (P := P) w g t ty zs ys hb hi hl h1
  unfold Oper.wp execOp
  simp only [ho, hx, hy, Instr.storeAt, Instr.sureAddr, Sem.run_bind, Sem.run_pure, Result.andThen_ok, hrun]
  exact hK _ _ (h _ (setRow_heap w g _ _ t _ hb) (show _ = _ by simp) (fun B hB => below_setRow (Below.refl _ _) hB _) (fun j hj => setRow_other w g j _ hj))
theorem bodyPost_any {fn : Func} {R : Ending → World → Prop} (p : Tmp) (ty : TypeId) (h : fn.results = #[.cell p ty]) (g : Nat) (ht : a.tmps.getD p undef = .pointer (some ⟨g, 0, none⟩)) (t : TypeId) (cs : Array Value) (hb : Blk w g t cs)
    (d : TypeDesc) (hu : P.underlying ty = some d) (hd : d.isRow = true) (hi : (P.info? ty).map (·.size) = some cs.size) (hdf : a.defers = []) (hR : R (.returned (.agg cs)) w) : bodyPost P fn R .ret a w := by
  refine bodyPost_ret (v := .agg cs) ?_ hdf hR
  have hl := run_loadVar_mid (P := P) w g 0 ty cs.toList d hb.range hu hd (by rw [Array.length_toList]; exact hi)
  have ht' : a.tmps[p]?.getD undef = .pointer (some ⟨g, 0, none⟩) := by rw [← ht, Array.getD_eq_getD_getElem?]
  simp only [results, h]
  simp [ht', asAddr, hl]
/-- A row out of memory, and a value beside it. -/
theorem bodyPost_any2 {fn : Func} {R : Ending → World → Prop} (p q : Tmp) (ty : TypeId) (h : fn.results = #[.cell p ty, .tmp q]) (g : Nat) (ht : a.tmps.getD p undef = .pointer (some ⟨g, 0, none⟩)) (v : Value) (hq : a.tmps.getD q undef = v) (t : TypeId) (cs : Array Value) (hb : Blk w g t cs)
    (d : TypeDesc) (hu : P.underlying ty = some d) (hd : d.isRow = true) (hi : (P.info? ty).map (·.size) = some cs.size) (hdf : a.defers = []) (hR : R (.returned (.tuple #[.agg cs, v])) w) : bodyPost P fn R .ret a w := by
  refine bodyPost_ret (v := .tuple #[.agg cs, v]) ?_ hdf hR
  have hl := run_loadVar_mid (P := P) w g 0 ty cs.toList d hb.range hu hd (by rw [Array.length_toList]; exact hi)
  have ht' : a.tmps[p]?.getD undef = .pointer (some ⟨g, 0, none⟩) := by rw [← ht, Array.getD_eq_getD_getElem?]
  have hq' : a.tmps[q]?.getD undef = v := by rw [← hq, Array.getD_eq_getD_getElem?]
  simp only [results, h]
  simp [ht', hq', asAddr, hl]
end
section
variable {P : Program} {ops : Array Oper} {Q : Exit → Act → World → Prop} {md : Region.Mode} {S : World → Prop} {fuel : Nat} {listed : Array Bool} {a : Act} {w : World}
/-- A row is loaded, wherever it lies: taken first. -/
theorem held_load_mid {oi : Oper} (i : Nat) (hi : ops[i]? = some oi) (hs : Region.noSelect ops = true) (hf : Region.free md ops listed i = true) (hr : (Region.ready md ops listed).contains i = true)
    (hQ2 : ∀ c a v w, Q (.panic c) (a.put oi.dst v) w → Q (.panic c) a w) (hw : Region.wanted oi (yielded ops a.tmps) = true)
    (ty : TypeId) (x : Operand) (ho : oi.op = .load ty x) (g off : Nat) (hx : a.eval x = .pointer (some ⟨g, off, none⟩)) (cs : List Value) (hS : ∀ w, S w → w.rangeAt g off cs)
    (d : TypeDesc) (hu : P.underlying ty = some d) (hd : d.isRow = true) (hz : (P.info? ty).map (·.size) = some cs.length) (hSw : S w)
    (h : wpAnyH P md ops Q S fuel (listed.setIfInBounds i true) (a.put oi.dst (.agg cs.toArray)) w) : wpAnyH P md ops Q S (fuel + 1) listed a w :=
  wpAnyH_take hi hs hf hr (fun c a w => hQ2 c a _ w) (yieldsIf_load_mid hw ty x ho g off hx cs d hS hu hd hz) hSw h
theorem held_store_any {oi : Oper} (i : Nat) (hi : ops[i]? = some oi) (hr : Region.ready md ops listed = [i]) (hw : Region.wanted oi (yielded ops a.tmps) = true)
    (ty : TypeId) (x y : Operand) (ho : oi.op = .store ty x y) (g : Nat) (hx : a.eval x = .pointer (some ⟨g, 0, none⟩)) (t : TypeId) (zs ys : Array Value) (hb : Blk w g t zs)
    (hy : a.eval y = .agg ys) (hl : zs.size = ys.size) (hz : (P.info? ty).map (·.size) = some ys.size) (h1 : ys.all (·.oneCell') = true)
    (h : ∀ w', Hid (Blk w' g t ys) → (∀ B, B ≤ g → Below B w w') → (∀ j, j ≠ g → w'.heap[j]? = w.heap[j]?) → S w' ∧ wpAnyH P md ops Q S fuel (listed.setIfInBounds i true) (a.put oi.dst undef) w') : wpAnyH P md ops Q S (fuel + 1) listed a w := by
  refine wpAnyH_ready (rs := [i]) hr (by simp) (AllReadyH.cons hi (fun K hK => ?_) AllReadyH.nil)
  rw [if_pos hw]
  have hrun := run_storeVar_row (P := P) w g t ty zs ys hb hz hl h1
  unfold Oper.wp execOp
  simp only [ho, hx, hy, Instr.storeAt, Instr.sureAddr, Sem.run_bind, Sem.run_pure, Result.andThen_ok, hrun]
  obtain ⟨h1, h2⟩ := h _ (setRow_heap w g _ _ t _ hb) (fun B hB => below_setRow (Below.refl _ _) hB _) (fun j hj => setRow_other w g j _ hj)
  exact hK.out _ _ h1 (fun _ => h2)
end
end Go.Proofs.YtmeefnhmkffdlaaDoor
/-
  Steps by hand inside a region that draws its order; cells of a block set one by one; worlds that differ in one block alone.
  Conditions: those that each theorem names.
-/
set_option maxRecDepth 100000
set_option linter.unusedVariables false
set_option linter.unusedSimpArgs false
namespace Go.Proofs.YtmeefnhmkffdlaaDoor
open Go.ChangeShapes Go.WideShapes Go.ChangeAt Go.RowKit
section
variable {P : Program} {ops : Array Oper} {Q : Exit → Act → World → Prop} {md : Region.Mode} {S : World → Prop} {fuel : Nat} {listed : Array Bool} {a : Act} {w : World}
/-- A row is loaded whole: taken first. -/
theorem held_row {oi : Oper} (i : Nat) (d : Option Tmp) (hi : ops[i]? = some oi) (hd : oi.dst = d) (hs : Region.noSelect ops = true) (hf : Region.free md ops listed i = true) (hr : (Region.ready md ops listed).contains i = true)
    (hQ2 : ∀ c a v w, Q (.panic c) (a.put oi.dst v) w → Q (.panic c) a w) (hw : Region.wanted oi (yielded ops a.tmps) = true)
    (ty : TypeId) (x : Operand) (ho : oi.op = .load ty x) (g : Nat) (hx : a.eval x = .pointer (some ⟨g, 0, none⟩)) (t : TypeId) (cs : Array Value) (hS : ∀ w, S w → Blk w g t cs)
    (ds : TypeDesc) (hu : P.underlying ty = some ds) (hdr : ds.isRow = true) (hz : (P.info? ty).map (·.size) = some cs.size) (hSw : S w)
    (h : wpAnyH P md ops Q S fuel (listed.setIfInBounds i true) (a.put d (.agg cs)) w) : wpAnyH P md ops Q S (fuel + 1) listed a w :=
  held_load_mid i hi hs hf hr hQ2 hw ty x ho g 0 hx cs.toList (fun w h => (hS w h).range) ds hu hdr (by rw [Array.length_toList]; exact hz) hSw (by rw [Array.toArray_toList, hd]; exact h)
/-- An operation that is not wanted: taken first. -/
theorem held_not {oi : Oper} (i : Nat) (d : Option Tmp) (hi : ops[i]? = some oi) (hd : oi.dst = d) (hs : Region.noSelect ops = true) (hf : Region.free md ops listed i = true) (hr : (Region.ready md ops listed).contains i = true)
    (hQ2 : ∀ c a v w, Q (.panic c) (a.put oi.dst v) w → Q (.panic c) a w) (hw : Region.wanted oi (yielded ops a.tmps) = false) (hSw : S w)
    (h : wpAnyH P md ops Q S fuel (listed.setIfInBounds i true) (a.put d undef) w) : wpAnyH P md ops Q S (fuel + 1) listed a w :=
  wpAnyH_take hi hs hf hr (fun c a w => hQ2 c a _ w) (.inr ⟨hw, rfl⟩) hSw (by rw [hd]; exact h)
/-- A value that is the same in every world that meets S: taken first. -/
theorem held_v {oi : Oper} (i : Nat) (d : Option Tmp) (hi : ops[i]? = some oi) (hd : oi.dst = d) (hs : Region.noSelect ops = true) (hf : Region.free md ops listed i = true) (hr : (Region.ready md ops listed).contains i = true)
    (hQ2 : ∀ c a v w, Q (.panic c) (a.put oi.dst v) w → Q (.panic c) a w) (hw : Region.wanted oi (yielded ops a.tmps) = true) (v : Value) (hv : ∀ w, S w → (execOp a.eval oi).run P w = .ok (.value v) w) (hSw : S w)
    (h : wpAnyH P md ops Q S fuel (listed.setIfInBounds i true) (a.put d v) w) : wpAnyH P md ops Q S (fuel + 1) listed a w :=
  wpAnyH_take hi hs hf hr (fun c a w => hQ2 c a _ w) (.inl ⟨hw, hv⟩) hSw (by rw [hd]; exact h)
/-- A new row, where it comes up. -/
theorem step_alloc {o : Oper} {K : Act → World → Prop} {E : Prop} (d : Option Tmp) (hd : o.dst = d) (hw : Region.wanted o (yielded ops a.tmps) = true) (ty : TypeId) (ho : o.op = .alloc ty) (cs : Array Value) (hz : ∀ W, (zeroValue ty).run P W = .ok (.agg cs) W)
    (h : ∀ w', Hid (Blk w' w.heap.size ty cs) → Hid (w'.heap.size = w.heap.size + 1) → Below w.heap.size w w' → K (a.put d (.pointer (some ⟨w.heap.size, 0, none⟩))) w') :
    if Region.wanted o (yielded ops a.tmps) = true then Oper.wp P o a w K Q else E := by
  subst hd
  rw [if_pos hw]
  unfold Oper.wp execOp
  simp only [ho, Instr.alloc, Sem.run_bind, hz, Result.andThen_ok, newVar, newRow, Value.cells]
  exact h _ (Blk.new w ty _) (show _ = _ by simp) ((Below.refl _ _).alloc (Nat.le_refl _) _)
/-- A row is stored whole, where it comes up. -/
theorem step_store {o : Oper} {K : Act → World → Prop} {E : Prop} (d : Option Tmp) (hd : o.dst = d) (hw : Region.wanted o (yielded ops a.tmps) = true) (ty : TypeId) (x y : Operand) (ho : o.op = .store ty x y) (g : Nat) (hx : a.eval x = .pointer (some ⟨g, 0, none⟩)) (t : TypeId) (zs ys : Array Value) (hb : Blk w g t zs)
    (hy : a.eval y = .agg ys) (hl : zs.size = ys.size) (hz : (P.info? ty).map (·.size) = some ys.size) (h1 : ys.all (·.oneCell') = true)
    (h : ∀ w', Hid (Blk w' g t ys) → Hid (w'.heap.size = w.heap.size) → (∀ B, B ≤ g → Below B w w') → (∀ j, j ≠ g → w'.heap[j]? = w.heap[j]?) → K (a.put d undef) w') :
    if Region.wanted o (yielded ops a.tmps) = true then Oper.wp P o a w K Q else E := by
  subst hd
  rw [if_pos hw]
  have hrun := run_storeVar_row (P := P) w g t ty zs ys hb hz hl h1
  unfold Oper.wp execOp
  simp only [ho, hx, hy, Instr.storeAt, Instr.sureAddr, Sem.run_bind, Sem.run_pure, Result.andThen_ok, hrun]
  exact h _ (setRow_heap w g _ _ t _ hb) (show _ = _ by simp) (fun B hB => below_setRow (Below.refl _ _) hB _) (fun j hj => setRow_other w g j _ hj)
/-- A call, where it comes up. -/
theorem step_call {o : Oper} {K : Act → World → Prop} {E : Prop} (d : Option Tmp) (hd : o.dst = d) (hw : Region.wanted o (yielded ops a.tmps) = true) (f : FuncId) (vs : Array Value) (he : (execOp a.eval o).run P w = .ok (.enter f vs) w) (R : Ending → World → Prop) (hc : Calls P f vs w R)
    (h : ∀ e w', R e w' → ∃ v, e = .returned v ∧ K (a.put d v) w') : if Region.wanted o (yielded ops a.tmps) = true then Oper.wp P o a w K Q else E := by
  subst hd
  rw [if_pos hw]
  unfold Oper.wp
  rw [he, Oper.upon_enter]
  exact hc.mono fun e w' hr => by
    obtain ⟨v, rfl, hk⟩ := h e w' hr
    exact hk
/-- An operation that is not wanted, where it comes up. -/
theorem step_not {o : Oper} {K : Act → World → Prop} {W : Prop} (d : Option Tmp) (hd : o.dst = d) (hw : Region.wanted o (yielded ops a.tmps) = false) (h : K (a.put d undef) w) : if Region.wanted o (yielded ops a.tmps) = true then W else K (a.put o.dst undef) w := by
  subst hd
  rw [if_neg (by rw [hw]; decide)]
  exact h
end
/-! ### cells set one by one -/
def putAll (cs : Array Value) (o : Nat) : List Value → Array Value
  | [] => cs
  | v :: vs => putAll (cs.setIfInBounds o v) (o + 1) vs
theorem Blk.setCells {g : Nat} {t : TypeId} : ∀ (vs : List Value) (o : Nat) {w : World} {cs : Array Value}, Blk w g t cs → Blk (w.setCells g o vs) g t (putAll cs o vs)
  | [], _, _, _, h => h
  | v :: vs, o, w, cs, h => by
    rw [World.setCells]
    exact Blk.setCells vs (o + 1) (h.set_ o v)
/-- Nothing but the block g has changed; more may have come. -/
structure Only (g : Nat) (w w' : World) : Prop where
  os : w'.os = w.os
  tape : w'.tape = w.tape
  output : w'.output = w.output
  size : w.heap.size ≤ w'.heap.size
  block : ∀ j, j < w.heap.size → j ≠ g → w'.heap[j]? = w.heap[j]?
theorem Only.refl (g : Nat) (w : World) : Only g w w := ⟨rfl, rfl, rfl, Nat.le_refl _, fun _ _ _ => rfl⟩
theorem Only.trans {g : Nat} {a b c : World} (h : Only g a b) (h' : Only g b c) : Only g a c :=
  ⟨h'.os.trans h.os, h'.tape.trans h.tape, h'.output.trans h.output, Nat.le_trans h.size h'.size, fun j hj hne => (h'.block j (Nat.lt_of_lt_of_le hj h.size) hne).trans (h.block j hj hne)⟩
theorem Only.of_below {g : Nat} {w w' : World} (h : Below w.heap.size w w') : Only g w w' := ⟨h.os, h.tape, h.output, h.size, fun j hj _ => h.block j hj⟩
theorem Only.below {g B : Nat} {w w' : World} (h : Only g w w') (hg : B ≤ g) (hB : B ≤ w.heap.size) : Below B w w' := ⟨h.os, h.tape, h.output, h.size, fun j hj => h.block j (by omega) (by omega)⟩
theorem Only.drew {g : Nat} {w w' : World} (h : Only g w w') : Only g w w'.drew := ⟨h.os, h.tape, h.output, h.size, h.block⟩
theorem Only.of_drew {g : Nat} {w w' : World} (h : Only g w.drew w') : Only g w w' := ⟨h.os, h.tape, h.output, h.size, h.block⟩
theorem Only.setCell (g o : Nat) (w : World) (v : Value) : Only g w (w.setCell ⟨g, o, none⟩ v) :=
  ⟨rfl, rfl, rfl, by simp [World.setCell], fun j _ hne => Below.heap_setCell w ⟨g, o, none⟩ v j hne⟩
theorem Only.setCells (g : Nat) : ∀ (vs : List Value) (o : Nat) (w : World), Only g w (w.setCells g o vs)
  | [], _, w => Only.refl g w
  | v :: vs, o, w => by
    rw [World.setCells]
    exact (Only.setCell g o w v).trans (Only.setCells g vs (o + 1) _)
theorem Blk.there {w : World} {g : Nat} {t : TypeId} {cs : Array Value} (h : Blk w g t cs) (o n : Nat) (hn : o + n ≤ cs.size) : w.there g o n := fun j hj => ⟨by
  rw [h.cell, Array.getElem?_eq_getElem (by omega)]; rfl, h.frozen _⟩
theorem Blk.only {w w' : World} {g r : Nat} {t : TypeId} {cs : Array Value} (h : Blk w r t cs) (ho : Only g w w') (hne : r ≠ g) : Blk w' r t cs := (ho.block r h.lt hne).trans h
/-- A row of the call's own lies apart from a block of other things. -/
theorem OwnI.only {w w' : World} {base g : Nat} {e t : TypeId} {k : IntKind} {v : Value} {zs : List Int} {cs : Array Value} (h : OwnI w base e k v zs) (hb : Blk w g t cs) (hne : e ≠ t) (ho : Only g w w') : OwnI w' base e k v zs := by
  refine ⟨h.1, ?_⟩
  rcases h.2 with h1 | ⟨g', cap, cur, h1, h2, h3, h4⟩
  · exact .inl h1
  · have hlt : g' < w.heap.size := by
      rcases Nat.lt_or_ge g' w.heap.size with h5 | h5
      · exact h5
      · rw [Array.getElem?_eq_none h5] at h3; cases h3
    have hg : g' ≠ g := by
      rintro rfl
      unfold Blk at hb
      rw [h3] at hb
      injection hb with hb
      injection hb with _ h5
      exact hne h5
    exact .inr ⟨g', cap, cur, h1, h2, (ho.block g' hlt hg).trans h3, h4⟩
/-- A part of a block that is not of the same kind, read as numbers, stays. -/
theorem RdA.only {w w' : World} {k : IntKind} {s n g : Nat} {A : Option Addr} {bs : List (List Int)} (h : RdA k s w g A n bs) (hg : g ≤ w.heap.size) (ho : Only g w w') : RdA k s w' g A n bs := h.below (ho.below (Nat.le_refl _) hg)
section
variable {P : Program} {w w' : World} {ops : Array Oper} {rest : List Oper} {o : Oper} {a : Act} {Q : Exit → Act → World → Prop}
/-- A part of a block is stored, where it comes up. -/
theorem step_store_at {K : Act → World → Prop} {E : Prop} (d : Option Tmp) (hd : o.dst = d) (hw : Region.wanted o (yielded ops a.tmps) = true) (ty : TypeId) (x y : Operand) (ho : o.op = .store ty x y) (g : Nat) (hx : a.eval x = .pointer (some ⟨g, 0, none⟩)) (t : TypeId) (cs ys : Array Value) (hb : Blk w g t cs)
    (hy : a.eval y = .agg ys) (hl : ys.size ≤ cs.size) (hz : (P.info? ty).map (·.size) = some ys.size) (h1 : ys.all (·.oneCell') = true)
    (h : ∀ w', Hid (Blk w' g t (putAll cs 0 ys.toList)) → Only g w w' → K (a.put d undef) w') :
    if Region.wanted o (yielded ops a.tmps) = true then Oper.wp P o a w K Q else E := by
  subst hd
  rw [if_pos hw]
  exact wp_store_mid ty x y ho g 0 ys hx hy (hb.there 0 ys.size (by omega)) hz h1 (h _ (Blk.setCells _ _ hb) (Only.setCells g _ _ _))
/-- A row is loaded, wherever it lies, where it comes up. -/
theorem step_load_at {K : Act → World → Prop} {E : Prop} (d : Option Tmp) (hd : o.dst = d) (hw : Region.wanted o (yielded ops a.tmps) = true) (ty : TypeId) (x : Operand) (ho : o.op = .load ty x) (g off : Nat) (hx : a.eval x = .pointer (some ⟨g, off, none⟩)) (cs : List Value) (hb : w.rangeAt g off cs)
    (ds : TypeDesc) (hu : P.underlying ty = some ds) (hdr : ds.isRow = true) (hz : (P.info? ty).map (·.size) = some cs.length) (h : K (a.put d (.agg cs.toArray)) w) :
    if Region.wanted o (yielded ops a.tmps) = true then Oper.wp P o a w K Q else E := by
  subst hd
  rw [if_pos hw]
  exact wp_load_mid ty x ho g off hx cs ds hb hu hdr hz h
/-- A cell is loaded, where it comes up. -/
theorem step_v {K : Act → World → Prop} {E : Prop} (d : Option Tmp) (hd : o.dst = d) (hw : Region.wanted o (yielded ops a.tmps) = true) (v : Value) (hv : (execOp a.eval o).run P w = .ok (.value v) w) (h : K (a.put d v) w) :
    if Region.wanted o (yielded ops a.tmps) = true then Oper.wp P o a w K Q else E := by
  subst hd
  rw [if_pos hw]
  unfold Oper.wp
  simp only [hv]
  exact h
theorem run_storeVar_cell (b off : Nat) (ty : TypeId) (v : Value) (ht : w.there b off 1) (hi : (P.info? ty).map (·.size) = some 1) (h1 : v.cells = #[v]) (h2 : v.oneCell' = true) : (storeVar ty ⟨b, off, none⟩ v).run P w = .ok () (w.setCell ⟨b, off, none⟩ v) := by
  have := run_storeCells_cells (P := P) b off [v] 0 w (fun j hj => by simpa using (ht j (by simpa using hj)).1) (fun j hj => by simpa using (ht j (by simpa using hj)).2)
    (fun u hu => by rw [List.mem_singleton.1 hu]; exact h2)
  cases hq : P.info? ty with
  | none => simp [hq] at hi
  | some i =>
    have hs : i.size = 1 := by simpa [hq] using hi
    simp only [Nat.add_zero, World.setCells] at this
    simp [storeVar, sizeOf, typeInfo, hq, h1, hs, this]
/-- One cell of a block is stored, where it comes up. -/
theorem step_store_cell {K : Act → World → Prop} {E : Prop} (d : Option Tmp) (hd : o.dst = d) (hw : Region.wanted o (yielded ops a.tmps) = true) (ty : TypeId) (x y : Operand) (ho : o.op = .store ty x y) (g off : Nat) (hx : a.eval x = .pointer (some ⟨g, off, none⟩)) (t : TypeId) (cs : Array Value) (hb : Blk w g t cs)
    (v : Value) (hy : a.eval y = v) (hl : off < cs.size) (hz : (P.info? ty).map (·.size) = some 1) (h1 : v.cells = #[v]) (h2 : v.oneCell' = true)
    (h : ∀ w', Hid (Blk w' g t (cs.setIfInBounds off v)) → Only g w w' → K (a.put d undef) w') :
    if Region.wanted o (yielded ops a.tmps) = true then Oper.wp P o a w K Q else E := by
  subst hd
  rw [if_pos hw]
  have hrun := run_storeVar_cell (P := P) (w := w) g off ty v (hb.there off 1 (by omega)) hz h1 h2
  unfold Oper.wp execOp
  simp only [ho, hx, hy, Instr.storeAt, Instr.sureAddr, Sem.run_bind, Sem.run_pure, Result.andThen_ok, hrun]
  exact h _ (hb.set_ off v) (Only.setCell g off w v)
/-- The same, in a plain region. -/
theorem wpList_store_cell (hgd : o.guard = none) (ty : TypeId) (x y : Operand) (ho : o.op = .store ty x y) (g off : Nat) (hx : a.eval x = .pointer (some ⟨g, off, none⟩)) (t : TypeId) (cs : Array Value) (hb : Blk w g t cs)
    (v : Value) (hy : a.eval y = v) (hl : off < cs.size) (hz : (P.info? ty).map (·.size) = some 1) (h1 : v.cells = #[v]) (h2 : v.oneCell' = true)
    (h : ∀ w', Hid (Blk w' g t (cs.setIfInBounds off v)) → Only g w w' → wpList P ops Q rest (a.put o.dst undef) w') : wpList P ops Q (o :: rest) a w := by
  refine wpList_plain hgd fun K hK => ?_
  have hrun := run_storeVar_cell (P := P) (w := w) g off ty v (hb.there off 1 (by omega)) hz h1 h2
  unfold Oper.wp execOp
  simp only [ho, hx, hy, Instr.storeAt, Instr.sureAddr, Sem.run_bind, Sem.run_pure, Result.andThen_ok, hrun]
  exact hK _ _ (h _ (hb.set_ off v) (Only.setCell g off w v))
end
/-! ### rows of the call's own, out of blocks that are known whole -/
theorem OwnI.of_blk {w : World} {g base c : Nat} {e : TypeId} {k : IntKind} {zs cs : List Int} (h : BlkI w g e k cs) (hb : base ≤ g) (hn : zs.length ≤ c) (hc : c ≤ maxLen) (hs : cs.length = c) (hp : cs.take zs.length = zs) : OwnI w base e k (.slice (some ⟨g, 0, none⟩) zs.length c) zs :=
  ⟨by simp, .inr ⟨g, c, intsA k cs, rfl, hb, h, hn, hc, by rw [intsA_size, hs]; simp, by simp [intsA, ← List.map_take, hp]⟩⟩
theorem OwnI.zero {w : World} {base n c : Nat} {e : TypeId} {k : IntKind} {A : Option Addr} {zs : List Int} (h : OwnI w base e k (.slice A n c) zs) (hn : 0 < zs.length) : OwnI w base e k (.slice A 0 c) [] := by
  rcases h.2 with ⟨h1, h2⟩ | ⟨g, cap, cur, h1, h2, h3, h4, h5, h6, h7⟩
  · omega
  · injection h1 with e1 e2 e3
    subst e1 e3
    exact ⟨rfl, .inr ⟨g, c, cur, rfl, h2, h3, Nat.zero_le _, h5, h6, by simp⟩⟩
theorem run_make_cap {P : Program} (t e : TypeId) (i : TypeInfo) (k : IntKind) (ht : P.underlying t = some (.slice e)) (hi : P.info? e = some i) (hz : i.zero = some (.int k 0)) (hs : i.size = 1) (hby : i.bytes = 1) (n m : Nat) (hnm : n ≤ m) (hm : m ≤ 1000000) (w : World) :
    (Instr.makeSlice t (.int .i64 (n : Int)) (.int .i64 (m : Int))).run P w = .ok (.slice (some ⟨w.heap.size, 0, none⟩) n m) (w.alloc (.cells (intsA k (List.replicate m 0)) e)) := by
  have hr := run_make (P := P) w t e i _ ht hi hz .i64 .i64 n m (by omega) (by omega) (by rw [hby]; omega) (by omega)
  simp only [Int.toNat_natCast, hs, Nat.mul_one] at hr
  rw [hr, show madeCells (Value.int k 0).cells m = intsA k (List.replicate m 0) from ?_]
  have h1 := madeCells_same (.int k 0) 1 m (by omega)
  simpa [intsA, Value.cells] using h1
section
variable {P : Program} {ops : Array Oper} {Q : Exit → Act → World → Prop} {md : Region.Mode} {S : World → Prop} {fuel : Nat} {listed : Array Bool} {a : Act} {w : World}
/-- A row is loaded, wherever it lies: taken first. -/
theorem held_load_at {oi : Oper} (i : Nat) (d : Option Tmp) (hi : ops[i]? = some oi) (hd : oi.dst = d) (hs : Region.noSelect ops = true) (hf : Region.free md ops listed i = true) (hr : (Region.ready md ops listed).contains i = true)
    (hQ2 : ∀ c a v w, Q (.panic c) (a.put oi.dst v) w → Q (.panic c) a w) (hw : Region.wanted oi (yielded ops a.tmps) = true)
    (ty : TypeId) (x : Operand) (ho : oi.op = .load ty x) (g off : Nat) (hx : a.eval x = .pointer (some ⟨g, off, none⟩)) (cs : List Value) (hS : ∀ w, S w → w.rangeAt g off cs)
    (ds : TypeDesc) (hu : P.underlying ty = some ds) (hdr : ds.isRow = true) (hz : (P.info? ty).map (·.size) = some cs.length) (hSw : S w)
    (h : wpAnyH P md ops Q S fuel (listed.setIfInBounds i true) (a.put d (.agg cs.toArray)) w) : wpAnyH P md ops Q S (fuel + 1) listed a w :=
  held_load_mid i hi hs hf hr hQ2 hw ty x ho g off hx cs hS ds hu hdr hz hSw (by rw [hd]; exact h)
end
theorem step_append_d {P : Program} (w : World) {ops : Array Oper} {o : Oper} {a : Act} {K : Act → World → Prop} {Q : Exit → Act → World → Prop} {E : Prop} (d : Option Tmp) (hd : o.dst = d) (hgd : o.guard = none) (s x : Operand) (t : TypeId)
    (ho : o.op = .call { callee := .builtin .append, args := #[s, x], argTypes := #[t, t] })
    (base : Nat) (e : TypeId) (i : TypeInfo) (z : Value) (bytes : Nat) (k : IntKind) (ht : P.underlying t = some (.slice e)) (hi : P.info? e = some i) (hz : i.zero = some z)
    (hsize : i.size = 1) (hby : i.bytes = bytes) (hzs : z.cells.size = 1) (v : Value) (zs : List Int) (hs : a.eval s = v) (hown : OwnI w base e k v zs)
    (B : Nat) (A : Option Addr) (m c : Nat) (ys : List Int) (hx : a.eval x = .slice A m c) (hr : Rd k w B A m ys)
    (h63 : zs.length + m ≤ maxLen) (hbytes : (zs.length + m) * bytes ≤ 140737488355328) (hbase : base ≤ w.heap.size)
    (h : ∀ v' w', OwnI w' base e k v' (zs ++ ys) → w.grownBy w' v.ownBlock → (v'.ownBlock = v.ownBlock ∨ v'.ownBlock = some w.heap.size) → K (a.put d v') w') :
    if Region.wanted o (yielded ops a.tmps) = true then Oper.wp P o a w K Q else E := by
  subst hd
  exact step_append_ints w hgd s x t ho base e i z bytes k ht hi hz hsize hby hzs v zs hs hown B A m c ys hx hr h63 hbytes hbase h
section
variable {P : Program} {ops : Array Oper} {Q : Exit → Act → World → Prop} {md : Region.Mode} {S : World → Prop} {fuel : Nat} {listed : Array Bool} {a : Act} {w : World}
/-- What comes behind the region is kept under a letter meanwhile. -/
theorem wpAnyH_letter (L : Array Bool) (hL : listed = L) (hQ : ∀ c a d v w, Q (.panic c) (Act.put a d v) w → Q (.panic c) a w)
    (h : ∀ Q' : Exit → Act → World → Prop, Hid (∀ a w, Q .normal a w → Q' .normal a w) → Hid (∀ c a d v w, Q' (.panic c) (Act.put a d v) w → Q' (.panic c) a w) → wpAnyH P md ops Q' S fuel L a w) : wpAnyH P md ops Q S fuel listed a w := by
  subst hL
  exact h Q (fun _ _ h => h) hQ
end
/-- A cell of a row of the call's own is stored. -/
theorem OwnI.put {w w' : World} {base g c n j : Nat} {e : TypeId} {k : IntKind} {z : Int} {zs : List Int} {cur : Array Value} (h : OwnI w base e k (.slice (some ⟨g, 0, none⟩) n c) zs) (hb : Blk w g e cur) (hj : j < zs.length) (hk : Blk w' g e (cur.setIfInBounds j (.int k z))) : OwnI w' base e k (.slice (some ⟨g, 0, none⟩) n c) (zs.set j z) := by
  refine ⟨by simp, ?_⟩
  rcases h.2 with ⟨h1, _⟩ | ⟨g', cap, cur', h1, h2, h3, h4, h5, h6, h7⟩
  · cases h1
  · injection h1 with e1 e2 e3
    injection e1 with e1
    injection e1 with e1 e4
    subst e1 e2 e3
    unfold Blk at hb
    rw [h3] at hb
    injection hb with hb
    injection hb with hb _
    subst hb
    refine .inr ⟨g, c, _, by rw [List.length_set], h2, hk, by rw [List.length_set]; exact h4, h5, by rw [Array.size_setIfInBounds]; exact h6, ?_⟩
    rw [Nat.mul_one] at h7 ⊢
    rw [Array.toList_setIfInBounds, List.length_set, List.take_set, h7, List.map_set]
/-- Its block, known whole. -/
theorem OwnI.whole {w : World} {base n c : Nat} {e : TypeId} {k : IntKind} {A : Option Addr} {zs : List Int} (h : OwnI w base e k (.slice A n c) zs) (hn : 0 < zs.length) : ∃ g cur, A = some ⟨g, 0, none⟩ ∧ base ≤ g ∧ Blk w g e cur ∧ zs.length ≤ cur.size ∧ ∀ j, j < zs.length → cur[j]? = some (.int k (zs.getD j 0)) := by
  rcases h.2 with ⟨h1, h2⟩ | ⟨g, cap, cur, h1, h2, h3, h4, h5, h6, h7⟩
  · omega
  · injection h1 with e1 e2 e3
    rw [Nat.mul_one] at h7
    refine ⟨g, cur, e1, h2, h3, by rw [h6]; omega, fun j hj => ?_⟩
    have h8 : (cur.toList.take zs.length)[j]? = (zs.map (Value.int k))[j]? := by rw [h7]
    rw [List.getElem?_take, if_pos hj, List.getElem?_map, List.getElem?_eq_getElem hj] at h8
    rw [← Array.getElem?_toList, h8, List.getD_eq_getElem?_getD, List.getElem?_eq_getElem hj]
    rfl
end Go.Proofs.YtmeefnhmkffdlaaDoor
/-
  Plain arithmetic on words of 32 and 64 bits (shifts, turns, bytes, number of bits), with no program in it.
  Conditions: none beyond those that each theorem names.
-/
set_option maxRecDepth 100000
namespace Go.Proofs.YtmeefnhmkffdlaaDoor.Wd

def left (x n : Int) : Int := if n < 1 then x else if 31 < n then 0 else x * 2 ^ n.toNat % 4294967296
def right (x n : Int) : Int := if n < 1 then x else if 31 < n then 0 else x / 2 ^ n.toNat
def rot (x : Int) (k : Nat) : Int := x / 2 ^ k + x % 2 ^ k * 2 ^ (32 - k)
def rotate (x n : Int) : Int := rot x (n % 32).toNat
/-- The byte of x that has k bytes behind it. -/
def byt (x : Int) (k : Nat) : Int := x / 256 ^ k % 256
def get4 (a b c d : Int) : Int := ((a * 256 + b) * 256 + c) * 256 + d
/-- How many bits a number has. -/
def bitsL (x : Nat) : Nat := if x = 0 then 0 else x.log2 + 1
theorem bitsL_zero : bitsL 0 = 0 := rfl
theorem bitsL_step (x : Nat) (h : 0 < x) : bitsL x = bitsL (x / 2) + 1 := by
  unfold bitsL
  rw [if_neg (by omega), Nat.log2_def]
  by_cases h2 : 2 ≤ x
  · rw [if_pos h2, if_neg (by omega)]
  · rw [if_neg h2, if_pos (by omega)]
theorem bitsL_le (x : Nat) (h : x < 18446744073709551616) : bitsL x ≤ 64 := by
  unfold bitsL
  split
  · omega
  · have : x.log2 < 64 := (Nat.log2_lt (by omega)).2 h
    omega

theorem pow_pos2 (k : Nat) : (0 : Int) < 2 ^ k := Int.pow_pos (by decide)

theorem left_low (x n : Int) (h : n < 1) : left x n = x := by simp [left, h]
theorem right_low (x n : Int) (h : n < 1) : right x n = x := by simp [right, h]
theorem left_high (x n : Int) (h : 31 < n) : left x n = 0 := by
  unfold left; rw [if_neg (by omega), if_pos h]
theorem right_high (x n : Int) (h : 31 < n) : right x n = 0 := by
  unfold right; rw [if_neg (by omega), if_pos h]

/-- What the model answers of a shift to the highest bit. -/
theorem left_model (x n : Int) (h : 1 ≤ n) : x * 2 ^ min n.toNat 32 % 4294967296 = left x n := by
  by_cases h2 : 31 < n
  · rw [left_high x n h2, show min n.toNat 32 = 32 by omega, show (2 : Int) ^ 32 = 4294967296 by decide]
    exact Int.mul_emod_left _ _
  · unfold left
    rw [if_neg (by omega), if_neg h2, show min n.toNat 32 = n.toNat by omega]

theorem right_model (x n : Int) (h0 : 0 ≤ x) (h1 : x < 4294967296) (h : 1 ≤ n) : x / 2 ^ min n.toNat 32 = right x n := by
  by_cases h2 : 31 < n
  · rw [right_high x n h2, show min n.toNat 32 = 32 by omega, show (2 : Int) ^ 32 = 4294967296 by decide]
    exact Int.ediv_eq_zero_of_lt h0 h1
  · unfold right
    rw [if_neg (by omega), if_neg h2, show min n.toNat 32 = n.toNat by omega]

theorem shl_split (x : Int) (k : Nat) (hk : k ≤ 32) : x * 2 ^ (32 - k) % 4294967296 = x % 2 ^ k * 2 ^ (32 - k) := by
  have e : (4294967296 : Int) = 2 ^ k * 2 ^ (32 - k) := by
    rw [← Int.pow_add, show k + (32 - k) = 32 by omega]; decide
  rw [e, Int.mul_comm x, Int.mul_comm (2 ^ k), Int.mul_emod_mul_of_pos _ _ (pow_pos2 _), Int.mul_comm]

theorem rot_bounds (x : Int) (k : Nat) (h0 : 0 ≤ x) (h1 : x < 4294967296) (hk : k ≤ 32) : 0 ≤ rot x k ∧ rot x k < 4294967296 := by
  unfold rot
  have e : (4294967296 : Int) = 2 ^ (32 - k) * 2 ^ k := by
    rw [← Int.pow_add, show 32 - k + k = 32 by omega]; decide
  have p := pow_pos2 k
  have q := pow_pos2 (32 - k)
  have hd : x / 2 ^ k < 2 ^ (32 - k) := Int.ediv_lt_of_lt_mul p (by rw [← e]; exact h1)
  have hd0 : 0 ≤ x / 2 ^ k := Int.ediv_nonneg h0 (by omega)
  have hm0 := Int.emod_nonneg x (show (2 : Int) ^ k ≠ 0 by omega)
  have hm1 := Int.emod_lt_of_pos x p
  have hq := Int.mul_nonneg hm0 (show (0 : Int) ≤ 2 ^ (32 - k) by omega)
  have hlt : (x % 2 ^ k + 1) * 2 ^ (32 - k) ≤ 2 ^ k * 2 ^ (32 - k) := Int.mul_le_mul_of_nonneg_right (by omega) (by omega)
  rw [Int.add_mul, Int.one_mul, Int.mul_comm (2 ^ k) (2 ^ (32 - k)), ← e] at hlt
  omega

theorem toNat_mul_pow (a : Int) (k : Nat) (h : 0 ≤ a) : (a * 2 ^ k).toNat = 2 ^ k * a.toNat := by
  obtain ⟨n, rfl⟩ := Int.eq_ofNat_of_zero_le h
  rw [show ((n : Int) * 2 ^ k) = ((n * 2 ^ k : Nat) : Int) by push_cast; rfl, Int.toNat_natCast, Int.toNat_natCast, Nat.mul_comm]

/-- Both shifts, joined bit by bit, are their sum. -/
theorem rot_or (x : Int) (k : Nat) (h0 : 0 ≤ x) (h1 : x < 4294967296) (hk : k < 32) :
    Go.bits .or .u32 (x / 2 ^ k) (x * 2 ^ (32 - k) % 4294967296) = rot x k := by
  have hb := rot_bounds x k h0 h1 (by omega)
  rw [shl_split x k (by omega)]
  unfold rot at hb ⊢
  have e : (4294967296 : Int) = 2 ^ (32 - k) * 2 ^ k := by
    rw [← Int.pow_add, show 32 - k + k = 32 by omega]; decide
  have p := pow_pos2 k
  have q := pow_pos2 (32 - k)
  have hd : x / 2 ^ k < 2 ^ (32 - k) := Int.ediv_lt_of_lt_mul p (by rw [← e]; exact h1)
  have hd0 : 0 ≤ x / 2 ^ k := Int.ediv_nonneg h0 (by omega)
  have hm0 := Int.emod_nonneg x (show (2 : Int) ^ k ≠ 0 by omega)
  have hq := Int.mul_nonneg hm0 (show (0 : Int) ≤ 2 ^ (32 - k) by omega)
  generalize x / 2 ^ k = A at *
  generalize x % 2 ^ k = M at *
  rw [Go.u32_or _ _ hd0 (by omega) hq (by omega), toNat_mul_pow M _ hm0, Nat.or_comm, ← Nat.two_pow_add_eq_or_of_lt]
  · push_cast
    rw [Int.toNat_of_nonneg hm0, Int.toNat_of_nonneg hd0, Int.mul_comm, Int.add_comm]
  · have : ((A.toNat : Nat) : Int) < ((2 ^ (32 - k) : Nat) : Int) := by
      rw [Int.toNat_of_nonneg hd0]; push_cast; exact hd
    exact_mod_cast this

theorem rot_zero (x : Int) : rot x 0 = x := by simp [rot, Int.emod_one]

/-- One bit more. -/
theorem rot_succ (x : Int) (k : Nat) (hk : k < 32) : rot x k / 2 + rot x k % 2 * 2147483648 = rot x (k + 1) := by
  unfold rot
  have e1 : (2 : Int) ^ (32 - k) = 2 ^ (32 - (k + 1)) * 2 := by
    rw [show 32 - k = 32 - (k + 1) + 1 by omega, Int.pow_succ]
  have e2 : (2147483648 : Int) = 2 ^ k * 2 ^ (32 - (k + 1)) := by
    rw [← Int.pow_add, show k + (32 - (k + 1)) = 31 by omega]; decide
  have e3 : x / 2 ^ (k + 1) = x / 2 ^ k / 2 := by
    rw [Int.pow_succ, Int.ediv_ediv_of_nonneg (Int.le_of_lt (pow_pos2 k))]
  have e4 : x % 2 ^ (k + 1) = x % 2 ^ k + 2 ^ k * (x / 2 ^ k % 2) := by
    rw [Int.pow_succ]
    have p := pow_pos2 k
    have a1 := Int.mul_ediv_add_emod x (2 ^ k * 2)
    have a2 := Int.mul_ediv_add_emod x (2 ^ k)
    have a3 := Int.mul_ediv_add_emod (x / 2 ^ k) 2
    rw [Int.ediv_ediv_of_nonneg (Int.le_of_lt p)] at a3
    generalize x / (2 ^ k * 2) = Q at *
    generalize x / 2 ^ k = A at *
    rw [← a3, Int.mul_add, ← Int.mul_assoc] at a2
    omega
  rw [e1, e3, e4, e2]
  generalize x / 2 ^ k = A
  generalize x % 2 ^ k = M
  generalize (2 : Int) ^ (32 - (k + 1)) = T
  generalize (2 : Int) ^ k = U
  rw [← Int.mul_assoc, Int.add_mul M, show (A + M * T * 2) / 2 = A / 2 + M * T by omega, show (A + M * T * 2) % 2 = A % 2 by omega,
    show A % 2 * (U * T) = U * (A % 2) * T by rw [← Int.mul_assoc, Int.mul_comm (A % 2) U]]
  omega

theorem rot_32 (x : Int) (h0 : 0 ≤ x) (h1 : x < 4294967296) : rot x 32 = x := by
  unfold rot
  rw [show (2 : Int) ^ 32 = 4294967296 by decide, Int.ediv_eq_zero_of_lt h0 h1, Int.emod_eq_of_lt h0 h1]
  simp

theorem rot_add (x : Int) (a b : Nat) (h : a + b ≤ 32) : rot (rot x a) b = rot x (a + b) := by
  induction b with
  | zero => rw [rot_zero]; rfl
  | succ b ih => rw [← rot_succ _ b (by omega), ih (by omega), rot_succ _ _ (by omega)]; rfl

theorem rotate_bounds (x n : Int) (h0 : 0 ≤ x) (h1 : x < 4294967296) : 0 ≤ rotate x n ∧ rotate x n < 4294967296 :=
  rot_bounds x _ h0 h1 (by omega)

/-- Turned, and turned back. -/
theorem rotate_back (x n : Int) (h0 : 0 ≤ x) (h1 : x < 4294967296) : rotate (rotate x n) (0 - n) = x := by
  unfold rotate
  by_cases hz : n % 32 = 0
  · rw [show (n % 32).toNat = 0 by omega, show ((0 - n) % 32).toNat = 0 by omega, rot_zero, rot_zero]
  · rw [rot_add x _ _ (by omega), show (n % 32).toNat + ((0 - n) % 32).toNat = 32 by omega, rot_32 x h0 h1]

/-- A turned word is both shifts of it. -/
theorem rotate_shifts (x k : Int) (hk : 1 ≤ k) (hk2 : k ≤ 31) : rotate x k = right x k + left x (32 - k) := by
  unfold rotate right left
  rw [if_neg (by omega), if_neg (by omega), if_neg (by omega), if_neg (by omega), show (k % 32).toNat = k.toNat by omega, show (32 - k).toNat = 32 - k.toNat by omega,
    shl_split x _ (by omega)]
  rfl

theorem left_bounds (x n : Int) (h0 : 0 ≤ x) (h1 : x < 4294967296) : 0 ≤ left x n ∧ left x n < 4294967296 := by
  unfold left; split
  · exact ⟨h0, h1⟩
  · split <;> omega
theorem right_bounds (x n : Int) (h0 : 0 ≤ x) (h1 : x < 4294967296) : 0 ≤ right x n ∧ right x n < 4294967296 := by
  unfold right; split
  · exact ⟨h0, h1⟩
  · split
    · omega
    · exact ⟨Int.ediv_nonneg h0 (Int.le_of_lt (pow_pos2 _)), Int.lt_of_le_of_lt (Int.ediv_le_self _ h0) h1⟩

theorem left_succ (x : Int) (k : Nat) (hk : k ≤ 30) : 2 * left x k % 4294967296 = left x (k + 1 : Nat) := by
  unfold left
  rw [if_neg (show ¬ ((k + 1 : Nat) : Int) < 1 by omega), if_neg (show ¬ 31 < ((k + 1 : Nat) : Int) by omega), Int.toNat_natCast, Int.toNat_natCast]
  by_cases hz : k = 0
  · subst hz; simp; omega
  · rw [if_neg (by omega), if_neg (by omega), Int.pow_succ, ← Int.mul_assoc]
    generalize x * 2 ^ k = y
    omega
theorem right_succ (x : Int) (k : Nat) (hk : k ≤ 30) : right x k / 2 = right x (k + 1 : Nat) := by
  unfold right
  rw [if_neg (show ¬ ((k + 1 : Nat) : Int) < 1 by omega), if_neg (show ¬ 31 < ((k + 1 : Nat) : Int) by omega), Int.toNat_natCast, Int.toNat_natCast]
  by_cases hz : k = 0
  · subst hz; simp
  · rw [if_neg (by omega), if_neg (by omega), Int.pow_succ, Int.ediv_ediv_of_nonneg (Int.le_of_lt (pow_pos2 k))]

theorem or_add_nat (a b k : Nat) (h : b < 2 ^ k) : a * 2 ^ k ||| b = a * 2 ^ k + b := by
  rw [Nat.mul_comm, Nat.two_pow_add_eq_or_of_lt h]
/-- Bits that stand apart: joined, they are the sum. -/
theorem u32_or_add (a b : Int) (k : Nat) (h0 : 0 ≤ a) (hb0 : 0 ≤ b) (hb : b < 2 ^ k) (h : a * 2 ^ k + b < 4294967296) : Go.bits .or .u32 (a * 2 ^ k) b = a * 2 ^ k + b := by
  obtain ⟨A, rfl⟩ := Int.eq_ofNat_of_zero_le h0
  obtain ⟨B, rfl⟩ := Int.eq_ofNat_of_zero_le hb0
  have e : (A : Int) * 2 ^ k = ((A * 2 ^ k : Nat) : Int) := by push_cast; rfl
  have hB : B < 2 ^ k := by exact_mod_cast hb
  rw [e] at h ⊢
  rw [Go.u32_or_nat _ _ (by omega) (by omega), or_add_nat _ _ _ hB]
  push_cast; rfl
theorem u64_or_add (a b : Int) (k : Nat) (h0 : 0 ≤ a) (hb0 : 0 ≤ b) (hb : b < 2 ^ k) (h : a * 2 ^ k + b < 18446744073709551616) : Go.bits .or .u64 (a * 2 ^ k) b = a * 2 ^ k + b := by
  obtain ⟨A, rfl⟩ := Int.eq_ofNat_of_zero_le h0
  obtain ⟨B, rfl⟩ := Int.eq_ofNat_of_zero_le hb0
  have e : (A : Int) * 2 ^ k = ((A * 2 ^ k : Nat) : Int) := by push_cast; rfl
  have hB : B < 2 ^ k := by exact_mod_cast hb
  rw [e] at h ⊢
  rw [Go.u64_or_nat _ _ (by omega) (by omega), or_add_nat _ _ _ hB]
  push_cast; rfl
theorem get4_or (a b c d : Int) (a0 : 0 ≤ a) (a1 : a < 256) (b0 : 0 ≤ b) (b1 : b < 256) (c0 : 0 ≤ c) (c1 : c < 256) (d0 : 0 ≤ d) (d1 : d < 256) :
    Go.bits .or .u32 (Go.bits .or .u32 (Go.bits .or .u32 (a * 16777216) (b * 65536)) (c * 256)) d = get4 a b c d := by
  unfold get4
  have e1 := u32_or_add a (b * 65536) 24 a0 (by omega) (by omega) (by omega)
  rw [show (2 : Int) ^ 24 = 16777216 by decide] at e1
  rw [e1]
  have e2 := u32_or_add (a * 256 + b) (c * 256) 16 (by omega) (by omega) (by omega) (by omega)
  rw [show (2 : Int) ^ 16 = 65536 by decide, show (a * 256 + b) * 65536 = a * 16777216 + b * 65536 by omega] at e2
  rw [e2]
  have e3 := u32_or_add ((a * 256 + b) * 256 + c) d 8 (by omega) (by omega) (by omega) (by omega)
  rw [show (2 : Int) ^ 8 = 256 by decide, show ((a * 256 + b) * 256 + c) * 256 = a * 16777216 + b * 65536 + c * 256 by omega] at e3
  rw [e3]; omega
/-- One byte more. -/
theorem get_step (x c : Int) (h0 : 0 ≤ x) (h1 : x < 72057594037927936) (c0 : 0 ≤ c) (c1 : c < 256) : Go.bits .or .u64 (x * 256) c = x * 256 + c := by
  have e := u64_or_add x c 8 h0 c0 (by omega) (by omega)
  rw [show (2 : Int) ^ 8 = 256 by decide] at e
  exact e

theorem and31 (n : Int) : Go.bits .and .u64 (Go.IntKind.u64.wrap n) 31 = n % 32 := by
  rw [Go.IntKind.wrap_u64, Go.u64_and _ _ (by omega) (by omega) (by omega) (by omega), show (31 : Int).toNat = 2 ^ 5 - 1 by decide, Nat.and_two_pow_sub_one_eq_mod]
  omega

end Go.Proofs.YtmeefnhmkffdlaaDoor.Wd
/-
  Arrays of integers by value: an element of one, its reading as an argument, and that reading given back behind a call.
  Conditions: the element's type is an integer type of one cell.
-/
set_option maxRecDepth 100000
namespace Go.Proofs.YtmeefnhmkffdlaaDoor
open Go.ChangeShapes Go.WideShapes Go.ChangeAt Go.RowKit

theorem run_index_arr {P : Program} {t e : TypeId} {n : Nat} {q : IntKind} {f : TypeInfo} (h : P.underlying t = some (.array n e)) (he : P.underlying e = some (.int q)) (hi : P.info? e = some f) (hs : f.size = 1)
    (cs : Array Value) (k : IntKind) (i : Int) (v : Value) (i0 : 0 ≤ i) (i1 : i < n) (hv : cs[i.toNat]? = some v) (w : World) : (Instr.index t (.agg cs) (.int k i)).run P w = .ok v w := by
  simp [Instr.index, run_underlying h, asIntOf, i0, i1, part, isAgg, run_underlying he, sizeOf, typeInfo, hi, hs, hv, go_sem]

theorem run_eqItems_ints {P : Program} {e : TypeId} {q : IntKind} {f : TypeInfo} (d : Nat) (he : P.underlying e = some (.int q)) (hi : P.info? e = some f) (hs : f.size = 1) (w : World) (zs ys : List Int) :
    ∀ is : List Nat, (∀ i ∈ is, i < zs.length ∧ i < ys.length) → (Op.eqItems (d + 1) e 1 (zs.map (Value.int q)).toArray (ys.map (Value.int q)).toArray is).run P w = .ok (is.all fun i => zs.getD i 0 == ys.getD i 0) w
  | [], _ => by simp [Op.eqItems]
  | i :: is, h => by
    obtain ⟨h1, h2⟩ := h i (by simp)
    have ih := run_eqItems_ints d he hi hs w zs ys is fun j hj => h j (by simp [hj])
    have p1 : (part e (zs.map (Value.int q)).toArray (i * 1)).run P w = .ok (.int q (zs.getD i 0)) w := by
      simp [part, isAgg, run_underlying he, h1, go_sem]
    have p2 : (part e (ys.map (Value.int q)).toArray (i * 1)).run P w = .ok (.int q (ys.getD i 0)) w := by
      simp [part, isAgg, run_underlying he, h2, go_sem]
    simp only [Op.eqItems, Sem.run_bind, p1, p2, Result.andThen_ok, run_equalIn_int w d e q q _ _ he]
    by_cases hz : zs.getD i 0 = ys.getD i 0
    · rw [beq_iff_eq.2 hz]
      simp only [Bool.not_true, Bool.false_eq_true, if_false, List.all_cons, beq_iff_eq.2 hz, Bool.true_and]
      exact ih
    · rw [beq_eq_false_iff_ne.2 hz]
      simp only [Bool.not_false, if_true, List.all_cons, beq_eq_false_iff_ne.2 hz, Bool.false_and, Sem.run_pure]

/-- Two arrays of integers are compared number by number. -/
theorem run_equal_ints {P : Program} {t e : TypeId} {n : Nat} {q : IntKind} {f : TypeInfo} (h : P.underlying t = some (.array n e)) (he : P.underlying e = some (.int q)) (hi : P.info? e = some f) (hs : f.size = 1) (hc : P.cellsOf e = 1)
    (zs ys : List Int) (hz : zs.length = n) (hy : ys.length = n) (w : World) :
    (Op.equalIn 10000 t (.agg (zs.map (Value.int q)).toArray) (.agg (ys.map (Value.int q)).toArray)).run P w = .ok (decide (zs = ys)) w := by
  rw [run_equalIn_array w 9999 _ _ h hi, hc, run_eqItems_ints 9998 he hi hs w zs ys _ (fun i hi' => by simp at hi'; omega)]
  congr 1
  rw [Bool.eq_iff_iff, List.all_eq_true, decide_eq_true_iff]
  constructor
  · intro ha
    apply List.ext_getElem?
    intro i
    by_cases hi' : i < n
    · have := ha i (by simpa using hi')
      simp only [beq_iff_eq] at this
      rw [List.getElem?_eq_getElem (by omega), List.getElem?_eq_getElem (by omega)]
      simpa [List.getD, List.getElem?_eq_getElem (show i < zs.length by omega), List.getElem?_eq_getElem (show i < ys.length by omega)] using this
    · rw [List.getElem?_eq_none (by omega), List.getElem?_eq_none (by omega)]
  · rintro rfl i _
    simp

theorem list_of {α : Type} (n : Nat) {Q : Nat → α → Prop} (h : ∀ i, i < n → ∃ z, Q i z) : ∃ zs : List α, zs.length = n ∧ ∀ i, i < n → ∃ z, zs[i]? = some z ∧ Q i z := by
  induction n with
  | zero => exact ⟨[], rfl, fun i hi => by omega⟩
  | succ n ih =>
    obtain ⟨zs, hl, hz⟩ := ih fun i hi => h i (by omega)
    obtain ⟨z, hq⟩ := h n (by omega)
    refine ⟨zs ++ [z], by simp [hl], fun i hi => ?_⟩
    by_cases hi' : i < n
    · obtain ⟨y, e, hy⟩ := hz i hi'
      exact ⟨y, by rw [List.getElem?_append_left (by omega), e], hy⟩
    · obtain rfl : i = n := by omega
      exact ⟨z, by rw [List.getElem?_append_right (by omega)]; simp [hl], hq⟩

section
variable {H : Type} {enc : TypeId × Value → H} {P : Program} {w w' : World} {base : Nat} {spare : Nat → Bool} {held : Bool}

/-- The argument, opened: its numbers. -/
theorem open_arr_ints {r : Reach} {b0 n : Nat} {t e : TypeId} {q : IntKind} {v : Value} {d : DataW H} {p : List MemPlace} (ht : P.underlying t = some (.array n e)) (he : P.underlying e = some (.int q)) (hc : P.cellsOf e = 1) (hC : P.cellsOf t = n)
    (hv : Value.okWide P w r b0 t v) (h : DataW.Trod enc P w base spare held t v d p) :
    ∃ zs : List Int, zs.length = n ∧ v = .agg (zs.map (Value.int q)).toArray ∧ d = .agg (zs.map fun z => .lit (.int q z)) ∧ p = [] ∧ ∀ z ∈ zs, (Lit.int q z).wf = true := by
  have hv' : ∃ cs : Array Value, v = .agg cs := by
    simp only [Value.okWide, ht] at hv
    obtain ⟨cs, h1, _⟩ := hv
    exact ⟨cs, h1⟩
  obtain ⟨cs, rfl⟩ := hv'
  obtain ⟨fuel, hf⟩ := h
  obtain ⟨xs, m, _, hx, hl, hxl, hat⟩ := DataW.trod_array ht hf
  rw [hC] at hl
  rw [hc] at hat
  have hl' : cs.size = n := by simpa [Value.cells] using hl
  have hz : ∀ i (hi : i < n), ∃ z : Int, cs[i]? = some (.int q z) ∧ xs[i]? = some (.lit (.int q z), []) ∧ (Lit.int q z).wf = true := by
    intro i hi
    have h1 := hat i hi
    have e1 : List.take 1 (List.drop (i * 1) (Value.cells (.agg cs)).toList) = [cs[i]'(by omega)] := by
      simp only [Value.cells, Nat.mul_one]
      rw [List.drop_eq_getElem_cons (by simpa using (show i < cs.size by omega))]
      simp
    rw [e1] at h1
    have hxi : xs[i]? = some (xs[i]'(by omega)) := List.getElem?_eq_getElem (by omega)
    rw [hxi] at h1
    obtain ⟨a, ea, ex, wa⟩ := DataW.trod_int he h1
    refine ⟨a, ?_, ?_, wa⟩
    · rw [Array.getElem?_eq_getElem (by omega)]
      simpa using ea
    · rw [hxi, ex]
  obtain ⟨zs, hzl, hzs⟩ := list_of n hz
  have hcs : cs = (zs.map (Value.int q)).toArray := by
    apply Array.ext_getElem?
    intro i
    by_cases hi : i < n
    · obtain ⟨z, e1, e2, _⟩ := hzs i hi
      rw [e2, List.getElem?_toArray, List.getElem?_map, e1]
      rfl
    · rw [Array.getElem?_eq_none (by omega), Array.getElem?_eq_none (by simp; omega)]
  have hxs : xs = zs.map fun z => (DataW.lit (.int q z), []) := by
    apply List.ext_getElem?
    intro i
    by_cases hi : i < n
    · obtain ⟨z, e1, _, e3, _⟩ := hzs i hi
      rw [e3, List.getElem?_map, e1]
      rfl
    · rw [List.getElem?_eq_none (by omega), List.getElem?_eq_none (by simp; omega)]
  refine ⟨zs, hzl, by rw [hcs], ?_, ?_, ?_⟩
  · have := congrArg Prod.fst hx
    simp only at this
    rw [this, hxs]
    simp [Function.comp_def]
  · have := congrArg Prod.snd hx
    simp only at this
    rw [this, hxs]
    simp [List.flatMap_map]
  · intro z hz'
    obtain ⟨i, hi, e⟩ := List.mem_iff_getElem.1 hz'
    obtain ⟨z', e1, _, _, e4⟩ := hzs i (by omega)
    rw [List.getElem?_eq_getElem hi, e] at e1
    injection e1 with e1
    rw [e1]
    exact e4

/-- The argument, shut again, in whatever world. -/
theorem shut_arr_ints {n : Nat} {t e : TypeId} {q : IntKind} (ht : P.underlying t = some (.array n e)) (he : P.underlying e = some (.int q)) (hc : P.cellsOf e = 1) (hC : P.cellsOf t = n)
    {zs : List Int} (hl : zs.length = n) (hw : ∀ z ∈ zs, (Lit.int q z).wf = true) : DataW.Trod enc P w base spare held t (.agg (zs.map (Value.int q)).toArray) (.agg (zs.map fun z => .lit (.int q z))) [] := by
  refine ⟨2, ?_⟩
  have key : (List.range n).mapM (fun i => DataW.trod enc P w base spare held 1 e (List.take 1 (List.drop (i * 1) (Value.cells (.agg (zs.map (Value.int q)).toArray)).toList))) = some ((List.range n).map fun i => (DataW.lit (.int q (zs.getD i 0)), ([] : List MemPlace))) := by
    refine mapM_range_of n fun i hi => ?_
    have hi' : i < zs.length := by rw [hl]; exact hi
    have e1 : List.take 1 (List.drop (i * 1) (Value.cells (.agg (zs.map (Value.int q)).toArray)).toList) = [.int q zs[i]] := by
      simp only [Value.cells, Nat.mul_one]
      rw [List.drop_eq_getElem_cons (by simpa using hi')]
      simp
    rw [e1]
    simp [DataW.trod, he, hw _ (List.getElem_mem hi'), hi']
  have hzs : (List.range n).map (fun i => zs.getD i 0) = zs := by
    apply List.ext_getElem?
    intro i
    by_cases hi : i < n
    · simp [hi, hl]
    · rw [List.getElem?_eq_none (by simp; omega), List.getElem?_eq_none (by omega)]
  unfold DataW.trod
  rw [ht]
  simp only [hc, hC]
  rw [if_pos (by simp [Value.cells, hl]), key]
  simp only [Option.map_some, List.map_map, Function.comp_def, Option.some.injEq, Prod.mk.injEq, DataW.agg.injEq]
  refine ⟨?_, by simp [List.flatMap_map]⟩
  have := congrArg (List.map fun z => DataW.lit (H := H) (.int q z)) hzs
  rw [List.map_map] at this
  exact this
end
end Go.Proofs.YtmeefnhmkffdlaaDoor
/-
  What each function of package word returns, and what it leaves of memory, for all arguments that its types let in.
  Conditions: the arguments lie in their types' ranges.
-/
set_option maxRecDepth 100000
namespace Go.Proofs.YtmeefnhmkffdlaaDoor
open Go.ChangeShapes Go.WideShapes Go.ChangeAt Go.RowKit
set_option linter.unusedVariables false

theorem ret_int {k : IntKind} {a b : Int} (h : a = b) : Ending.returned (.int k a) = .returned (.int k b) := by rw [h]


theorem right_c (x n : Int) (h0 : 0 ≤ x) (h1 : x < 4294967296) (n0 : -9223372036854775808 ≤ n) (n1 : n ≤ 9223372036854775807) (w : World) :
    Calls Tryd.prog 80 #[.int .u32 x, .int .i64 n] w fun e w' => e = .returned (.int .u32 (Wd.right x n)) ∧ w = w' := by
  by_cases h : n < 1
  · have H := Lib.hid (Wd.right_low x n h)
    go_enter Tryd.func80, Tryd.ntmps80
    go_wp2
    go_ret
    exact ⟨ret_int H.out.symm, rfl⟩
  · have g : 0 ≤ n := by omega
    have H := Lib.hid (Wd.right_model x n h0 h1 (by omega))
    go_enter Tryd.func80, Tryd.ntmps80
    go_wp2
    go_ret
    exact ⟨ret_int H.out, rfl⟩

theorem rotate_c (x n : Int) (h0 : 0 ≤ x) (h1 : x < 4294967296) (n0 : -9223372036854775808 ≤ n) (n1 : n ≤ 9223372036854775807) (w : World) :
    Calls Tryd.prog 79 #[.int .u32 x, .int .i64 n] w fun e w' => e = .returned (.int .u32 (Wd.rotate x n)) ∧ w = w' := by
  have a := Wd.and31 n
  obtain ⟨k, hk⟩ : ∃ k : Int, n % 32 = k := ⟨_, rfl⟩
  rw [hk] at a
  have k0 : 0 ≤ k := by omega
  have k1 : k ≤ 31 := by omega
  have k2 : 0 ≤ 32 - k := by omega
  have H : Wd.rotate x n = bits .or .u32 (x / 2 ^ k.toNat) (x * 2 ^ (32 - k).toNat % 4294967296) := by
    unfold Wd.rotate
    rw [hk, show (32 - k).toNat = 32 - k.toNat by omega, Wd.rot_or x _ h0 h1 (by omega)]
  have H1 := Lib.hid H
  clear H hk
  go_enter Tryd.func79, Tryd.ntmps79
  go_wp2
  go_ret
  exact ⟨ret_int H1.out.symm, rfl⟩

def put4 (x : Int) : Array Value := #[.int .u8 (x / 16777216), .int .u8 (x / 65536 % 256), .int .u8 (x / 256 % 256), .int .u8 (x % 256)]
def put8 (x : Int) : Array Value := #[.int .u8 (x / 256 / 256 / 256 / 256 / 256 / 256 / 256), .int .u8 (x / 256 / 256 / 256 / 256 / 256 / 256 % 256), .int .u8 (x / 256 / 256 / 256 / 256 / 256 % 256),
  .int .u8 (x / 256 / 256 / 256 / 256 % 256), .int .u8 (x / 256 / 256 / 256 % 256), .int .u8 (x / 256 / 256 % 256), .int .u8 (x / 256 % 256), .int .u8 (x % 256)]
def get8 (a b c d a' b' c' d' : Int) : Int := ((((((a * 256 + b) * 256 + c) * 256 + d) * 256 + a') * 256 + b') * 256 + c') * 256 + d'

theorem put32_c (x : Int) (h0 : 0 ≤ x) (h1 : x < 4294967296) (w : World) :
    Calls Tryd.prog 63 #[.int .u32 x] w fun e w' => e = .returned (.agg (put4 x)) ∧ Below w.heap.size w w' ∧ Grown w w' := by
  go_enter Tryd.func63, Tryd.ntmps63
  go_wp2
  refine bodyPost_ret (v := .agg (put4 x)) (by simp [results, Tryd.results63, go_sem, put4]) rfl ⟨rfl, ?_, ?_⟩
  · go_grown
  · go_grown

theorem put64_c (x : Int) (h0 : 0 ≤ x) (h1 : x < 18446744073709551616) (w : World) :
    Calls Tryd.prog 38 #[.int .u64 x] w fun e w' => e = .returned (.agg (put8 x)) ∧ Below w.heap.size w w' ∧ Grown w w' := by
  go_enter Tryd.func38, Tryd.ntmps38
  go_wp2
  go_rounds 9
  refine bodyPost_ret (v := .agg (put8 x)) (by simp [results, Tryd.results38, go_sem, put8]) rfl ⟨rfl, ?_, ?_⟩
  · go_grown
  · go_grown

theorem get32_c (a b c d : Int) (a0 : 0 ≤ a) (a1 : a < 256) (b0 : 0 ≤ b) (b1 : b < 256) (c0 : 0 ≤ c) (c1 : c < 256) (d0 : 0 ≤ d) (d1 : d < 256) (w : World) :
    Calls Tryd.prog 74 #[.agg #[.int .u8 a, .int .u8 b, .int .u8 c, .int .u8 d]] w fun e w' => e = .returned (.int .u32 (Wd.get4 a b c d)) ∧ Below w.heap.size w w' ∧ Grown w w' := by
  have H := Lib.hid (Wd.get4_or a b c d a0 a1 b0 b1 c0 c1 d0 d1)
  go_enter Tryd.func74, Tryd.ntmps74
  go_wp2
  go_ret
  refine ⟨ret_int H.out, ?_, ?_⟩
  · go_grown
  · go_grown


theorem bits_c (X : Nat) (h1 : X < 18446744073709551616) (w : World) :
    Calls Tryd.prog 21 #[.int .u64 X] w fun e w' => e = .returned (.int .i64 (Wd.bitsL X : Nat)) ∧ w = w' := by
  have hb := Wd.bitsL_le X h1
  obtain ⟨B, hB⟩ : ∃ B, Wd.bitsL X = B := ⟨_, rfl⟩
  have HB := Lib.hid hB
  rw [hB] at hb ⊢
  clear hB
  go_enter Tryd.func21, Tryd.ntmps21
  go_wp2
  go_loop [0, 3] (fun x n => ∃ y k : Nat, y < 18446744073709551616 ∧ k ≤ 64 ∧ Hid (Wd.bitsL y + k = B) ∧ x = .int .u64 y ∧ n = .int .i64 k) (fun x _ => (intOf x).toNat)
  case atStart => exact ⟨X, 0, h1, by omega, HB, rfl, rfl⟩
  case round =>
    obtain ⟨y, k, hy, hk, HR, rfl, rfl⟩ := hrel
    by_cases hz : y = 0
    · subst hz
      go_wp2
      go_ret
      refine ⟨ret_int ?_, rfl⟩
      have := HR.out
      rw [Wd.bitsL_zero] at this
      omega
    · have h0 : ((y : Int) != 0) = true := by rw [bne_iff_ne]; omega
      have hle : Wd.bitsL y + k ≤ 64 := by rw [HR.out]; exact hb
      have hs := Wd.bitsL_step y (by omega)
      have hk1 : k ≤ 63 := by omega
      have hy0 : 0 < y := by omega
      have HS := Lib.hid hs
      clear hs hle hz
      go_wp2
      go_round
      case rel => exact ⟨y / 2, k + 1, by omega, by omega, by have := HR.out; rw [HS.out] at this; show _ = _; omega, by go_num, by go_num⟩
      case measure => simp [intOf]; omega

theorem bits_i (x : Int) (h0 : 0 ≤ x) (h1 : x < 18446744073709551616) (w : World) :
    Calls Tryd.prog 21 #[.int .u64 x] w fun e w' => e = .returned (.int .i64 (Wd.bitsL x.toNat : Nat)) ∧ w = w' := by
  obtain ⟨X, rfl⟩ := Int.eq_ofNat_of_zero_le h0
  rw [Int.toNat_natCast]
  exact bits_c X (by omega) w

end Go.Proofs.YtmeefnhmkffdlaaDoor
/-
  What each function of the document's answers for layer 1 returns, and what it leaves of memory.
  Conditions: the arguments lie in their types' ranges.
-/
set_option maxRecDepth 100000
namespace Go.Proofs.YtmeefnhmkffdlaaDoor
open Go.ChangeShapes Go.WideShapes Go.ChangeAt Go.RowKit
set_option linter.unusedVariables false

theorem rleft_c (x n : Int) (h0 : 0 ≤ x) (h1 : x < 4294967296) (n0 : -9223372036854775808 ≤ n) (n1 : n ≤ 9223372036854775807) (w : World) :
    Calls Tryd.prog 24 #[.int .u32 x, .int .i64 n] w fun e w' => e = .returned (.int .u32 (Wd.left x n)) ∧ w = w' := by
  by_cases hh : 31 < n
  · have H := Lib.hid (Wd.left_high x n hh)
    go_enter Tryd.func24, Tryd.ntmps24
    go_wp2
    go_ret
    exact ⟨ret_int H.out.symm, rfl⟩
  · by_cases hl : n < 1
    · have H := Lib.hid (Wd.left_low x n hl)
      go_enter Tryd.func24, Tryd.ntmps24
      go_wp2
      go_rounds 1
      go_ret
      exact ⟨ret_int H.out.symm, rfl⟩
    · obtain ⟨m, rfl⟩ := Int.eq_ofNat_of_zero_le (show 0 ≤ n by omega)
      have m1 : m ≤ 31 := by omega
      clear hh hl
      go_enter Tryd.func24, Tryd.ntmps24
      go_wp2
      go_loop [0, 5] (fun v i => ∃ (k : Nat) (y : Int), k ≤ m ∧ 0 ≤ y ∧ y < 4294967296 ∧ Hid (y = Wd.left x k) ∧ i = .int .i64 k ∧ v = .int .u32 y) (fun _ i => m - (intOf i).toNat)
      case atStart => exact ⟨0, x, by omega, h0, h1, by show _ = _; rw [Wd.left_low x _ (by omega)], rfl, rfl⟩
      case round =>
        obtain ⟨k, y, hk, y0, y1, HY, rfl, rfl⟩ := hrel
        by_cases hlt : k < m
        · have b := Wd.left_bounds x (k + 1 : Nat) h0 h1
          have hs := Wd.left_succ x k (by omega)
          rw [← HY.out] at hs
          have HS := Lib.hid hs
          clear b hs
          go_wp2
          go_round
          case rel => exact ⟨k + 1, _, by omega, by omega, by omega, by show _ = _; rw [← HS.out], by go_num, rfl⟩
          case measure => simp [intOf]; omega
        · go_wp2
          go_ret
          obtain rfl : k = m := by omega
          exact ⟨ret_int HY.out, rfl⟩

theorem rright_c (x n : Int) (h0 : 0 ≤ x) (h1 : x < 4294967296) (n0 : -9223372036854775808 ≤ n) (n1 : n ≤ 9223372036854775807) (w : World) :
    Calls Tryd.prog 23 #[.int .u32 x, .int .i64 n] w fun e w' => e = .returned (.int .u32 (Wd.right x n)) ∧ w = w' := by
  by_cases hh : 31 < n
  · have H := Lib.hid (Wd.right_high x n hh)
    go_enter Tryd.func23, Tryd.ntmps23
    go_wp2
    go_ret
    exact ⟨ret_int H.out.symm, rfl⟩
  · by_cases hl : n < 1
    · have H := Lib.hid (Wd.right_low x n hl)
      go_enter Tryd.func23, Tryd.ntmps23
      go_wp2
      go_rounds 1
      go_ret
      exact ⟨ret_int H.out.symm, rfl⟩
    · obtain ⟨m, rfl⟩ := Int.eq_ofNat_of_zero_le (show 0 ≤ n by omega)
      have m1 : m ≤ 31 := by omega
      clear hh hl
      go_enter Tryd.func23, Tryd.ntmps23
      go_wp2
      go_loop [0, 5] (fun v i => ∃ (k : Nat) (y : Int), k ≤ m ∧ 0 ≤ y ∧ y < 4294967296 ∧ Hid (y = Wd.right x k) ∧ i = .int .i64 k ∧ v = .int .u32 y) (fun _ i => m - (intOf i).toNat)
      case atStart => exact ⟨0, x, by omega, h0, h1, by show _ = _; rw [Wd.right_low x _ (by omega)], rfl, rfl⟩
      case round =>
        obtain ⟨k, y, hk, y0, y1, HY, rfl, rfl⟩ := hrel
        by_cases hlt : k < m
        · have hs := Wd.right_succ x k (by omega)
          rw [← HY.out] at hs
          have HS := Lib.hid hs
          clear hs
          go_wp2
          go_round
          case rel => exact ⟨k + 1, _, by omega, by omega, by omega, by show _ = _; rw [← HS.out], by go_num, rfl⟩
          case measure => simp [intOf]; omega
        · go_wp2
          go_ret
          obtain rfl : k = m := by omega
          exact ⟨ret_int HY.out, rfl⟩

theorem rrotate_c (x n : Int) (h0 : 0 ≤ x) (h1 : x < 4294967296) (n0 : -9223372036854775808 ≤ n) (n1 : n ≤ 9223372036854775807) (w : World) :
    Calls Tryd.prog 73 #[.int .u32 x, .int .i64 n] w fun e w' => e = .returned (.int .u32 (Wd.rotate x n)) ∧ w = w' := by
  obtain ⟨m, hm⟩ : ∃ m : Nat, (n % 32).toNat = m := ⟨_, rfl⟩
  have m1 : m < 32 := by omega
  have hr : Wd.rotate x n = Wd.rot x m := by unfold Wd.rotate; rw [hm]
  have HR := Lib.hid hr
  clear hr
  obtain ⟨t, ht⟩ : ∃ t : Int, n.tmod 32 = t := ⟨_, rfl⟩
  by_cases hneg : t < 0
  all_goals
    first
    | (have e : t + 32 = m := by
        have h2 := Int.tmod_eq_emod (a := n) (b := 32)
        rw [ht] at h2
        split at h2 <;> omega)
    | (have e : t = m := by
        have h2 := Int.tmod_eq_emod (a := n) (b := 32)
        rw [ht] at h2
        split at h2 <;> omega)
    clear hm
    go_enter Tryd.func73, Tryd.ntmps73
    go_wp2
    clear e ht
    go_loop [0, 5] (fun v i => ∃ (k : Nat) (y : Int), k ≤ m ∧ 0 ≤ y ∧ y < 4294967296 ∧ Hid (y = Wd.rot x k) ∧ i = .int .i64 k ∧ v = .int .u32 y) (fun _ i => m - (intOf i).toNat)
    case atStart => exact ⟨0, x, by omega, h0, h1, by show _ = _; rw [Wd.rot_zero], rfl, rfl⟩
    case round =>
      obtain ⟨k, y, hk, y0, y1, HY, rfl, rfl⟩ := hrel
      by_cases hlt : k < m
      · have hs := Wd.rot_succ x k (by omega)
        have b := Wd.rot_bounds x (k + 1) h0 h1 (by omega)
        rw [← HY.out] at hs
        have HS := Lib.hid hs
        rw [← hs] at b
        clear hs
        go_wp2
        go_round
        case rel => exact ⟨k + 1, _, by omega, b.1, b.2, by show _ = _; rw [← HS.out], by go_num, rfl⟩
        case measure => simp [intOf]; omega
      · go_wp2
        go_ret
        obtain rfl : k = m := by omega
        exact ⟨ret_int (HY.out.trans HR.out.symm), rfl⟩

theorem rput32_c (x : Int) (h0 : 0 ≤ x) (h1 : x < 4294967296) (w : World) :
    Calls Tryd.prog 50 #[.int .u32 x] w fun e w' => e = .returned (.agg (put4 x)) ∧ Below w.heap.size w w' ∧ Grown w w' := by
  go_enter Tryd.func50, Tryd.ntmps50
  go_wp2
  refine bodyPost_ret (v := .agg (put4 x)) (by simp [results, Tryd.results50, go_sem, put4]) rfl ⟨rfl, ?_, ?_⟩
  · go_grown
  · go_grown

theorem rput64_c (x : Int) (h0 : 0 ≤ x) (h1 : x < 18446744073709551616) (w : World) :
    Calls Tryd.prog 36 #[.int .u64 x] w fun e w' => e = .returned (.agg (put8 x)) ∧ Below w.heap.size w w' ∧ Grown w w' := by
  have HT := Lib.hid (show x / 256 / 256 / 256 / 256 / 256 / 256 / 256 % 256 = x / 256 / 256 / 256 / 256 / 256 / 256 / 256 by omega)
  go_enter Tryd.func36, Tryd.ntmps36
  go_wp2
  go_rounds 9
  refine bodyPost_ret (v := .agg (put8 x)) (by simp [results, Tryd.results36, go_sem, put8, HT.out]) rfl ⟨rfl, ?_, ?_⟩
  · go_grown
  · go_grown

theorem rget32_c (a b c d : Int) (a0 : 0 ≤ a) (a1 : a < 256) (b0 : 0 ≤ b) (b1 : b < 256) (c0 : 0 ≤ c) (c1 : c < 256) (d0 : 0 ≤ d) (d1 : d < 256) (w : World) :
    Calls Tryd.prog 64 #[.agg #[.int .u8 a, .int .u8 b, .int .u8 c, .int .u8 d]] w fun e w' => e = .returned (.int .u32 (Wd.get4 a b c d)) ∧ Below w.heap.size w w' ∧ Grown w w' := by
  go_enter Tryd.func64, Tryd.ntmps64
  go_wp2
  go_rounds 5
  go_ret
  refine ⟨rfl, ?_, ?_⟩
  · go_grown
  · go_grown


theorem rbits_c (X : Nat) (h1 : X < 18446744073709551616) (w : World) :
    Calls Tryd.prog 22 #[.int .u64 X] w fun e w' => e = .returned (.int .i64 (Wd.bitsL X : Nat)) ∧ w = w' := by
  have hb := Wd.bitsL_le X h1
  obtain ⟨B, hB⟩ : ∃ B, Wd.bitsL X = B := ⟨_, rfl⟩
  have HB := Lib.hid hB
  rw [hB] at hb ⊢
  clear hB
  go_enter Tryd.func22, Tryd.ntmps22
  go_wp2
  go_loop [0, 3] (fun x n => ∃ y k : Nat, y < 18446744073709551616 ∧ k ≤ 64 ∧ Hid (Wd.bitsL y + k = B) ∧ x = .int .u64 y ∧ n = .int .i64 k) (fun x _ => (intOf x).toNat)
  case atStart => exact ⟨X, 0, h1, by omega, HB, rfl, rfl⟩
  case round =>
    obtain ⟨y, k, hy, hk, HR, rfl, rfl⟩ := hrel
    by_cases hz : y = 0
    · subst hz
      go_wp2
      go_ret
      refine ⟨ret_int ?_, rfl⟩
      have := HR.out
      rw [Wd.bitsL_zero] at this
      omega
    · have hy0 : 0 < y := by omega
      have hle : Wd.bitsL y + k ≤ 64 := by rw [HR.out]; exact hb
      have hs := Wd.bitsL_step y (by omega)
      have hk1 : k ≤ 63 := by omega
      have HS := Lib.hid hs
      clear hs hle hz
      go_wp2
      go_round
      case rel => exact ⟨y / 2, k + 1, by omega, by omega, by have := HR.out; rw [HS.out] at this; show _ = _; omega, by go_num, by go_num⟩
      case measure => simp [intOf]; omega

theorem rbits_i (x : Int) (h0 : 0 ≤ x) (h1 : x < 18446744073709551616) (w : World) :
    Calls Tryd.prog 22 #[.int .u64 x] w fun e w' => e = .returned (.int .i64 (Wd.bitsL x.toNat : Nat)) ∧ w = w' := by
  obtain ⟨X, rfl⟩ := Int.eq_ofNat_of_zero_le h0
  rw [Int.toNat_natCast]
  exact rbits_c X (by omega) w

end Go.Proofs.YtmeefnhmkffdlaaDoor
/-
  The plan of a block as a list of numbers: the two mixes, the words, what is read and what is written on the way; undone again.
  Conditions: those that each theorem names.
-/
set_option maxRecDepth 100000
namespace Go.Proofs.YtmeefnhmkffdlaaDoor
open Go.ChangeShapes Go.WideShapes Go.ChangeAt Go.RowKit

def mix1 (x : Int) : Int := bits .xor .u32 (bits .xor .u32 (Wd.rotate x 7) (Wd.rotate x 18)) (Wd.right x 3)
def mix2 (x : Int) : Int := bits .xor .u32 (bits .xor .u32 (Wd.rotate x 17) (Wd.rotate x 19)) (Wd.right x 10)
theorem bits_u32_in (op : BinOp) (a b : Int) : 0 ≤ bits op .u32 a b ∧ bits op .u32 a b < 4294967296 := by
  unfold bits
  rw [IntKind.wrap_u32]
  omega
theorem mix1_in (x : Int) : 0 ≤ mix1 x ∧ mix1 x < 4294967296 := bits_u32_in _ _ _
theorem mix2_in (x : Int) : 0 ≤ mix2 x ∧ mix2 x < 4294967296 := bits_u32_in _ _ _

def word4 (b : List Int) (i : Nat) : Int := Wd.get4 (b.getD (4 * i) 0) (b.getD (4 * i + 1) 0) (b.getD (4 * i + 2) 0) (b.getD (4 * i + 3) 0)
def nextW (l : List Int) (n : Nat) : Int := (mix2 (l.getD (n - 2) 0) + l.getD (n - 7) 0 + mix1 (l.getD (n - 15) 0) + l.getD (n - 16) 0) % 4294967296
/-- The first n words of a block's plan. -/
def planTo (b : List Int) : Nat → List Int
  | 0 => []
  | n + 1 => planTo b n ++ [if n < 16 then word4 b n else nextW (planTo b n) n]
def planL (b : List Int) : List Int := planTo b 64
theorem planTo_len (b : List Int) (n : Nat) : (planTo b n).length = n := by
  induction n with
  | zero => rfl
  | succ n ih => simp [planTo, ih]
/-- What lies in memory when n words are there. -/
def planF (b : List Int) (n : Nat) : List Int := planTo b n ++ List.replicate (64 - n) 0
theorem planF_len (b : List Int) (n : Nat) (hn : n ≤ 64) : (planF b n).length = 64 := by simp [planF, planTo_len]; omega
theorem planF_zero (b : List Int) : planF b 0 = List.replicate 64 0 := by simp [planF, planTo]
theorem planF_full (b : List Int) : planF b 64 = planL b := by simp [planF, planL]
theorem planF_set (b : List Int) (n : Nat) (hn : n < 64) (v : Int) (hv : v = if n < 16 then word4 b n else nextW (planTo b n) n) : (planF b n).set n v = planF b (n + 1) := by
  unfold planF
  rw [List.set_append_right _ _ (by rw [planTo_len]; exact Nat.le_refl _), planTo_len, Nat.sub_self, show 64 - n = (64 - (n + 1)) + 1 by omega, List.replicate_succ, List.set_cons_zero, planTo, ← hv, List.append_assoc]
  rfl
theorem planF_at (b : List Int) (n j : Nat) (hj : j < n) : (planF b n).getD j 0 = (planTo b n).getD j 0 := by
  unfold planF
  rw [List.getD_eq_getElem?_getD, List.getElem?_append_left (by rw [planTo_len]; exact hj), ← List.getD_eq_getElem?_getD]
theorem planTo_in (b : List Int) (hb : ∀ z ∈ b, 0 ≤ z ∧ z < 256) (n : Nat) : ∀ z ∈ planTo b n, 0 ≤ z ∧ z < 4294967296 := by
  have hg : ∀ j, 0 ≤ b.getD j 0 ∧ b.getD j 0 < 256 := by
    intro j
    rcases Nat.lt_or_ge j b.length with h | h
    · simp [h]; exact hb _ (List.getElem_mem h)
    · simp [h]
  induction n with
  | zero => intro z hz; cases hz
  | succ n ih =>
    intro z hz
    rw [planTo, List.mem_append, List.mem_singleton] at hz
    rcases hz with hz | hz
    · exact ih z hz
    · subst hz
      split
      · unfold word4 Wd.get4
        have h0 := hg (4 * n); have h1 := hg (4 * n + 1); have h2 := hg (4 * n + 2); have h3 := hg (4 * n + 3)
        omega
      · unfold nextW
        omega

/-! ### the block of sixteen words -/
def put4L (x : Int) : List Int := [x / 16777216, x / 65536 % 256, x / 256 % 256, x % 256]
/-- The bytes of the first i words. -/
def backTo (l : List Int) : Nat → List Int
  | 0 => []
  | i + 1 => backTo l i ++ put4L (l.getD i 0)
def backL (l : List Int) : List Int := backTo l 16
theorem backTo_len (l : List Int) (i : Nat) : (backTo l i).length = 4 * i := by
  induction i with
  | zero => rfl
  | succ i ih => rw [backTo, List.length_append, ih]; simp [put4L]; omega
/-- What lies in memory when i words and k bytes are there. -/
def backF (l : List Int) (i k : Nat) : List Int := backTo l i ++ ((put4L (l.getD i 0)).take k ++ List.replicate (64 - (4 * i + k)) 0)
theorem backF_len (l : List Int) (i k : Nat) (hk : k ≤ 4) (h : 4 * i + k ≤ 64) : (backF l i k).length = 64 := by
  simp [backF, backTo_len, put4L]; omega
theorem backF_zero (l : List Int) : backF l 0 0 = List.replicate 64 0 := by simp [backF, backTo]
theorem backF_next (l : List Int) (i : Nat) : backF l i 4 = backF l (i + 1) 0 := by
  unfold backF
  rw [backTo, List.take_of_length_le (by simp [put4L]), List.take_zero, List.nil_append, List.append_assoc]
  rfl
theorem backF_full (l : List Int) : backF l 16 0 = backL l := by simp [backF, backL]
theorem backF_set (l : List Int) (i k : Nat) (hk : k < 4) (h : i < 16) : (backF l i k).set (4 * i + k) ((put4L (l.getD i 0)).getD k 0) = backF l i (k + 1) := by
  have hp : (put4L (l.getD i 0)).length = 4 := rfl
  obtain ⟨p, hpe⟩ : ∃ p, put4L (l.getD i 0) = p := ⟨_, rfl⟩
  unfold backF
  rw [hpe] at hp ⊢
  rw [List.set_append_right _ _ (by rw [backTo_len]; omega), backTo_len, show 4 * i + k - 4 * i = k by omega, List.set_append_right _ _ (by rw [List.length_take]; omega),
    List.length_take, show k - min k p.length = 0 by omega, show 64 - (4 * i + k) = (64 - (4 * i + (k + 1))) + 1 by omega, List.replicate_succ, List.set_cons_zero,
    List.take_succ_eq_append_getElem (by omega), List.append_assoc (p.take k)]
  congr 2
  simp [show k < p.length by omega]
end Go.Proofs.YtmeefnhmkffdlaaDoor
/-
  What the document's answers for layer 3 return, and that they leave memory as it was.
  Conditions: the arguments lie in their types' ranges.
-/
set_option maxRecDepth 100000
namespace Go.Proofs.YtmeefnhmkffdlaaDoor
open Go.ChangeShapes Go.WideShapes Go.ChangeAt Go.RowKit
set_option linter.unusedVariables false

theorem info_u32c : (Tryd.prog.info? 45).map (fun i => (i.zero, i.size, i.bytes)) = some (some (.int .u32 0), 1, 4) := by kernel_rfl
theorem info_u8c : (Tryd.prog.info? 5).map (fun i => (i.zero, i.size, i.bytes)) = some (some (.int .u8 0), 1, 1) := by kernel_rfl
theorem rfirst_c (x : Int) (h0 : 0 ≤ x) (h1 : x < 4294967296) (w : World) :
    Calls Tryd.prog 66 #[.int .u32 x] w fun e w' => e = .returned (.int .u32 (mix1 x)) ∧ w = w' := by
  unfold mix1
  go_enter Tryd.func66, Tryd.ntmps66
  go_wp2_with (first
    | (go_at_call 73; (with_reducible refine (rrotate_c _ _ (by omega) (by omega) (by omega) (by omega) _).mono ?_); rintro e _ ⟨rfl, rfl⟩)
    | (go_at_call 23; (with_reducible refine (rright_c _ _ (by omega) (by omega) (by omega) (by omega) _).mono ?_); rintro e _ ⟨rfl, rfl⟩))
  go_ret
  exact ⟨rfl, rfl⟩
theorem rsecond_c (x : Int) (h0 : 0 ≤ x) (h1 : x < 4294967296) (w : World) :
    Calls Tryd.prog 65 #[.int .u32 x] w fun e w' => e = .returned (.int .u32 (mix2 x)) ∧ w = w' := by
  unfold mix2
  go_enter Tryd.func65, Tryd.ntmps65
  go_wp2_with (first
    | (go_at_call 73; (with_reducible refine (rrotate_c _ _ (by omega) (by omega) (by omega) (by omega) _).mono ?_); rintro e _ ⟨rfl, rfl⟩)
    | (go_at_call 23; (with_reducible refine (rright_c _ _ (by omega) (by omega) (by omega) (by omega) _).mono ?_); rintro e _ ⟨rfl, rfl⟩))
  go_ret
  exact ⟨rfl, rfl⟩
theorem zero_plan : ∀ W, (zeroValue 92).run Tryd.prog W = .ok (.agg (intsA .u32 (List.replicate 64 0))) W := (zero_of_info (n := 64) (by kernel_rfl)).1
theorem size_plan : (Tryd.prog.info? 92).map (·.size) = some 64 := by kernel_rfl

set_option maxHeartbeats 1000000 in
theorem rof_c (b : List Int) (hl : b.length = 64) (hb : ∀ z ∈ b, 0 ≤ z ∧ z < 256) (w : World) :
    Calls Tryd.prog 58 #[.agg (intsA .u8 b)] w fun e w' => e = .returned (.agg (intsA .u32 (planL b))) ∧ Below w.heap.size w w' := by
  go_enter Tryd.func58, Tryd.ntmps58
  go_wp2_with (first
    | (with_reducible refine at_any ?_; refine at_dst 1 rfl ?_; refine wpList_box_ints rfl 81 (.tmp 0) rfl .u8 b rfl ?_; intro w1 hk1 hs1 hb1)
    | (with_reducible refine at_any ?_; refine at_dst 2 rfl ?_; refine wpList_alloc_ints rfl 92 rfl .u32 (List.replicate 64 0) zero_plan ?_; intro w2 hk2 hs2 hb2)
    | (with_reducible refine at_any ?_; refine at_dst 3 rfl ?_; refine wpList_alloc_ints rfl 92 rfl .u32 (List.replicate 64 0) zero_plan ?_; intro w3 hk3 hs3 hb3))
  have HI : In3 w w.heap.size w1.heap.size w2.heap.size 81 92 92 .u8 .u32 .u32 b (List.replicate 64 0) (planF b 0) w3 := by
    rw [planF_zero]
    have q1 := hs1.out
    have q2 := hs2.out
    have q3 := hs3.out
    exact ⟨(hk1.out.below hb2 (by omega)).below hb3 (by omega), hk2.out.below hb3 (by omega), hk3.out, hb1.trans ((hb2.mono (by omega)).trans (hb3.mono (by omega))), by omega, by omega, by omega⟩
  obtain ⟨g1, hg1⟩ : ∃ g, w.heap.size = g := ⟨_, rfl⟩
  obtain ⟨g2, hg2⟩ : ∃ g, w1.heap.size = g := ⟨_, rfl⟩
  obtain ⟨g3, hg3⟩ : ∃ g, w2.heap.size = g := ⟨_, rfl⟩
  have HG2 := Lib.hid (show w.heap.size ≤ g2 by have := hb1.size; omega)
  rw [hg1, hg2, hg3] at HI
  rw [hg1, hg2, hg3]
  clear hk1 hs1 hb1 hk2 hs2 hb2 hk3 hs3 hb3
  go_loopw [4] (fun v wr => ∃ i : Nat, i ≤ 16 ∧ v = .int .i64 i ∧ In3 w g1 g2 g3 81 92 92 .u8 .u32 .u32 b (List.replicate 64 0) (planF b i) wr) (fun v _ => 16 - (intOf v).toNat)
  case atStart => exact ⟨0, by omega, rfl, HI⟩
  case round =>
    clear HI
    obtain ⟨i, hi, rfl, HI⟩ := hrel
    by_cases hlt : i < 16
    · have hpl := planF_len b i (by omega)
      have HW := HI.open_ (i := i) (by omega)
      have hset := fun v hv => planF_set b i (by omega) v hv
      obtain ⟨m, hm⟩ : ∃ m, 4 * i = m := ⟨_, rfl⟩
      obtain ⟨m1, hm1⟩ : ∃ m1, 4 * i + 1 = m1 := ⟨_, rfl⟩
      obtain ⟨m2, hm2⟩ : ∃ m2, 4 * i + 2 = m2 := ⟨_, rfl⟩
      obtain ⟨m3, hm3⟩ : ∃ m3, 4 * i + 3 = m3 := ⟨_, rfl⟩
      have c0 := HW.cell1 (j := m) (by omega)
      have c1 := HW.cell1 (j := m1) (by omega)
      have c2 := HW.cell1 (j := m2) (by omega)
      have c3 := HW.cell1 (j := m3) (by omega)
      have hg : ∀ j, j < 64 → 0 ≤ b.getD j 0 ∧ b.getD j 0 < 256 := by
        intro j hj
        have h : j < b.length := by omega
        simp [h]; exact hb _ (List.getElem_mem h)
      have r0 := hg m (by omega)
      have r1 := hg m1 (by omega)
      have r2 := hg m2 (by omega)
      have r3 := hg m3 (by omega)
      have hv : word4 b i = Wd.get4 (b.getD m 0) (b.getD m1 0) (b.getD m2 0) (b.getD m3 0) := by unfold word4; rw [hm1, hm2, hm3, hm]
      have hsv := hset (word4 b i) (by rw [if_pos hlt])
      have HK : ∀ w', In3W w g1 g2 g3 81 92 92 .u8 .u32 .u32 b (List.replicate 64 0) (planF b i) i w' → w'.cell? ⟨g1, m, none⟩ = some (.int .u8 (b.getD m 0)) ∧ w'.cell? ⟨g1, m1, none⟩ = some (.int .u8 (b.getD m1 0)) ∧ w'.cell? ⟨g1, m2, none⟩ = some (.int .u8 (b.getD m2 0)) ∧ w'.cell? ⟨g1, m3, none⟩ = some (.int .u8 (b.getD m3 0)) ∧ In3W w g1 g2 g3 81 92 92 .u8 .u32 .u32 b (List.replicate 64 0) (planF b i) i w' :=
        fun w' h => ⟨h.cell1 (by omega), h.cell1 (by omega), h.cell1 (by omega), h.cell1 (by omega), h⟩
      have HA : ∀ w', In3W w g1 g2 g3 81 92 92 .u8 .u32 .u32 b (List.replicate 64 0) (planF b i) i w' → (∃ u, w'.cell? ⟨g3, i, none⟩ = some (.int .u32 u)) ∧ w'.frozen? ⟨g3, i, none⟩ = false := fun w' h => h.at_ (by omega)
      obtain ⟨a0, ha0⟩ : ∃ a, b.getD m 0 = a := ⟨_, rfl⟩
      obtain ⟨a1, ha1⟩ : ∃ a, b.getD m1 0 = a := ⟨_, rfl⟩
      obtain ⟨a2, ha2⟩ : ∃ a, b.getD m2 0 = a := ⟨_, rfl⟩
      obtain ⟨a3, ha3⟩ : ∃ a, b.getD m3 0 = a := ⟨_, rfl⟩
      rw [ha0, ha1, ha2, ha3] at HK hv
      rw [ha0] at c0 r0
      rw [ha1] at c1 r1
      rw [ha2] at c2 r2
      rw [ha3] at c3 r3
      rw [hv] at hsv
      have HK' := Lib.hid HK
      have HA' := Lib.hid HA
      have HSV := Lib.hid hsv
      have e0 : IntKind.i64.wrap (4 * (i : Int)) = (m : Int) := by rw [IntWalk.i64_in _ (by omega)]; omega
      have e1 : IntKind.i64.wrap ((m : Int) + 1) = (m1 : Int) := by rw [IntWalk.i64_in _ (by omega)]; omega
      have e2 : IntKind.i64.wrap ((m : Int) + 2) = (m2 : Int) := by rw [IntWalk.i64_in _ (by omega)]; omega
      have e3 : IntKind.i64.wrap ((m : Int) + 3) = (m3 : Int) := by rw [IntWalk.i64_in _ (by omega)]; omega
      have q0 : (0 : Int) ≤ (m : Int) ∧ (m : Int) < 64 := by omega
      have q1 : (0 : Int) ≤ (m1 : Int) ∧ (m1 : Int) < 64 := by omega
      have q2 : (0 : Int) ≤ (m2 : Int) ∧ (m2 : Int) < 64 := by omega
      have q3 : (0 : Int) ≤ (m3 : Int) ∧ (m3 : Int) < 64 := by omega
      have q4 : (0 : Int) ≤ (i : Int) ∧ (i : Int) < 64 := by omega
      obtain ⟨⟨u0, hu0⟩, hf0⟩ := HA _ HW
      clear hset HK HA hg ha0 ha1 ha2 ha3 hm hm1 hm2 hm3 hv hsv hpl HI
      have HWd : In3W w g1 g2 g3 81 92 92 .u8 .u32 .u32 b (List.replicate 64 0) (planF b i) i wr.drew := by obtain ⟨u, hu⟩ := HW; exact ⟨u, hu.drew⟩
      go_wp2
      go_region_held3 (fun w' => w'.cell? ⟨g1, m, none⟩ = some (.int .u8 a0) ∧ w'.cell? ⟨g1, m1, none⟩ = some (.int .u8 a1) ∧ w'.cell? ⟨g1, m2, none⟩ = some (.int .u8 a2) ∧ w'.cell? ⟨g1, m3, none⟩ = some (.int .u8 a3) ∧ In3W w g1 g2 g3 81 92 92 .u8 .u32 .u32 b (List.replicate 64 0) (planF b i) i w')
        (first | assumption | exact HK'.out _ HWd | (go_split_ands; exact HK'.out _ HW5) | (go_split_ands; exact HK'.out _ (HW5.again _)))
        (first
          | (go_at_call 64; (with_reducible refine (rget32_c a0 a1 a2 a3 r0.1 r0.2 r1.1 r1.2 r2.1 r2.2 r3.1 r3.2 _).mono ?_); rintro e w5 ⟨rfl, hb5, _⟩; have HW5 := HWd.below hb5; obtain ⟨⟨u5, hu5⟩, hf5⟩ := HA'.out _ HW5))
      all_goals
        go_wp2
        go_roundw
        case rel => exact ⟨i + 1, by omega, by go_num, by rw [← HSV.out]; exact HW5.set_ _⟩
        case measure => simp [intOf]; omega
    · rw [show ((i : Nat) : Int) = 16 by omega]
      obtain rfl : i = 16 := by omega
      clear hi hlt
      go_wp2
      go_loopw [5] (fun v wr => ∃ i : Nat, 16 ≤ i ∧ i ≤ 64 ∧ v = .int .i64 i ∧ In3 w g1 g2 g3 81 92 92 .u8 .u32 .u32 b (List.replicate 64 0) (planF b i) wr) (fun v _ => 64 - (intOf v).toNat)
      case atStart => exact ⟨16, by omega, by omega, rfl, HI⟩
      case round =>
        clear HI
        obtain ⟨i, hi16, hi, rfl, HI⟩ := hrel
        by_cases hlt : i < 64
        · have hpl := planF_len b i (by omega)
          have HW := HI.open_ (i := i) (by omega)
          have hin := planTo_in b hb i
          have hg : ∀ j, j < i → (planF b i).getD j 0 = (planTo b i).getD j 0 ∧ 0 ≤ (planTo b i).getD j 0 ∧ (planTo b i).getD j 0 < 4294967296 := by
            intro j hj
            have h : j < (planTo b i).length := by rw [planTo_len]; exact hj
            refine ⟨planF_at b i j hj, ?_⟩
            simp [h]; exact hin _ (List.getElem_mem h)
          obtain ⟨m2, hm2⟩ : ∃ m, i - 2 = m := ⟨_, rfl⟩
          obtain ⟨m7, hm7⟩ : ∃ m, i - 7 = m := ⟨_, rfl⟩
          obtain ⟨m15, hm15⟩ : ∃ m, i - 15 = m := ⟨_, rfl⟩
          obtain ⟨m16, hm16⟩ : ∃ m, i - 16 = m := ⟨_, rfl⟩
          have hsv := planF_set b i hlt (nextW (planTo b i) i) (by rw [if_neg (by omega)])
          have hv : nextW (planTo b i) i = (mix2 ((planTo b i).getD m2 0) + (planTo b i).getD m7 0 + mix1 ((planTo b i).getD m15 0) + (planTo b i).getD m16 0) % 4294967296 := by unfold nextW; rw [hm2, hm7, hm15, hm16]
          have HK : ∀ w', In3W w g1 g2 g3 81 92 92 .u8 .u32 .u32 b (List.replicate 64 0) (planF b i) i w' → w'.cell? ⟨g3, m2, none⟩ = some (.int .u32 ((planF b i).getD m2 0)) ∧ w'.cell? ⟨g3, m7, none⟩ = some (.int .u32 ((planF b i).getD m7 0)) ∧ w'.cell? ⟨g3, m15, none⟩ = some (.int .u32 ((planF b i).getD m15 0)) ∧ w'.cell? ⟨g3, m16, none⟩ = some (.int .u32 ((planF b i).getD m16 0)) ∧ In3W w g1 g2 g3 81 92 92 .u8 .u32 .u32 b (List.replicate 64 0) (planF b i) i w' :=
            fun w' h => ⟨h.cell3 (by omega) (by omega), h.cell3 (by omega) (by omega), h.cell3 (by omega) (by omega), h.cell3 (by omega) (by omega), h⟩
          obtain ⟨⟨u0, hu0⟩, hf0⟩ := HW.at_ (by omega)
          rw [(hg m2 (by omega)).1, (hg m7 (by omega)).1, (hg m15 (by omega)).1, (hg m16 (by omega)).1] at HK
          have r2 := (hg m2 (by omega)).2
          have r7 := (hg m7 (by omega)).2
          have r15 := (hg m15 (by omega)).2
          have r16 := (hg m16 (by omega)).2
          obtain ⟨x2, hx2⟩ : ∃ a, (planTo b i).getD m2 0 = a := ⟨_, rfl⟩
          obtain ⟨x7, hx7⟩ : ∃ a, (planTo b i).getD m7 0 = a := ⟨_, rfl⟩
          obtain ⟨x15, hx15⟩ : ∃ a, (planTo b i).getD m15 0 = a := ⟨_, rfl⟩
          obtain ⟨x16, hx16⟩ : ∃ a, (planTo b i).getD m16 0 = a := ⟨_, rfl⟩
          rw [hx2, hx7, hx15, hx16] at HK hv
          rw [hx2] at r2
          rw [hx7] at r7
          rw [hx15] at r15
          rw [hx16] at r16
          obtain ⟨c0, c1, c2, c3, _⟩ := HK _ HW
          obtain ⟨y2, hy2⟩ : ∃ a, mix2 x2 = a := ⟨_, rfl⟩
          obtain ⟨y15, hy15⟩ : ∃ a, mix1 x15 = a := ⟨_, rfl⟩
          have k2 := mix2_in x2
          have k15 := mix1_in x15
          rw [hy2, hy15] at hv
          rw [hy2] at k2
          rw [hy15] at k15
          obtain ⟨t1, ht1⟩ : ∃ t, (y2 + x7) % 4294967296 = t := ⟨_, rfl⟩
          obtain ⟨t2, ht2⟩ : ∃ t, (t1 + y15) % 4294967296 = t := ⟨_, rfl⟩
          obtain ⟨t3, ht3⟩ : ∃ t, (t2 + x16) % 4294967296 = t := ⟨_, rfl⟩
          have hv3 : nextW (planTo b i) i = t3 := by rw [hv]; omega
          rw [hv3] at hsv
          have f1 : IntKind.u32.wrap (y2 + x7) = t1 := by rw [IntKind.wrap_u32]; exact ht1
          have f2 : IntKind.u32.wrap (t1 + y15) = t2 := by rw [IntKind.wrap_u32]; exact ht2
          have f3 : IntKind.u32.wrap (t2 + x16) = t3 := by rw [IntKind.wrap_u32]; exact ht3
          have HK' := Lib.hid HK
          have HSV := Lib.hid hsv
          have e2 : IntKind.i64.wrap ((i : Int) - 2) = (m2 : Int) := by rw [IntWalk.i64_in _ (by omega)]; omega
          have e7 : IntKind.i64.wrap ((i : Int) - 7) = (m7 : Int) := by rw [IntWalk.i64_in _ (by omega)]; omega
          have e15 : IntKind.i64.wrap ((i : Int) - 15) = (m15 : Int) := by rw [IntWalk.i64_in _ (by omega)]; omega
          have e16 : IntKind.i64.wrap ((i : Int) - 16) = (m16 : Int) := by rw [IntWalk.i64_in _ (by omega)]; omega
          have q0 : (0 : Int) ≤ (m2 : Int) ∧ (m2 : Int) < 64 := by omega
          have q1 : (0 : Int) ≤ (m7 : Int) ∧ (m7 : Int) < 64 := by omega
          have q2 : (0 : Int) ≤ (m15 : Int) ∧ (m15 : Int) < 64 := by omega
          have q3 : (0 : Int) ≤ (m16 : Int) ∧ (m16 : Int) < 64 := by omega
          have q4 : (0 : Int) ≤ (i : Int) ∧ (i : Int) < 64 := by omega
          have H2 := Lib.hid hy2
          have H15 := Lib.hid hy15
          clear HK hg hin hx2 hx7 hx15 hx16 hm2 hm7 hm15 hm16 hv hv3 hsv hpl HI ht1 ht2 ht3 hy2 hy15
          have HWd : In3W w g1 g2 g3 81 92 92 .u8 .u32 .u32 b (List.replicate 64 0) (planF b i) i wr.drew := by obtain ⟨u, hu⟩ := HW; exact ⟨u, hu.drew⟩
          go_wp2
          go_region_held3 (fun w' => w'.cell? ⟨g3, m2, none⟩ = some (.int .u32 x2) ∧ w'.cell? ⟨g3, m7, none⟩ = some (.int .u32 x7) ∧ w'.cell? ⟨g3, m15, none⟩ = some (.int .u32 x15) ∧ w'.cell? ⟨g3, m16, none⟩ = some (.int .u32 x16) ∧ In3W w g1 g2 g3 81 92 92 .u8 .u32 .u32 b (List.replicate 64 0) (planF b i) i w')
            (first | assumption | exact HK'.out _ HWd | (go_split_ands; exact HK'.out _ (HWd.again _)))
            (first
              | (go_at_call 65; (with_reducible refine (rsecond_c x2 r2.1 r2.2 _).mono ?_); rw [H2.out]; rintro e w5 ⟨rfl, rfl⟩)
              | (go_at_call 66; (with_reducible refine (rfirst_c x15 r15.1 r15.2 _).mono ?_); rw [H15.out]; rintro e w5 ⟨rfl, rfl⟩))
          all_goals
            go_wp2
            go_roundw
            case rel => exact ⟨i + 1, by omega, by omega, by go_num, by rw [← HSV.out]; exact (HW.set_ _).drew⟩
            case measure => simp [intOf]; omega
        · rw [show ((i : Nat) : Int) = 64 by omega]
          obtain rfl : i = 64 := by omega
          rw [planF_full] at HI
          obtain ⟨h1, h2, h3, h4, h5, h6, h7⟩ := HI
          have hpl : (planL b).length = 64 := planTo_len b 64
          have HPL := Lib.hid hpl
          have H3 := Lib.hid h3
          have H2 := Lib.hid h2
          have hg2 : w.heap.size ≤ g2 := HG2.out
          clear hpl h1 h2 h3
          go_wp2_with (first
            | (with_reducible refine at_any ?_; refine at_dst 60 rfl ?_; refine wpList_load_ints rfl 92 (.tmp 3) rfl g3 rfl 92 .u32 (planL b) H3.out _ Tryd.underlying92 rfl (by rw [HPL.out]; exact size_plan) ?_)
            | (with_reducible refine at_any ?_; refine at_store 2 rfl ?_; refine wpList_store_ints rfl 92 (.tmp 2) (.tmp 60) rfl g2 rfl 92 .u32 (List.replicate 64 0) (planL b) H2.out rfl (by rw [HPL.out]; simp) (by rw [HPL.out]; exact size_plan) ?_; intro w9 hk9 hs9 hb9 ho9)
            | (refine bodyPost_cell 2 92 rfl g2 rfl 92 .u32 (planL b) hk9.out _ Tryd.underlying92 rfl (by rw [HPL.out]; exact size_plan) rfl ?_))
          rw [← hg1]
          exact h4.trans (hb9 _ hg2)
end Go.Proofs.YtmeefnhmkffdlaaDoor
/-
  The words of a plan by their places; a block of its words, words of their block; a word of those behind it.
  Conditions: those that each theorem names.
-/
set_option maxRecDepth 100000
namespace Go.Proofs.YtmeefnhmkffdlaaDoor
open Go.ChangeShapes Go.WideShapes Go.ChangeAt Go.RowKit

theorem planTo_at (b : List Int) (n j : Nat) (hj : j < n) : (planTo b n).getD j 0 = if j < 16 then word4 b j else nextW (planTo b j) j := by
  induction n with
  | zero => omega
  | succ n ih =>
    rw [planTo, List.getD_eq_getElem?_getD]
    rcases Nat.lt_or_ge j n with h | h
    · rw [List.getElem?_append_left (by rw [planTo_len]; exact h), ← List.getD_eq_getElem?_getD, ih h]
    · obtain rfl : j = n := by omega
      rw [List.getElem?_append_right (by rw [planTo_len]; exact Nat.le_refl _), planTo_len, Nat.sub_self]
      rfl
/-- Word j of a block's plan. -/
def pw (b : List Int) (j : Nat) : Int := (planL b).getD j 0
theorem planTo_pw (b : List Int) (n j : Nat) (hj : j < n) (hn : n ≤ 64) : (planTo b n).getD j 0 = pw b j := by
  unfold pw planL
  rw [planTo_at b n j hj, planTo_at b 64 j (by omega)]
theorem pw_low (b : List Int) (j : Nat) (hj : j < 16) : pw b j = word4 b j := by
  unfold pw planL
  rw [planTo_at b 64 j (by omega), if_pos hj]
theorem pw_high (b : List Int) (j : Nat) (h1 : 16 ≤ j) (h2 : j < 64) : pw b j = (mix2 (pw b (j - 2)) + pw b (j - 7) + mix1 (pw b (j - 15)) + pw b (j - 16)) % 4294967296 := by
  have h : pw b j = nextW (planTo b j) j := by
    unfold pw planL
    rw [planTo_at b 64 j h2, if_neg (by omega)]
  rw [h]
  unfold nextW
  rw [planTo_pw b j (j - 2) (by omega) (by omega), planTo_pw b j (j - 7) (by omega) (by omega), planTo_pw b j (j - 15) (by omega) (by omega), planTo_pw b j (j - 16) (by omega) (by omega)]
theorem planL_len (b : List Int) : (planL b).length = 64 := planTo_len b 64
theorem pw_in (b : List Int) (hb : ∀ z ∈ b, 0 ≤ z ∧ z < 256) (j : Nat) (hj : j < 64) : 0 ≤ pw b j ∧ pw b j < 4294967296 := by
  have h : j < (planL b).length := by rw [planL_len]; exact hj
  have := planTo_in b hb 64 _ (List.getElem_mem h)
  unfold pw
  simpa [h] using this
/-- A word of those behind it. -/
theorem pw_undo (b : List Int) (hb : ∀ z ∈ b, 0 ≤ z ∧ z < 256) (i : Nat) (hi : i < 48) : pw b i = (((pw b (i + 16) - mix2 (pw b (i + 14))) % 4294967296 - pw b (i + 9)) % 4294967296 - mix1 (pw b (i + 1))) % 4294967296 := by
  have h := pw_high b (i + 16) (by omega) (by omega)
  rw [show i + 16 - 2 = i + 14 by omega, show i + 16 - 7 = i + 9 by omega, show i + 16 - 15 = i + 1 by omega, show i + 16 - 16 = i by omega] at h
  have h1 := pw_in b hb i (by omega)
  have h2 := pw_in b hb (i + 16) (by omega)
  rw [h]
  omega

theorem byte_in (b : List Int) (hb : ∀ z ∈ b, 0 ≤ z ∧ z < 256) (j : Nat) : 0 ≤ b.getD j 0 ∧ b.getD j 0 < 256 := by
  rcases Nat.lt_or_ge j b.length with h | h
  · simp [h]; exact hb _ (List.getElem_mem h)
  · simp [h]
theorem put4L_word4 (b : List Int) (hb : ∀ z ∈ b, 0 ≤ z ∧ z < 256) (i : Nat) : put4L (word4 b i) = [b.getD (4 * i) 0, b.getD (4 * i + 1) 0, b.getD (4 * i + 2) 0, b.getD (4 * i + 3) 0] := by
  have h0 := byte_in b hb (4 * i)
  have h1 := byte_in b hb (4 * i + 1)
  have h2 := byte_in b hb (4 * i + 2)
  have h3 := byte_in b hb (4 * i + 3)
  unfold word4
  obtain ⟨a0, e0⟩ : ∃ a, b.getD (4 * i) 0 = a := ⟨_, rfl⟩
  obtain ⟨a1, e1⟩ : ∃ a, b.getD (4 * i + 1) 0 = a := ⟨_, rfl⟩
  obtain ⟨a2, e2⟩ : ∃ a, b.getD (4 * i + 2) 0 = a := ⟨_, rfl⟩
  obtain ⟨a3, e3⟩ : ∃ a, b.getD (4 * i + 3) 0 = a := ⟨_, rfl⟩
  rw [e0] at h0 ⊢
  rw [e1] at h1 ⊢
  rw [e2] at h2 ⊢
  rw [e3] at h3 ⊢
  unfold Wd.get4 put4L
  congr 1
  · omega
  · congr 1
    · omega
    · congr 1
      · omega
      · congr 1
        omega
/-- The block comes back of its words. -/
theorem backTo_words (b l : List Int) (hl : b.length = 64) (hb : ∀ z ∈ b, 0 ≤ z ∧ z < 256) (h : ∀ i, i < 16 → l.getD i 0 = word4 b i) (i : Nat) (hi : i ≤ 16) : backTo l i = b.take (4 * i) := by
  induction i with
  | zero => rfl
  | succ i ih =>
    rw [backTo, ih (by omega), h i (by omega), put4L_word4 b hb]
    have e : ∀ j, j < 64 → b.take j ++ [b.getD j 0] = b.take (j + 1) := by
      intro j hj
      rw [List.take_succ_eq_append_getElem (by omega)]
      simp [show j < b.length by omega]
    rw [show 4 * (i + 1) = 4 * i + 1 + 1 + 1 + 1 by omega, ← e (4 * i + 1 + 1 + 1) (by omega), ← e (4 * i + 1 + 1) (by omega), ← e (4 * i + 1) (by omega), ← e (4 * i) (by omega)]
    simp
theorem backL_words (b l : List Int) (hl : b.length = 64) (hb : ∀ z ∈ b, 0 ≤ z ∧ z < 256) (h : ∀ i, i < 16 → l.getD i 0 = pw b i) : backL l = b := by
  unfold backL
  rw [backTo_words b l hl hb (fun i hi => by rw [h i hi, pw_low b i hi]) 16 (by omega), List.take_of_length_le (by omega)]
theorem backL_len (l : List Int) : (backL l).length = 64 := backTo_len l 16
theorem backTo_get (l : List Int) (n i k : Nat) (hi : i < n) (hk : k < 4) : (backTo l n).getD (4 * i + k) 0 = (put4L (l.getD i 0)).getD k 0 := by
  induction n with
  | zero => omega
  | succ n ih =>
    rw [backTo, List.getD_eq_getElem?_getD]
    rcases Nat.lt_or_ge i n with h | h
    · rw [List.getElem?_append_left (by rw [backTo_len]; omega), ← List.getD_eq_getElem?_getD, ih h]
    · obtain rfl : i = n := by omega
      rw [List.getElem?_append_right (by rw [backTo_len]; omega), backTo_len, show 4 * i + k - 4 * i = k by omega, ← List.getD_eq_getElem?_getD]
theorem word4_back (l : List Int) (hb : ∀ z ∈ l, 0 ≤ z ∧ z < 4294967296) (i : Nat) (hi : i < 16) (hl : i < l.length) : word4 (backL l) i = l.getD i 0 := by
  have hx : 0 ≤ l.getD i 0 ∧ l.getD i 0 < 4294967296 := by simp [hl]; exact hb _ (List.getElem_mem hl)
  have g0 := backTo_get l 16 i 0 hi (by omega)
  have g1 := backTo_get l 16 i 1 hi (by omega)
  have g2 := backTo_get l 16 i 2 hi (by omega)
  have g3 := backTo_get l 16 i 3 hi (by omega)
  unfold word4 backL
  rw [Nat.add_zero] at g0
  rw [g0, g1, g2, g3]
  obtain ⟨x, e⟩ : ∃ x, l.getD i 0 = x := ⟨_, rfl⟩
  rw [e] at hx ⊢
  unfold put4L Wd.get4
  simp
  omega
theorem put4L_in (x : Int) (h0 : 0 ≤ x) (h1 : x < 4294967296) : ∀ z ∈ put4L x, 0 ≤ z ∧ z < 256 := by
  intro z hz
  simp [put4L] at hz
  rcases hz with h | h | h | h <;> omega
theorem backTo_in (l : List Int) (hb : ∀ z ∈ l, 0 ≤ z ∧ z < 4294967296) (n : Nat) : ∀ z ∈ backTo l n, 0 ≤ z ∧ z < 256 := by
  induction n with
  | zero => intro z hz; cases hz
  | succ n ih =>
    intro z hz
    rw [backTo, List.mem_append] at hz
    rcases hz with h | h
    · exact ih z h
    · have hx : 0 ≤ l.getD n 0 ∧ l.getD n 0 < 4294967296 := by
        rcases Nat.lt_or_ge n l.length with h1 | h1
        · simp [h1]; exact hb _ (List.getElem_mem h1)
        · simp [h1]
      exact put4L_in _ hx.1 hx.2 z h

/-! ### the document's examples -/
theorem mix1_zero : mix1 0 = 0 := by kernel_rfl
theorem mix2_zero : mix2 0 = 0 := by kernel_rfl
theorem mix1_eight : mix1 8 = 268566529 := by kernel_rfl
theorem mix2_kilo : mix2 1024 = 41943041 := by kernel_rfl
theorem rep_getD (m n : Nat) : (List.replicate m (0 : Int)).getD n 0 = 0 := by
  rw [List.getD_eq_getElem?_getD, List.getElem?_replicate]
  split <;> rfl
theorem pw_nought (j : Nat) (hj : j < 64) : pw (List.replicate 64 0) j = 0 := by
  induction j using Nat.strongRecOn with
  | ind j ih =>
    rcases Nat.lt_or_ge j 16 with h | h
    · rw [pw_low _ _ h]
      unfold word4
      rw [rep_getD, rep_getD, rep_getD, rep_getD]
      rfl
    · rw [pw_high _ _ h hj, ih (j - 2) (by omega) (by omega), ih (j - 7) (by omega) (by omega), ih (j - 15) (by omega) (by omega), ih (j - 16) (by omega) (by omega), mix1_zero, mix2_zero]
      rfl
/-- Sixty-four noughts. -/
def Z64 : List Int := List.replicate 64 0
theorem Z64_len : Z64.length = 64 := by simp [Z64]
theorem Z64_in : ∀ z ∈ Z64, 0 ≤ z ∧ z < 256 := by
  intro z hz
  have := (List.mem_replicate.1 hz).2
  omega
def oneB : List Int := Z64.set 3 1
theorem pw_one (j : Nat) (h0 : 0 < j) (hj : j < 16) : pw oneB j = 0 := by
  rw [pw_low _ _ hj]
  have : ∀ j : Fin 16, 0 < j.val → word4 oneB j.val = 0 := by decide +kernel
  exact this ⟨j, hj⟩ h0
theorem pw_one0 : pw oneB 0 = 1 := by rw [pw_low _ _ (by omega)]; kernel_rfl
theorem pw_one16 : pw oneB 16 = 1 := by
  rw [pw_high _ _ (by omega) (by omega), pw_one (16 - 2) (by omega) (by omega), pw_one (16 - 7) (by omega) (by omega), pw_one (16 - 15) (by omega) (by omega), pw_one0, mix1_zero, mix2_zero]
  rfl
theorem pw_one17 : pw oneB 17 = 0 := by
  rw [pw_high _ _ (by omega) (by omega), pw_one (17 - 2) (by omega) (by omega), pw_one (17 - 7) (by omega) (by omega), pw_one (17 - 15) (by omega) (by omega), pw_one (17 - 16) (by omega) (by omega), mix1_zero, mix2_zero]
  rfl
theorem pw_one18 : pw oneB 18 = mix2 1 := by
  rw [pw_high _ _ (by omega) (by omega), pw_one16, pw_one (18 - 7) (by omega) (by omega), pw_one (18 - 15) (by omega) (by omega), pw_one (18 - 16) (by omega) (by omega), mix1_zero]
  have := mix2_in 1
  omega
end Go.Proofs.YtmeefnhmkffdlaaDoor
/-
  A block taken into a state, as lists of numbers: the mixes, a round and a round undone, the constants.
  Conditions: those that each theorem names.
-/
set_option maxRecDepth 100000
namespace Go.Proofs.YtmeefnhmkffdlaaDoor
open Go.ChangeShapes Go.WideShapes Go.ChangeAt Go.RowKit

def turn3 (x a b c : Int) : Int := bits .xor .u32 (bits .xor .u32 (Wd.rotate x a) (Wd.rotate x b)) (Wd.rotate x c)
def chW (e f g : Int) : Int := bits .or .u32 (bits .and .u32 e f) (bits .and .u32 (4294967295 - e) g)
def majW (a b c : Int) : Int := bits .or .u32 (bits .or .u32 (bits .and .u32 a b) (bits .and .u32 a c)) (bits .and .u32 b c)
theorem turn3_in (x a b c : Int) : 0 ≤ turn3 x a b c ∧ turn3 x a b c < 4294967296 := bits_u32_in _ _ _
theorem chW_in (e f g : Int) : 0 ≤ chW e f g ∧ chW e f g < 4294967296 := bits_u32_in _ _ _
theorem majW_in (a b c : Int) : 0 ≤ majW a b c ∧ majW a b c < 4294967296 := bits_u32_in _ _ _
def roundL (s : List Int) (w k : Int) : List Int :=
  let t := (s.getD 7 0 + turn3 (s.getD 4 0) 6 11 25 + chW (s.getD 4 0) (s.getD 5 0) (s.getD 6 0) + k + w) % 4294967296
  let u := (turn3 (s.getD 0 0) 2 13 22 + majW (s.getD 0 0) (s.getD 1 0) (s.getD 2 0)) % 4294967296
  [(t + u) % 4294967296, s.getD 0 0, s.getD 1 0, s.getD 2 0, (s.getD 3 0 + t) % 4294967296, s.getD 4 0, s.getD 5 0, s.getD 6 0]
def backR (s : List Int) (w k : Int) : List Int :=
  let t := (s.getD 0 0 - turn3 (s.getD 1 0) 2 13 22 - majW (s.getD 1 0) (s.getD 2 0) (s.getD 3 0)) % 4294967296
  [s.getD 1 0, s.getD 2 0, s.getD 3 0, (s.getD 4 0 - t) % 4294967296, s.getD 5 0, s.getD 6 0, s.getD 7 0, (t - turn3 (s.getD 5 0) 6 11 25 - chW (s.getD 5 0) (s.getD 6 0) (s.getD 7 0) - k - w) % 4294967296]
def startL : List Int := [1779033703, 3144134277, 1013904242, 2773480762, 1359893119, 2600822924, 528734635, 1541459225]
def constL : List Int := [1116352408, 1899447441, 3049323471, 3921009573, 961987163, 1508970993, 2453635748, 2870763221, 3624381080, 310598401, 607225278, 1426881987, 1925078388, 2162078206, 2614888103, 3248222580, 3835390401, 4022224774, 264347078, 604807628, 770255983, 1249150122, 1555081692, 1996064986, 2554220882, 2821834349, 2952996808, 3210313671, 3336571891, 3584528711, 113926993, 338241895, 666307205, 773529912, 1294757372, 1396182291, 1695183700, 1986661051, 2177026350, 2456956037, 2730485921, 2820302411, 3259730800, 3345764771, 3516065817, 3600352804, 4094571909, 275423344, 430227734, 506948616, 659060556, 883997877, 958139571, 1322822218, 1537002063, 1747873779, 1955562222, 2024104815, 2227730452, 2361852424, 2428436474, 2756734187, 3204031479, 3329325298]
def constN (i : Int) : Int := if 0 ≤ i ∧ i ≤ 63 then constL.getD i.toNat 0 else 0
theorem constL_len : constL.length = 64 := by kernel_rfl
theorem roundL_len (s : List Int) (w k : Int) : (roundL s w k).length = 8 := rfl
theorem backR_len (s : List Int) (w k : Int) : (backR s w k).length = 8 := rfl
def WIn (s : List Int) : Prop := ∀ z ∈ s, 0 ≤ z ∧ z < 4294967296
theorem WIn.at_ {s : List Int} (h : WIn s) (j : Nat) : 0 ≤ s.getD j 0 ∧ s.getD j 0 < 4294967296 := by
  rcases Nat.lt_or_ge j s.length with h1 | h1
  · simp [h1]; exact h _ (List.getElem_mem h1)
  · simp [h1]
theorem roundL_in (s : List Int) (hs : WIn s) (w k : Int) : WIn (roundL s w k) := by
  intro z hz
  simp only [roundL, List.mem_cons, List.not_mem_nil, or_false] at hz
  rcases hz with h | h | h | h | h | h | h | h <;> subst h <;> first | exact hs.at_ _ | omega
theorem backR_in (s : List Int) (hs : WIn s) (w k : Int) : WIn (backR s w k) := by
  intro z hz
  simp only [backR, List.mem_cons, List.not_mem_nil, or_false] at hz
  rcases hz with h | h | h | h | h | h | h | h <;> subst h <;> first | exact hs.at_ _ | omega
theorem list8 (s : List Int) (hl : s.length = 8) : s = [s.getD 0 0, s.getD 1 0, s.getD 2 0, s.getD 3 0, s.getD 4 0, s.getD 5 0, s.getD 6 0, s.getD 7 0] := by
  rcases s with _ | ⟨a, _ | ⟨b, _ | ⟨c, _ | ⟨d, _ | ⟨e, _ | ⟨f, _ | ⟨g, _ | ⟨h, _ | ⟨i, s⟩⟩⟩⟩⟩⟩⟩⟩⟩ <;> simp at hl <;> rfl
/-- A round comes back. -/
theorem back_round (s : List Int) (hl : s.length = 8) (hs : WIn s) (w k : Int) : backR (roundL s w k) w k = s := by
  have h3 := hs.at_ 3
  have h7 := hs.at_ 7
  conv => rhs; rw [list8 s hl]
  simp only [backR, roundL, List.getD_cons_zero, List.getD_cons_succ]
  congr 4
  · omega
  · congr 4
    omega
theorem round_back (s : List Int) (hl : s.length = 8) (hs : WIn s) (w k : Int) : roundL (backR s w k) w k = s := by
  have h0 := hs.at_ 0
  have h4 := hs.at_ 4
  conv => rhs; rw [list8 s hl]
  simp only [backR, roundL, List.getD_cons_zero, List.getD_cons_succ]
  congr 1
  · omega
  · congr 4
    omega
/-- The state when n rounds are done. -/
def rounds (s b : List Int) : Nat → List Int
  | 0 => s
  | n + 1 => roundL (rounds s b n) (pw b n) (constN n)
theorem rounds_len (s b : List Int) (hl : s.length = 8) (n : Nat) : (rounds s b n).length = 8 := by
  cases n with
  | zero => exact hl
  | succ n => rfl
theorem rounds_in (s b : List Int) (hs : WIn s) (n : Nat) : WIn (rounds s b n) := by
  induction n with
  | zero => exact hs
  | succ n ih => exact roundL_in _ ih _ _
/-- The sums, when n of them are done. -/
def sums (x s : List Int) : Nat → List Int
  | 0 => x
  | n + 1 => (sums x s n).set n ((x.getD n 0 + s.getD n 0) % 4294967296)
def takeL (s b : List Int) : List Int := sums (rounds s b 64) s 8
theorem sums_len (x s : List Int) (n : Nat) : (sums x s n).length = x.length := by
  induction n with
  | zero => rfl
  | succ n ih => rw [sums, List.length_set, ih]
theorem sums_at (x s : List Int) (n j : Nat) (hj : n ≤ j) : (sums x s n).getD j 0 = x.getD j 0 := by
  induction n with
  | zero => rfl
  | succ n ih =>
    rw [sums, List.getD_eq_getElem?_getD, List.getElem?_set, if_neg (by omega), ← List.getD_eq_getElem?_getD, ih (by omega)]
theorem sums_in (x s : List Int) (hx : WIn x) (n : Nat) : WIn (sums x s n) := by
  induction n with
  | zero => exact hx
  | succ n ih =>
    intro z hz
    rcases List.mem_or_eq_of_mem_set hz with h | h
    · exact ih z h
    · subst h; omega
end Go.Proofs.YtmeefnhmkffdlaaDoor
/-
  What the document's answers for layer 4 return, and that they leave memory as it was.
  Conditions: the arguments lie in their types' ranges.
-/
set_option maxRecDepth 100000
namespace Go.Proofs.YtmeefnhmkffdlaaDoor
open Go.ChangeShapes Go.WideShapes Go.ChangeAt Go.RowKit
set_option linter.unusedVariables false

theorem rturned_c (x a b c : Int) (h0 : 0 ≤ x) (h1 : x < 4294967296) (a0 : 0 ≤ a) (a1 : a < 32) (b0 : 0 ≤ b) (b1 : b < 32) (c0 : 0 ≤ c) (c1 : c < 32) (w : World) :
    Calls Tryd.prog 67 #[.int .u32 x, .int .i64 a, .int .i64 b, .int .i64 c] w fun e w' => e = .returned (.int .u32 (turn3 x a b c)) ∧ w = w' := by
  unfold turn3
  go_enter Tryd.func67, Tryd.ntmps67
  go_wp2_with (go_at_call 73; (with_reducible refine (rrotate_c _ _ (by omega) (by omega) (by omega) (by omega) _).mono ?_); rintro e _ ⟨rfl, rfl⟩)
  go_ret
  exact ⟨rfl, rfl⟩
theorem rchoice_c (e f g : Int) (e0 : 0 ≤ e) (e1 : e < 4294967296) (f0 : 0 ≤ f) (f1 : f < 4294967296) (g0 : 0 ≤ g) (g1 : g < 4294967296) (w : World) :
    Calls Tryd.prog 68 #[.int .u32 e, .int .u32 f, .int .u32 g] w fun r w' => r = .returned (.int .u32 (chW e f g)) ∧ w = w' := by
  unfold chW
  go_enter Tryd.func68, Tryd.ntmps68
  go_wp2
  go_ret
  exact ⟨rfl, rfl⟩
theorem rmajority_c (a b c : Int) (a0 : 0 ≤ a) (a1 : a < 4294967296) (b0 : 0 ≤ b) (b1 : b < 4294967296) (c0 : 0 ≤ c) (c1 : c < 4294967296) (w : World) :
    Calls Tryd.prog 69 #[.int .u32 a, .int .u32 b, .int .u32 c] w fun r w' => r = .returned (.int .u32 (majW a b c)) ∧ w = w' := by
  unfold majW
  go_enter Tryd.func69, Tryd.ntmps69
  go_wp2
  go_ret
  exact ⟨rfl, rfl⟩
def Z8 : List Int := List.replicate 8 0
theorem Z8_len : Z8.length = 8 := rfl
theorem zero_state : ∀ W, (zeroValue 70).run Tryd.prog W = .ok (.agg (intsA .u32 Z8)) W := (zero_of_info (n := 8) (by kernel_rfl)).1
theorem size_state : (Tryd.prog.info? 70).map (·.size) = some 8 := by kernel_rfl
theorem size_state8 (a b c d e f p q : Int) : (Tryd.prog.info? 70).map (·.size) = some [a, b, c, d, e, f, p, q].length := size_state
theorem Z8_len8 (a b c d e f p q : Int) : Z8.length = [a, b, c, d, e, f, p, q].length := rfl
/-- The state that came in, and the one that is to go out. -/
def St2 (w : World) (g r : Nat) (s z : List Int) (w' : World) : Prop := BlkI w' g 70 .u32 s ∧ BlkI w' r 70 .u32 z ∧ Below w.heap.size w w' ∧ w.heap.size ≤ r ∧ g ≠ r
theorem St2.drew {w w' : World} {g r : Nat} {s z : List Int} (h : St2 w g r s z w') : St2 w g r s z w'.drew := ⟨h.1, h.2.1, h.2.2.1.drew, h.2.2.2⟩
theorem St2.below {w w' w'' : World} {g r : Nat} {s z : List Int} (h : St2 w g r s z w') (hb : Below w'.heap.size w' w'') : St2 w g r s z w'' := ⟨h.1.below hb h.1.lt, h.2.1.below hb h.2.1.lt, h.2.2.1.trans (hb.mono h.2.2.1.size), h.2.2.2⟩
theorem St2.fst {w w' : World} {g r : Nat} {s z : List Int} (h : St2 w g r s z w') : BlkI w' g 70 .u32 s := h.1
theorem St2.snd {w w' : World} {g r : Nat} {s z : List Int} (h : St2 w g r s z w') : BlkI w' r 70 .u32 z := h.2.1
theorem St2.bel {w w' : World} {g r : Nat} {s z : List Int} (h : St2 w g r s z w') : Below w.heap.size w w' := h.2.2.1
theorem St2.out {w w' : World} {g r : Nat} {s z : List Int} (h : St2 w g r s z w') : w.heap.size ≤ r := h.2.2.2.1
theorem St2.ne {w w' : World} {g r : Nat} {s z : List Int} (h : St2 w g r s z w') : g ≠ r := h.2.2.2.2
theorem St2.cells {w w' : World} {g r : Nat} {a b c d e f p q : Int} {z : List Int} (h : St2 w g r [a, b, c, d, e, f, p, q] z w') :
    w'.cell? ⟨g, 0, none⟩ = some (.int .u32 a) ∧ w'.cell? ⟨g, 1, none⟩ = some (.int .u32 b) ∧ w'.cell? ⟨g, 2, none⟩ = some (.int .u32 c) ∧ w'.cell? ⟨g, 3, none⟩ = some (.int .u32 d) ∧ w'.cell? ⟨g, 4, none⟩ = some (.int .u32 e) ∧ w'.cell? ⟨g, 5, none⟩ = some (.int .u32 f) ∧ w'.cell? ⟨g, 6, none⟩ = some (.int .u32 p) ∧ w'.cell? ⟨g, 7, none⟩ = some (.int .u32 q) ∧ St2 w g r [a, b, c, d, e, f, p, q] z w' :=
  ⟨h.1.cell (j := 0) (by simp), h.1.cell (j := 1) (by simp), h.1.cell (j := 2) (by simp), h.1.cell (j := 3) (by simp), h.1.cell (j := 4) (by simp), h.1.cell (j := 5) (by simp), h.1.cell (j := 6) (by simp), h.1.cell (j := 7) (by simp), h⟩
set_option maxHeartbeats 1000000 in
theorem rround_c (s : List Int) (W K : Int) (hl : s.length = 8) (hs : WIn s) (W0 : 0 ≤ W) (W1 : W < 4294967296) (K0 : 0 ≤ K) (K1 : K < 4294967296) (w : World) :
    Calls Tryd.prog 59 #[.agg (intsA .u32 s), .int .u32 W, .int .u32 K] w fun e w' => e = .returned (.agg (intsA .u32 (roundL s W K))) ∧ Below w.heap.size w w' := by
  have hr0 := hs.at_ 0
  have hr1 := hs.at_ 1
  have hr2 := hs.at_ 2
  have hr3 := hs.at_ 3
  have hr4 := hs.at_ 4
  have hr5 := hs.at_ 5
  have hr6 := hs.at_ 6
  have hr7 := hs.at_ 7
  obtain ⟨a, b, c, d, e, f, p, q, rfl⟩ : ∃ a b c d e f p q, s = [a, b, c, d, e, f, p, q] := ⟨_, _, _, _, _, _, _, _, list8 s hl⟩
  simp only [List.getD_cons_zero, List.getD_cons_succ] at hr0 hr1 hr2 hr3 hr4 hr5 hr6 hr7
  obtain ⟨y1, hy1⟩ : ∃ y, turn3 e 6 11 25 = y := ⟨_, rfl⟩
  obtain ⟨y2, hy2⟩ : ∃ y, chW e f p = y := ⟨_, rfl⟩
  obtain ⟨y3, hy3⟩ : ∃ y, turn3 a 2 13 22 = y := ⟨_, rfl⟩
  obtain ⟨y4, hy4⟩ : ∃ y, majW a b c = y := ⟨_, rfl⟩
  obtain ⟨t1, ht1⟩ : ∃ t, (q + y1) % 4294967296 = t := ⟨_, rfl⟩
  obtain ⟨t2, ht2⟩ : ∃ t, (t1 + y2) % 4294967296 = t := ⟨_, rfl⟩
  obtain ⟨t3, ht3⟩ : ∃ t, (t2 + K) % 4294967296 = t := ⟨_, rfl⟩
  obtain ⟨t4, ht4⟩ : ∃ t, (t3 + W) % 4294967296 = t := ⟨_, rfl⟩
  obtain ⟨u1, hu1⟩ : ∃ t, (y3 + y4) % 4294967296 = t := ⟨_, rfl⟩
  have hres : roundL [a, b, c, d, e, f, p, q] W K = [(t4 + u1) % 4294967296, a, b, c, (d + t4) % 4294967296, e, f, p] := by
    have e1 : (q + turn3 e 6 11 25 + chW e f p + K + W) % 4294967296 = t4 := by rw [hy1, hy2]; omega
    have e2 : (turn3 a 2 13 22 + majW a b c) % 4294967296 = u1 := by rw [hy3, hy4]; exact hu1
    simp only [roundL, List.getD_cons_zero, List.getD_cons_succ]
    rw [e1, e2]
  rw [hres]
  obtain ⟨v0, hv0⟩ : ∃ t, (t4 + u1) % 4294967296 = t := ⟨_, rfl⟩
  obtain ⟨v4, hv4⟩ : ∃ t, (d + t4) % 4294967296 = t := ⟨_, rfl⟩
  rw [hv0, hv4]
  have f1 : IntKind.u32.wrap (q + y1) = t1 := by rw [IntKind.wrap_u32]; exact ht1
  have f2 : IntKind.u32.wrap (t1 + y2) = t2 := by rw [IntKind.wrap_u32]; exact ht2
  have f3 : IntKind.u32.wrap (t2 + K) = t3 := by rw [IntKind.wrap_u32]; exact ht3
  have f4 : IntKind.u32.wrap (t3 + W) = t4 := by rw [IntKind.wrap_u32]; exact ht4
  have f5 : IntKind.u32.wrap (y3 + y4) = u1 := by rw [IntKind.wrap_u32]; exact hu1
  have H1 := Lib.hid hy1
  have H2 := Lib.hid hy2
  have H3 := Lib.hid hy3
  have H4 := Lib.hid hy4
  clear hy1 hy2 hy3 hy4 ht1 ht2 ht3 ht4 hu1 hres hs hl
  go_enter Tryd.func59, Tryd.ntmps59
  go_wp2_with (first
    | (with_reducible refine at_any ?_; refine at_dst 3 rfl ?_; refine wpList_box_ints rfl 70 (.tmp 0) rfl .u32 _ rfl ?_; intro w1 hk1 hs1 hb1)
    | (with_reducible refine at_any ?_; refine at_dst 6 rfl ?_; refine wpList_alloc_ints rfl 70 rfl .u32 Z8 zero_state ?_; intro w2 hk2 hs2 hb2))
  have HS : St2 w w.heap.size w1.heap.size [a, b, c, d, e, f, p, q] Z8 w2 := by
    have q1 := hs1.out
    exact ⟨hk1.out.below hb2 (by omega), hk2.out, hb1.trans (hb2.mono (by omega)), by omega, by omega⟩
  obtain ⟨g, hg⟩ : ∃ g, w.heap.size = g := ⟨_, rfl⟩
  obtain ⟨r, hr⟩ : ∃ g, w1.heap.size = g := ⟨_, rfl⟩
  have HW := Lib.hid hg
  rw [hg, hr] at HS
  rw [hg, hr]
  clear hk1 hs1 hb1 hk2 hs2 hb2 hg hr
  obtain ⟨c0, c1, c2, c3, c4, c5, c6, c7, _⟩ := HS.cells
  have HSd := HS.drew
  have HSdd := HSd.drew
  go_region_held3 (fun w' => w'.cell? ⟨g, 0, none⟩ = some (.int .u32 a) ∧ w'.cell? ⟨g, 1, none⟩ = some (.int .u32 b) ∧ w'.cell? ⟨g, 2, none⟩ = some (.int .u32 c) ∧ w'.cell? ⟨g, 3, none⟩ = some (.int .u32 d) ∧ w'.cell? ⟨g, 4, none⟩ = some (.int .u32 e) ∧ w'.cell? ⟨g, 5, none⟩ = some (.int .u32 f) ∧ w'.cell? ⟨g, 6, none⟩ = some (.int .u32 p) ∧ w'.cell? ⟨g, 7, none⟩ = some (.int .u32 q) ∧ St2 w g r [a, b, c, d, e, f, p, q] Z8 w')
    (first | assumption | exact HSd.cells)
    (first
      | (go_at_call 67; (with_reducible refine (rturned_c e 6 11 25 hr4.1 hr4.2 (by omega) (by omega) (by omega) (by omega) (by omega) (by omega) _).mono ?_); rw [H1.out]; rintro r w5 ⟨rfl, rfl⟩)
      | (go_at_call 68; (with_reducible refine (rchoice_c e f p hr4.1 hr4.2 hr5.1 hr5.2 hr6.1 hr6.2 _).mono ?_); rw [H2.out]; rintro r w5 ⟨rfl, rfl⟩))
  go_wp2
  go_region_held3 (fun w' => w'.cell? ⟨g, 0, none⟩ = some (.int .u32 a) ∧ w'.cell? ⟨g, 1, none⟩ = some (.int .u32 b) ∧ w'.cell? ⟨g, 2, none⟩ = some (.int .u32 c) ∧ w'.cell? ⟨g, 3, none⟩ = some (.int .u32 d) ∧ w'.cell? ⟨g, 4, none⟩ = some (.int .u32 e) ∧ w'.cell? ⟨g, 5, none⟩ = some (.int .u32 f) ∧ w'.cell? ⟨g, 6, none⟩ = some (.int .u32 p) ∧ w'.cell? ⟨g, 7, none⟩ = some (.int .u32 q) ∧ St2 w g r [a, b, c, d, e, f, p, q] Z8 w')
    (first | assumption | exact HSdd.cells)
    (first
      | (go_at_call 67; (with_reducible refine (rturned_c a 2 13 22 hr0.1 hr0.2 (by omega) (by omega) (by omega) (by omega) (by omega) (by omega) _).mono ?_); rw [H3.out]; rintro r w5 ⟨rfl, rfl⟩)
      | (go_at_call 69; (with_reducible refine (rmajority_c a b c hr0.1 hr0.2 hr1.1 hr1.2 hr2.1 hr2.2 _).mono ?_); rw [H4.out]; rintro r w5 ⟨rfl, rfl⟩))
  have HS6 := Lib.hid HSdd.snd
  have f6 : IntKind.u32.wrap (t4 + u1) = v0 := by rw [IntKind.wrap_u32]; exact hv0
  have f7 : IntKind.u32.wrap (d + t4) = v4 := by rw [IntKind.wrap_u32]; exact hv4
  clear hv0 hv4
  go_wp2_with (first
    | (with_reducible refine at_any ?_; refine at_store 6 rfl ?_; refine wpList_store_ints rfl 70 (.tmp 6) (.tmp 57) rfl r rfl 70 .u32 Z8 [v0, a, b, c, v4, e, f, p] HS6.out (by kernel_rfl) (Z8_len8 _ _ _ _ _ _ _ _) (size_state8 _ _ _ _ _ _ _ _) ?_; intro w9 hk9 hs9 hb9 ho9)
    | (refine bodyPost_cell 6 70 rfl r rfl 70 .u32 [v0, a, b, c, v4, e, f, p] hk9.out _ Tryd.underlying70 rfl (size_state8 _ _ _ _ _ _ _ _) rfl ?_))
  exact HSdd.bel.trans (hb9 _ HSdd.out)
end Go.Proofs.YtmeefnhmkffdlaaDoor
/-
  What the document's Start, Constant and Take (layer 4) return, and that they leave memory as it was.
  Conditions: the arguments lie in their types' ranges.
-/
set_option maxRecDepth 100000
set_option linter.unusedSimpArgs false
namespace Go.Proofs.YtmeefnhmkffdlaaDoor
open Go.ChangeShapes Go.WideShapes Go.ChangeAt Go.RowKit
set_option linter.unusedVariables false
theorem rstart_c (w : World) : Calls Tryd.prog 44 #[] w fun e w' => e = .returned (.agg (intsA .u32 startL)) ∧ Below w.heap.size w w' := by
  have HL := Lib.hid (show Z8.length = startL.length from rfl)
  have HZ := Lib.hid (show (Tryd.prog.info? 70).map (·.size) = some startL.length from size_state)
  go_enter Tryd.func44, Tryd.ntmps44
  go_wp2_with (first
    | (with_reducible refine at_any ?_; refine at_dst 0 rfl ?_; refine wpList_alloc_ints rfl 70 rfl .u32 Z8 zero_state ?_; intro w2 hk2 hs2 hb2)
    | (with_reducible refine at_any ?_; refine at_store 0 rfl ?_; refine wpList_store_ints rfl 70 (.tmp 0) (.tmp 1) rfl w.heap.size rfl 70 .u32 Z8 startL hk2.out (by kernel_rfl) HL.out HZ.out ?_; intro w9 hk9 hs9 hb9 ho9)
    | (refine bodyPost_cell 0 70 rfl w.heap.size rfl 70 .u32 startL hk9.out _ Tryd.underlying70 rfl HZ.out rfl ?_))
  exact hb2.trans (hb9 _ (Nat.le_refl _))
theorem index_w64 (zs : List Int) (hl : zs.length = 64) (i : Int) (h0 : 0 ≤ i) (h1 : i ≤ 63) (w : World) : (Instr.index 91 (.agg (intsA .u32 zs)) (.int .i64 i)).run Tryd.prog w = .ok (.int .u32 (zs.getD i.toNat 0)) w := by
  obtain ⟨i0, hi, _, hs, _⟩ := info_parts info_u32c
  exact run_index_arr Tryd.underlying91 Tryd.underlying45 hi hs _ _ _ _ h0 (by omega) (intsA_at .u32 zs i.toNat (by omega)) w
theorem rconst_c (i : Int) (i0 : -9223372036854775808 ≤ i) (i1 : i ≤ 9223372036854775807) (w : World) :
    Calls Tryd.prog 60 #[.int .i64 i] w fun e w' => e = .returned (.int .u32 (constN i)) ∧ w = w' := by
  unfold constN
  by_cases h : 0 ≤ i ∧ i ≤ 63
  · rw [if_pos h]
    obtain ⟨h0, h1⟩ := h
    have hix := fun W => index_w64 constL constL_len i h0 h1 W
    obtain ⟨C, hC⟩ : ∃ C, constL.getD i.toNat 0 = C := ⟨_, rfl⟩
    obtain ⟨A, hA⟩ : ∃ A, intsA .u32 constL = A := ⟨_, rfl⟩
    rw [hC, hA] at hix
    rw [hC]
    have HA := Lib.hid hA
    clear hC hA
    go_enter Tryd.func60, Tryd.ntmps60
    go_wp2_with (with_reducible refine at_any ?_; refine at_dst 9 rfl ?_; refine wpList_val rfl (.agg A) (by rw [← HA.out]; kernel_rfl) ?_)
    go_ret
    exact ⟨rfl, rfl⟩
  · rw [if_neg h]
    by_cases h0 : i < 0
    · go_enter Tryd.func60, Tryd.ntmps60
      go_wp2
      go_ret
      exact ⟨rfl, rfl⟩
    · have h1 : 63 < i := by omega
      clear h
      go_enter Tryd.func60, Tryd.ntmps60
      go_wp2
      go_ret
      exact ⟨rfl, rfl⟩
/-- What Take keeps: the state that came in, the one to go out, the one at hand, and the plan. -/
def Tk (w : World) (g2 g4 g5 g6 : Nat) (s P z : List Int) (w' : World) : Prop := In3 w g2 g4 g6 70 70 70 .u32 .u32 .u32 s Z8 z w' ∧ BlkI w' g5 92 .u32 P ∧ g5 ≠ g6
section
variable {w w' w'' : World} {g2 g4 g5 g6 : Nat} {s P z : List Int}
theorem Tk.below (h : Tk w g2 g4 g5 g6 s P z w') (hb : Below w'.heap.size w' w'') : Tk w g2 g4 g5 g6 s P z w'' := ⟨h.1.below hb, h.2.1.below hb h.2.1.lt, h.2.2⟩
theorem Tk.drew (h : Tk w g2 g4 g5 g6 s P z w') : Tk w g2 g4 g5 g6 s P z w'.drew := ⟨h.1.drew, h.2.1, h.2.2⟩
theorem Tk.in3 (h : Tk w g2 g4 g5 g6 s P z w') : In3 w g2 g4 g6 70 70 70 .u32 .u32 .u32 s Z8 z w' := h.1
theorem Tk.plan (h : Tk w g2 g4 g5 g6 s P z w') : BlkI w' g5 92 .u32 P := h.2.1
theorem Tk.store (h : Tk w g2 g4 g5 g6 s P z w') {y : List Int} (hk : BlkI w'' g6 70 .u32 y) (hb : ∀ B, B ≤ g6 → Below B w' w'') (ho : ∀ j, j ≠ g6 → w''.heap[j]? = w'.heap[j]?) : Tk w g2 g4 g5 g6 s P y w'' := by
  obtain ⟨⟨h1, h2, h3, h4, h5, h6, h7⟩, h8, h9⟩ := h
  exact ⟨⟨h1.other ho h6, h2.other ho h7, hk, h4.trans (hb _ h5), h5, h6, h7⟩, h8.other ho h9, h9⟩
def TkW (w : World) (g2 g4 g5 g6 : Nat) (s P : List Int) (w' : World) : Prop := ∃ z, Tk w g2 g4 g5 g6 s P z w'
theorem TkW.plan (h : TkW w g2 g4 g5 g6 s P w') : BlkI w' g5 92 .u32 P := by obtain ⟨z, h⟩ := h; exact h.plan
end
theorem zero_planZ : ∀ W, (zeroValue 92).run Tryd.prog W = .ok (.agg (intsA .u32 Z64)) W := zero_plan
theorem constN_in (i : Int) : 0 ≤ constN i ∧ constN i < 4294967296 := by
  unfold constN
  split
  · have h : ∀ z ∈ constL, 0 ≤ z ∧ z < 4294967296 := by decide +kernel
    exact WIn.at_ h _
  · omega
theorem sized (s : List Int) (h : s.length = 8) : (Tryd.prog.info? 70).map (·.size) = some s.length := by rw [h]; exact size_state

set_option maxHeartbeats 2000000 in
theorem rtake_c (s b : List Int) (hl : s.length = 8) (hs : WIn s) (hbl : b.length = 64) (hb : ∀ z ∈ b, 0 ≤ z ∧ z < 256) (w : World) :
    Calls Tryd.prog 51 #[.agg (intsA .u32 s), .agg (intsA .u8 b)] w fun e w' => e = .returned (.agg (intsA .u32 (takeL s b))) ∧ Below w.heap.size w w' := by
  obtain ⟨X0, hx⟩ : ∃ x, rounds s b 64 = x := ⟨_, rfl⟩
  obtain ⟨R, hR⟩ : ∃ R, sums X0 s 8 = R := ⟨_, rfl⟩
  have hxl := rounds_len s b hl 64
  rw [hx] at hxl
  rw [show takeL s b = R by rw [takeL, hx, hR]]
  have HX := Lib.hid hx
  have HR := Lib.hid hR
  have HXL := Lib.hid hxl
  clear hx hR hxl
  have SZ := Lib.hid (sized s hl)
  have ZL := Lib.hid (show Z8.length = s.length by rw [hl]; rfl)
  have PZ := Lib.hid (show Z64.length = (planL b).length by rw [planL_len, Z64_len])
  have PS := Lib.hid (show (Tryd.prog.info? 92).map (·.size) = some (planL b).length by rw [planL_len]; exact size_plan)
  have BS := Lib.hid (show (Tryd.prog.info? 81).map (·.size) = some b.length by rw [hbl]; kernel_rfl)
  go_enter Tryd.func51, Tryd.ntmps51
  go_wp2_with (first
    | (with_reducible refine at_any ?_; refine at_dst 2 rfl ?_; refine wpList_box_ints rfl 70 (.tmp 0) rfl .u32 s rfl ?_; intro w1 hk1 hs1 hb1)
    | (with_reducible refine at_any ?_; refine at_dst 3 rfl ?_; refine wpList_box_ints rfl 81 (.tmp 1) rfl .u8 b rfl ?_; intro w2 hk2 hs2 hb2; have hk1b := Lib.hid (hk1.out.below hb2 hk1.out.lt))
    | (with_reducible refine at_any ?_; refine at_dst 4 rfl ?_; refine wpList_alloc_ints rfl 70 rfl .u32 Z8 zero_state ?_; intro w3 hk3 hs3 hb3; have hk1c := Lib.hid (hk1b.out.below hb3 hk1b.out.lt); have hk2c := Lib.hid (hk2.out.below hb3 hk2.out.lt); have bl3 := Lib.hid (hb1.trans ((hb2.mono hb1.size).trans (hb3.mono (by have := hb1.size; have := hb2.size; omega)))))
    | (with_reducible refine at_any ?_; refine at_dst 9 rfl ?_; refine wpList_load_ints rfl 81 (.tmp 3) rfl w1.heap.size rfl 81 .u8 b hk2c.out _ Tryd.underlying81 rfl BS.out ?_)
    | (go_at_call 58; (with_reducible refine (rof_c b hbl hb _).mono ?_); rintro e w4 ⟨rfl, hb4⟩; have hk1d := Lib.hid (hk1c.out.below hb4 hk1c.out.lt); have hk3d := Lib.hid (hk3.out.below hb4 hk3.out.lt); have bl4 := Lib.hid (bl3.out.trans (hb4.mono bl3.out.size)))
    | (with_reducible refine at_any ?_; refine at_dst 5 rfl ?_; refine wpList_alloc_ints rfl 92 rfl .u32 Z64 zero_planZ ?_; intro w5 hk5 hs5 hb5; have hk1e := Lib.hid (hk1d.out.below hb5 hk1d.out.lt); have hk3e := Lib.hid (hk3d.out.below hb5 hk3d.out.lt); have bl5 := Lib.hid (bl4.out.trans (hb5.mono bl4.out.size)))
    | (with_reducible refine at_any ?_; refine at_store 5 rfl ?_; refine wpList_store_ints rfl 92 (.tmp 5) (.tmp 10) rfl w4.heap.size rfl 92 .u32 Z64 (planL b) hk5.out rfl PZ.out PS.out ?_; intro w6 hk6 hs6 hb6 ho6; have hk1f := Lib.hid (hk1e.out.below (hb6 _ (Nat.le_refl _)) hk1d.out.lt); have hk3f := Lib.hid (hk3e.out.below (hb6 _ (Nat.le_refl _)) hk3d.out.lt); have bl6 := Lib.hid (bl5.out.trans (hb6 _ bl4.out.size)))
    | (with_reducible refine at_any ?_; refine at_dst 11 rfl ?_; refine wpList_load_ints rfl 70 (.tmp 2) rfl w.heap.size rfl 70 .u32 s hk1f.out _ Tryd.underlying70 rfl SZ.out ?_)
    | (with_reducible refine at_any ?_; refine at_dst 6 rfl ?_; refine wpList_alloc_ints rfl 70 rfl .u32 Z8 zero_state ?_; intro w7 hk7 hs7 hb7; have hk1g := Lib.hid (hk1f.out.below hb7 hk1f.out.lt); have hk3g := Lib.hid (hk3f.out.below hb7 hk3f.out.lt); have hk6g := Lib.hid (hk6.out.below hb7 hk6.out.lt); have bl7 := Lib.hid (bl6.out.trans (hb7.mono bl6.out.size)))
    | (with_reducible refine at_any ?_; refine at_store 6 rfl ?_; refine wpList_store_ints rfl 70 (.tmp 6) (.tmp 11) rfl w6.heap.size rfl 70 .u32 Z8 s hk7.out rfl ZL.out SZ.out ?_; intro w8 hk8 hs8 hb8 ho8))
  have HT : Tk w w.heap.size w2.heap.size w4.heap.size w6.heap.size s (planL b) (rounds s b 0) w8 := by
    have q1 := hk1f.out.lt
    have q3 := hk3f.out.lt
    have q6 := hk6.out.lt
    exact ⟨⟨hk1g.out.other ho8 (by omega), hk3g.out.other ho8 (by omega), hk8.out, bl7.out.trans (hb8 _ bl6.out.size), bl6.out.size, by omega, by omega⟩, hk6g.out.other ho8 (by omega), by omega⟩
  obtain ⟨g2, hg2⟩ : ∃ g, w.heap.size = g := ⟨_, rfl⟩
  obtain ⟨g4, hg4⟩ : ∃ g, w2.heap.size = g := ⟨_, rfl⟩
  obtain ⟨g5, hg5⟩ : ∃ g, w4.heap.size = g := ⟨_, rfl⟩
  obtain ⟨g6, hg6⟩ : ∃ g, w6.heap.size = g := ⟨_, rfl⟩
  have HG4 := Lib.hid (show w.heap.size ≤ g4 by have := hb1.size; have := hb2.size; omega)
  have HW := Lib.hid hg2
  rw [hg2, hg4, hg5, hg6] at HT
  rw [hg2, hg4, hg5, hg6]
  clear hk1 hs1 hb1 hk2 hs2 hb2 hk1b hk3 hs3 hb3 hk1c hk2c bl3 hb4 hk1d hk3d bl4 hk5 hs5 hb5 hk1e hk3e bl5 hk6 hs6 hb6 ho6 hk1f hk3f bl6 hk7 hs7 hb7 hk1g hk3g hk6g bl7 hk8 hs8 hb8 ho8 hg2 hg4 hg5 hg6 PZ PS BS ZL
  go_loopw [7] (fun v wr => ∃ i : Nat, i ≤ 64 ∧ v = .int .i64 i ∧ Tk w g2 g4 g5 g6 s (planL b) (rounds s b i) wr) (fun v _ => 64 - (intOf v).toNat)
  case atStart => exact ⟨0, by omega, rfl, HT⟩
  case round =>
    clear HT
    obtain ⟨i, hi, rfl, HT⟩ := hrel
    by_cases hlt : i < 64
    · have hxl := rounds_len s b hl i
      have hxi := rounds_in s b hs i
      have c5 : ∀ W, TkW w g2 g4 g5 g6 s (planL b) W → W.cell? ⟨g5, i, none⟩ = some (.int .u32 (pw b i)) := fun W h => h.plan.cell (j := i) (by rw [planL_len]; exact hlt)
      have ry := pw_in b hb i hlt
      obtain ⟨x, hx⟩ : ∃ x, rounds s b i = x := ⟨_, rfl⟩
      have hnx : rounds s b (i + 1) = roundL x (pw b i) (constN i) := by rw [rounds, hx]
      rw [hx] at hxl hxi HT
      obtain ⟨y, hy⟩ : ∃ y, pw b i = y := ⟨_, rfl⟩
      obtain ⟨k, hk⟩ : ∃ k, constN (i : Int) = k := ⟨_, rfl⟩
      have rk := constN_in (i : Int)
      rw [hy, hk] at hnx
      rw [hy] at c5 ry
      rw [hk] at rk
      have d1 := fun W => rconst_c (i : Int) (by omega) (by omega) W
      rw [hk] at d1
      have D1 := Lib.hid d1
      have D2 := Lib.hid (fun W => rround_c x y k hxl hxi ry.1 ry.2 rk.1 rk.2 W)
      have HXS := Lib.hid (sized x hxl)
      have HRS := Lib.hid (sized (roundL x y k) rfl)
      have HLL := Lib.hid (show x.length = (roundL x y k).length by rw [hxl]; rfl)
      have q0 : (0 : Int) ≤ (i : Int) ∧ (i : Int) < 64 := by omega
      have HNX := Lib.hid hnx
      have HTd := HT.drew
      clear hnx hx hy hk d1 hxl hxi rk ry
      go_wp2
      refine wp_region_held_drew (S := TkW w g2 g4 g5 g6 s (planL b)) (by kernel_rfl) (⟨_, HTd⟩) (fun hH => ?_)
      refine held_val 1 rfl (by kernel_rfl) (by kernel_rfl) (by kernel_rfl) (fun _ _ _ _ h => h) (by rfl) (.int .i64 (i : Int)) (fun W h => by go_simp) hH ?_
      try simp only [Act.put, List.setIfInBounds_toArray, List.set_cons_zero, List.set_cons_succ]
      refine held_val 2 rfl (by kernel_rfl) (by kernel_rfl) (by kernel_rfl) (fun _ _ _ _ h => h) (by rfl) (.pointer (some ⟨g5, i, none⟩)) (fun W h => by go_simp) hH ?_
      try simp only [Act.put, List.setIfInBounds_toArray, List.set_cons_zero, List.set_cons_succ]
      refine held_val 3 rfl (by kernel_rfl) (by kernel_rfl) (by kernel_rfl) (fun _ _ _ _ h => h) (by rfl) (.int .u32 y) (fun W h => by have c := c5 W h; go_simp) hH ?_
      try simp only [Act.put, List.setIfInBounds_toArray, List.set_cons_zero, List.set_cons_succ]
      refine held_val 4 rfl (by kernel_rfl) (by kernel_rfl) (by kernel_rfl) (fun _ _ _ _ h => h) (by rfl) (.int .i64 (i : Int)) (fun W h => by go_simp) hH ?_
      try simp only [Act.put, List.setIfInBounds_toArray, List.set_cons_zero, List.set_cons_succ]
      refine wpAnyH_ready (rs := [0, 5]) (by kernel_rfl) (by decide) ?_
      refine AllReadyH.cons rfl (fun K hK => ?_) (AllReadyH.cons rfl (fun K hK => ?_) AllReadyH.nil)
      · refine step_load_ints (by rfl) 70 (.tmp 6) rfl g6 (by kernel_rfl) 70 .u32 x HTd.in3.trd _ Tryd.underlying70 rfl HXS.out ?_
        refine hK.out _ _ hH (fun _ => ?_)
        clear hK K
        try simp only [Act.put, List.setIfInBounds_toArray, List.set_cons_zero, List.set_cons_succ]
        refine wpAnyH_ready (rs := [5]) (by kernel_rfl) (by decide) ?_
        refine AllReadyH.cons rfl (fun K hK => ?_) AllReadyH.nil
        go_simp
        refine (D1.out _).mono ?_
        rintro e _ ⟨rfl, rfl⟩
        refine hK.out _ _ hH (fun _ => ?_)
        clear hK K
        try simp only [Act.put, List.setIfInBounds_toArray, List.set_cons_zero, List.set_cons_succ]
        refine wpAnyH_ready (rs := [6]) (by kernel_rfl) (by decide) ?_
        refine AllReadyH.cons rfl (fun K hK => ?_) AllReadyH.nil
        go_simp
        refine (D2.out _).mono ?_
        rintro e w9 ⟨rfl, hbw9⟩
        have h9 := HTd.below hbw9
        refine hK.out _ _ ⟨_, h9⟩ (fun _ => ?_)
        clear hK K
        try simp only [Act.put, List.setIfInBounds_toArray, List.set_cons_zero, List.set_cons_succ]
        refine held_store 7 rfl (by kernel_rfl) (by rfl) 70 (.tmp 6) (.tmp 22) rfl g6 (by kernel_rfl) 70 .u32 x (roundL x y k) (h9.in3.trd) (by kernel_rfl) (HLL.out) (HRS.out) ?_
        intro w10 hkw10 hbw10 how10
        refine ⟨⟨_, h9.store hkw10.out hbw10 how10⟩, ?_⟩
        try simp only [Act.put, List.setIfInBounds_toArray, List.set_cons_zero, List.set_cons_succ]
        refine wpAnyH_done (by kernel_rfl) ?_ _
        have HN := Lib.hid (h9.store hkw10.out hbw10 how10)
        rw [← HNX.out] at HN
        go_wp2
        go_roundw
        case rel => exact ⟨i + 1, by omega, by go_num, HN.out⟩
        case measure => simp [intOf]; omega
      · go_simp
        refine (D1.out _).mono ?_
        rintro e _ ⟨rfl, rfl⟩
        refine hK.out _ _ hH (fun _ => ?_)
        clear hK K
        try simp only [Act.put, List.setIfInBounds_toArray, List.set_cons_zero, List.set_cons_succ]
        refine wpAnyH_ready (rs := [0]) (by kernel_rfl) (by decide) ?_
        refine AllReadyH.cons rfl (fun K hK => ?_) AllReadyH.nil
        refine step_load_ints (by rfl) 70 (.tmp 6) rfl g6 (by kernel_rfl) 70 .u32 x HTd.in3.trd _ Tryd.underlying70 rfl HXS.out ?_
        refine hK.out _ _ hH (fun _ => ?_)
        clear hK K
        try simp only [Act.put, List.setIfInBounds_toArray, List.set_cons_zero, List.set_cons_succ]
        refine wpAnyH_ready (rs := [6]) (by kernel_rfl) (by decide) ?_
        refine AllReadyH.cons rfl (fun K hK => ?_) AllReadyH.nil
        go_simp
        refine (D2.out _).mono ?_
        rintro e w9 ⟨rfl, hbw9⟩
        have h9 := HTd.below hbw9
        refine hK.out _ _ ⟨_, h9⟩ (fun _ => ?_)
        clear hK K
        try simp only [Act.put, List.setIfInBounds_toArray, List.set_cons_zero, List.set_cons_succ]
        refine held_store 7 rfl (by kernel_rfl) (by rfl) 70 (.tmp 6) (.tmp 22) rfl g6 (by kernel_rfl) 70 .u32 x (roundL x y k) (h9.in3.trd) (by kernel_rfl) (HLL.out) (HRS.out) ?_
        intro w10 hkw10 hbw10 how10
        refine ⟨⟨_, h9.store hkw10.out hbw10 how10⟩, ?_⟩
        try simp only [Act.put, List.setIfInBounds_toArray, List.set_cons_zero, List.set_cons_succ]
        refine wpAnyH_done (by kernel_rfl) ?_ _
        have HN := Lib.hid (h9.store hkw10.out hbw10 how10)
        rw [← HNX.out] at HN
        go_wp2
        go_roundw
        case rel => exact ⟨i + 1, by omega, by go_num, HN.out⟩
        case measure => simp [intOf]; omega
    · rw [show ((i : Nat) : Int) = 64 by omega]
      obtain rfl : i = 64 := by omega
      have hxl := HXL.out
      rw [HX.out] at HT
      have HI := HT.in3
      clear HT hi hlt
      go_wp2
      go_loopw [8] (fun v wr => ∃ i : Nat, i ≤ 8 ∧ v = .int .i64 i ∧ In3 w g2 g4 g6 70 70 70 .u32 .u32 .u32 s Z8 (sums X0 s i) wr) (fun v _ => 8 - (intOf v).toNat)
      case atStart => exact ⟨0, by omega, rfl, HI⟩
      case round =>
        clear HI
        obtain ⟨i, hi, rfl, HI⟩ := hrel
        by_cases hlt : i < 8
        · have hsl := sums_len X0 s i
          have c6 := HI.trd.cell (j := i) (by omega)
          rw [sums_at X0 s i i (Nat.le_refl _)] at c6
          have f6 := HI.trd.frozen i
          have c2 := HI.fst.cell (j := i) (by omega)
          have HN := Lib.hid (HI.set_ i ((X0.getD i 0 + s.getD i 0) % 4294967296)).drew
          rw [← sums] at HN
          obtain ⟨y, hy⟩ : ∃ y, X0.getD i 0 = y := ⟨_, rfl⟩
          obtain ⟨z, hz⟩ : ∃ z, s.getD i 0 = z := ⟨_, rfl⟩
          obtain ⟨v, hv⟩ : ∃ v, (y + z) % 4294967296 = v := ⟨_, rfl⟩
          rw [hy] at c6
          rw [hz] at c2
          rw [hy, hz, hv] at HN
          have e1 : IntKind.u32.wrap (y + z) = v := by rw [IntKind.wrap_u32]; exact hv
          have q0 : (0 : Int) ≤ (i : Int) ∧ (i : Int) < 8 := by omega
          clear HI hy hz hv hsl
          go_wp2
          go_region
          all_goals
            go_wp2
            go_roundw
            case rel => exact ⟨i + 1, by omega, by go_num, HN.out⟩
            case measure => simp [intOf]; omega
        · rw [show ((i : Nat) : Int) = 8 by omega]
          obtain rfl : i = 8 := by omega
          have hsl := sums_len X0 s 8
          rw [hxl] at hsl
          have RZ := Lib.hid (sized (sums X0 s 8) hsl)
          have RL := Lib.hid (show Z8.length = (sums X0 s 8).length by rw [hsl]; rfl)
          have H6 := Lib.hid HI.trd
          have H4 := Lib.hid HI.snd
          have HB := Lib.hid HI.bel
          rw [HR.out] at RZ RL H6
          clear HI hi hlt hsl
          go_wp2_with (first
            | (with_reducible refine at_any ?_; refine at_dst 36 rfl ?_; refine wpList_load_ints rfl 70 (.tmp 6) rfl g6 rfl 70 .u32 R H6.out _ Tryd.underlying70 rfl RZ.out ?_)
            | (with_reducible refine at_any ?_; refine at_store 4 rfl ?_; refine wpList_store_ints rfl 70 (.tmp 4) (.tmp 36) rfl g4 rfl 70 .u32 Z8 R H4.out rfl RL.out RZ.out ?_; intro w9 hk9 hs9 hb9 ho9)
            | (refine bodyPost_cell 4 70 rfl g4 rfl 70 .u32 R hk9.out _ Tryd.underlying70 rfl RZ.out rfl ?_))
          first | exact HB.out.trans (hb9 _ HG4.out) | (rw [← HW.out]; exact HB.out.trans (hb9 _ HG4.out))
end Go.Proofs.YtmeefnhmkffdlaaDoor
/-
  What the document's answers for layer 2 return, and that they leave memory as it was.
  Conditions: the arguments lie in their types' ranges; a message's length is small.
-/
set_option maxRecDepth 100000
namespace Go.Proofs.YtmeefnhmkffdlaaDoor
open Go.ChangeShapes Go.WideShapes Go.ChangeAt Go.RowKit
set_option linter.unusedVariables false

def put8L (x : Int) : List Int := [x / 256 / 256 / 256 / 256 / 256 / 256 / 256, x / 256 / 256 / 256 / 256 / 256 / 256 % 256, x / 256 / 256 / 256 / 256 / 256 % 256, x / 256 / 256 / 256 / 256 % 256, x / 256 / 256 / 256 % 256, x / 256 / 256 % 256, x / 256 % 256, x % 256]
theorem info_u8' : (Tryd.prog.info? 5).map (fun i => (i.zero, i.size, i.bytes)) = some (some (.int .u8 0), 1, 1) := by kernel_rfl

theorem put8_list (x : Int) : put8 x = ((put8L x).map (Value.int .u8)).toArray := rfl
theorem arr_at (l : List Int) (j : Nat) (hj : j < l.length) : ((l.map (Value.int .u8)).toArray)[j]? = some (.int .u8 (l.getD j 0)) := by
  simp [hj]
theorem take_snoc (l : List Int) (j : Nat) (hj : j < l.length) : l.take j ++ [l.getD j 0] = l.take (j + 1) := by
  rw [List.take_succ_eq_append_getElem hj]; simp [hj]
def RetTail (w : World) (zs : List Int) (e : Ending) (w' : World) : Prop := ∃ A c, e = .returned (.tuple #[.slice A zs.length c, .bool true]) ∧ OwnI w' w.heap.size 5 .u8 (.slice A zs.length c) zs ∧ Below w.heap.size w w'

theorem zeros_snoc (l : List Int) (m : Nat) : l ++ 128 :: List.replicate m 0 ++ [0] = l ++ 128 :: List.replicate (m + 1) 0 := by
  rw [List.append_assoc, List.cons_append, ← List.replicate_succ']

set_option maxRecDepth 100000 in
set_option maxHeartbeats 1000000 in
theorem rtail_yes (A : Option Addr) (c r z : Nat) (rest : List Int) (n : Int) (w : World) (hr : Rd .u8 w w.heap.size A r rest) (n0 : 0 ≤ n) (n1 : n < 2305843009213693952) (hn : (r : Int) = n % 64)
    (hz : r + z = 55 ∨ r + z = 119) (hz2 : z < 64) :
    Calls Tryd.prog 49 #[.slice A r c, .int .u64 n] w (RetTail w (rest ++ 128 :: List.replicate z 0 ++ put8L (8 * n))) := by
  obtain ⟨ps, hps⟩ : ∃ ps, put8L (8 * n) = ps := ⟨_, rfl⟩
  obtain ⟨p0, p1, p2, p3, p4, p5, p6, p7, rfl⟩ : ∃ p0 p1 p2 p3 p4 p5 p6 p7, ps = [p0, p1, p2, p3, p4, p5, p6, p7] := ⟨_, _, _, _, _, _, _, _, hps.symm⟩
  have hput := fun W => rput64_c (8 * n) (by omega) (by omega) W
  rw [put8_list, hps] at hput
  rw [hps]
  have HP := Lib.hid hput
  clear hput hps
  have hps8 : [p0, p1, p2, p3, p4, p5, p6, p7].length = 8 := rfl
  have hrd := fun j (hj : j < 8) => arr_at [p0, p1, p2, p3, p4, p5, p6, p7] j hj
  obtain ⟨ps, hps⟩ : ∃ ps, [p0, p1, p2, p3, p4, p5, p6, p7] = ps := ⟨_, rfl⟩
  rw [hps] at hps8 ⊢
  have HPS := Lib.hid hps
  have HP8 := Lib.hid hps8
  clear hps hps8 hrd
  obtain ⟨i0, hi, hz0, hz1, hzb⟩ := info_parts info_u8'
  have r1 : r < 64 := by omega
  have t1 : ((r : Int) != n % 64) = false := by rw [hn]; simp
  have hl := hr.len
  have HL := Lib.hid hl
  have HZ := Lib.hid hz
  clear hn hl hz
  go_enter Tryd.func49, Tryd.ntmps49
  go_wp2_with (first
    | (at_builtin; refine wpList_append_ints _ rfl (.tmp 19) (.tmp 20) 22 rfl w.heap.size 5 i0 _ 1 .u8 Tryd.underlying22 hi hz0 hz1 hzb rfl _ [] rfl (own_empty w 5 .u8 (Nat.le_refl _)) w.heap.size A r c rest rfl (hr.alloc (Nat.le_refl _) _) (by simp [maxLen]; omega) (by simp; omega) (by simp) ?_; intro v1 w1 hown1 hg1 hat1; have hb1 : Below w.heap.size w w1 := (own_empty w 5 .u8 (Nat.le_refl _)).below_ ((Below.refl _ _).alloc (Nat.le_refl _) _) (by simp) hg1; simp only [List.nil_append] at hown1; clear hg1 hat1)
    | (at_builtin; refine wpList_append_ints _ rfl (.tmp 21) (.tmp 22) 22 rfl w.heap.size 5 i0 _ 1 .u8 Tryd.underlying22 hi hz0 hz1 hzb rfl _ rest rfl (hown1.alloc _) (w1.heap.size + 1) (some ⟨w1.heap.size, 0, none⟩) 1 1 [128] rfl (rd_one w1 5 .u8 128) (by rw [HL.out]; simp [maxLen]; omega) (by rw [HL.out]; omega) (by have := hb1.size; simp; omega) ?_; intro v2 w2 hown2 hg2 hat2; have hb2 : Below w.heap.size w w2 := (hown1.alloc _).below_ (hb1.alloc hb1.size _) (by have := hb1.size; simp; omega) hg2; clear hg2 hat2 hown1))
  go_loopw [6] (fun v wr => ∃ m : Nat, m ≤ z ∧ OwnI wr w.heap.size 5 .u8 v (rest ++ 128 :: List.replicate m 0) ∧ Below w.heap.size w wr) (fun v _ => r + 1 + z - lenV v)
  case atStart => exact ⟨0, by omega, hown2, hb2⟩
  case round =>
    clear hown2 hb2 hb1
    obtain ⟨m, hm, hown, hb⟩ := hrel
    obtain ⟨A1, c1, rfl, hl1, hl2⟩ := hown.form
    have e : (rest ++ 128 :: List.replicate m 0).length = r + 1 + m := by simp [HL.out]; omega
    rw [e] at hown hl1 ⊢
    have HE := Lib.hid e
    clear e
    have HO := Lib.hid hown
    clear hown
    by_cases hlt : m < z
    · have tb : (((r : Int) + 1 + (m : Int)) % 64 != 56) = true := by
        rw [bne_iff_ne]; rcases HZ.out with h | h <;> omega
      go_wp2_with (first
        | (at_builtin; refine wpList_append_ints _ rfl (.tmp 28) (.tmp 29) 22 rfl w.heap.size 5 i0 _ 1 .u8 Tryd.underlying22 hi hz0 hz1 hzb rfl _ (rest ++ 128 :: List.replicate m 0) rfl (HO.out.alloc _) (wr.heap.size + 1) (some ⟨wr.heap.size, 0, none⟩) 1 1 [0] rfl (rd_one wr 5 .u8 0) (by rw [HE.out]; simp [maxLen]; omega) (by rw [HE.out]; omega) (by have := hb.size; simp; omega) ?_; intro v3 w3 hown3 hg3 hat3; have hb3 : Below w.heap.size w w3 := (HO.out.alloc _).below_ (hb.alloc hb.size _) (by have := hb.size; simp; omega) hg3; rw [zeros_snoc] at hown3; clear hg3 hat3))
      go_roundw
      case rel => exact ⟨m + 1, by omega, hown3, hb3⟩
      case measure =>
        obtain ⟨A3, c3, rfl, _, _⟩ := hown3.form
        simp [lenV, HL.out]; omega
    · obtain rfl : m = z := by omega
      have tb : (((r : Int) + 1 + (m : Int)) % 64 != 56) = false := by
        rw [bne_eq_false_iff_eq]; rcases HZ.out with h | h <;> omega
      go_wp2_with (go_at_call 36; (with_reducible refine (HP.out _).mono ?_); rintro e w4 ⟨rfl, hb4, _⟩)
      have BK : Blk (w4.alloc (Obj.cells #[.int .u8 p0, .int .u8 p1, .int .u8 p2, .int .u8 p3, .int .u8 p4, .int .u8 p5, .int .u8 p6, .int .u8 p7] 60)) w4.heap.size 60 ((ps.map (Value.int .u8)).toArray) := by rw [← HPS.out]; exact Blk.new _ _ _
      have HO4 : OwnI (w4.alloc (Obj.cells #[.int .u8 p0, .int .u8 p1, .int .u8 p2, .int .u8 p3, .int .u8 p4, .int .u8 p5, .int .u8 p6, .int .u8 p7] 60)) w.heap.size 5 .u8 (.slice A1 (r + 1 + m) c1) (rest ++ 128 :: List.replicate m 0) := (HO.out.below hb4).alloc _
      have hb5 : Below w.heap.size w (w4.alloc (Obj.cells #[.int .u8 p0, .int .u8 p1, .int .u8 p2, .int .u8 p3, .int .u8 p4, .int .u8 p5, .int .u8 p6, .int .u8 p7] 60)) := by
        have h1 := hb.size
        have h2 := hb4.size
        exact (hb.trans (hb4.mono h1)).alloc (by omega) _
      have hgg : wr.heap.size ≤ w4.heap.size := hb4.size
      have HB4 := Lib.hid hb4
      clear hb4 hm hlt
      obtain ⟨g, hg⟩ : ∃ g, g = w4.heap.size := ⟨_, rfl⟩
      rw [← hg] at BK ⊢
      clear hg
      obtain ⟨base, hbase⟩ : ∃ base, base = w.heap.size := ⟨_, rfl⟩
      go_loopw [6, 8] (fun v i wq => ∃ j : Nat, j ≤ 8 ∧ i = .int .i64 j ∧ OwnI wq w.heap.size 5 .u8 v (rest ++ 128 :: List.replicate m 0 ++ ps.take j) ∧ Blk wq g 60 ((ps.map (Value.int .u8)).toArray) ∧ Below w.heap.size w wq) (fun _ i _ => 8 - (intOf i).toNat)
      case atStart => exact ⟨0, by omega, rfl, by simpa using HO4, BK, hb5⟩
      case round =>
        clear HO4 BK hb5
        obtain ⟨j, hj, rfl, hown, hblk, hbq⟩ := hrel
        have hlen : (rest ++ 128 :: List.replicate m 0 ++ ps.take j).length = r + 1 + m + j := by
          rw [List.length_append, HE.out, List.length_take, HP8.out]; omega
        have HLN := Lib.hid hlen
        clear hlen
        by_cases hlt : j < 8
        · obtain ⟨q, hq⟩ : ∃ q, ps.getD j 0 = q := ⟨_, rfl⟩
          have hc : wr.cell? ⟨g, j, none⟩ = some (.int .u8 q) := by rw [hblk.cell, ← hq]; exact arr_at ps j (by rw [HP8.out]; exact hlt)
          have hsn := take_snoc ps j (by rw [HP8.out]; exact hlt)
          rw [hq] at hsn
          have HSN := Lib.hid hsn
          have HBK := Lib.hid hblk
          have HOW := Lib.hid hown
          clear hq hsn hblk hown hbase
          go_wp2_with (first
            | (at_builtin; refine wpList_append_ints _ rfl (.tmp 38) (.tmp 42) 22 rfl w.heap.size 5 i0 _ 1 .u8 Tryd.underlying22 hi hz0 hz1 hzb rfl _ (rest ++ 128 :: List.replicate m 0 ++ ps.take j) rfl (HOW.out.alloc _) (wr.heap.size + 1) (some ⟨wr.heap.size, 0, none⟩) 1 1 [q] rfl (rd_one wr 5 .u8 q) (by rw [HLN.out]; simp [maxLen]; omega) (by rw [HLN.out]; omega) (by have := hbq.size; simp; omega) ?_; intro v6 w6 hown6 hg6 hat6; have hb6 : Below w.heap.size w w6 := (HOW.out.alloc _).below_ (hbq.alloc hbq.size _) (by have := hbq.size; simp; omega) hg6; have hk6 : Blk w6 g 60 ((ps.map (Value.int .u8)).toArray) := (HBK.out.alloc _).grown (HOW.out.alloc _) (by decide) hg6; rw [List.append_assoc, HSN.out] at hown6; clear hg6 hat6))
          go_roundw
          case rel => exact ⟨j + 1, by omega, by go_num, hown6, hk6, hb6⟩
          case measure => simp [intOf]; omega
        · obtain rfl : j = 8 := by omega
          rw [List.take_of_length_le (by rw [HP8.out]; exact Nat.le_refl _)] at hown
          obtain ⟨A7, c7, rfl, hl7, _⟩ := hown.form
          go_wp2
          go_ret2
          exact ⟨A7, c7, rfl, hown, hbq⟩

/-- How many noughts a rest of r bytes gets. -/
def zer (r : Nat) : Nat := if r ≤ 55 then 55 - r else 119 - r
def tailL (rest : List Int) (n : Int) : List Int := rest ++ 128 :: List.replicate (zer rest.length) 0 ++ put8L (8 * n)
def padL (b : List Int) : List Int := b.take (b.length - b.length % 64) ++ tailL (b.drop (b.length - b.length % 64)) b.length
theorem tailL_len (rest : List Int) (n : Int) : (tailL rest n).length = rest.length + 1 + zer rest.length + 8 := by
  simp [tailL, put8L]; omega
theorem zer_le (r : Nat) : zer r ≤ 119 := by unfold zer; split <;> omega

theorem rtail_c (A : Option Addr) (c r : Nat) (rest : List Int) (n : Int) (w : World) (hr : Rd .u8 w w.heap.size A r rest) (n0 : 0 ≤ n) (n1 : n < 2305843009213693952) (hn : (r : Int) = n % 64) :
    Calls Tryd.prog 49 #[.slice A r c, .int .u64 n] w (RetTail w (tailL rest n)) := by
  have h := rtail_yes A c r (zer r) rest n w hr n0 n1 hn (by unfold zer; split <;> omega) (by unfold zer; split <;> omega)
  have e : tailL rest n = rest ++ 128 :: List.replicate (zer r) 0 ++ put8L (8 * n) := by unfold tailL; rw [hr.len]
  rw [e]
  exact h

theorem rtail_no (A : Option Addr) (c r : Nat) (n : Int) (w : World) (hm : r ≤ 1000000) (n0 : 0 ≤ n) (n1 : n < 18446744073709551616) (hn : 2305843009213693952 ≤ n ∨ (r : Int) ≠ n % 64) :
    Calls Tryd.prog 49 #[.slice A r c, .int .u64 n] w fun e w' => e = .returned (.tuple #[.slice none 0 0, .bool false]) ∧ w = w' := by
  by_cases h : 2305843009213693952 ≤ n
  · have t : decide (2305843009213693952 ≤ n) = true := by simpa using h
    go_enter Tryd.func49, Tryd.ntmps49
    go_wp2
    go_ret2
    exact ⟨rfl, rfl⟩
  · have h3 : (r : Int) ≠ n % 64 := by rcases hn with h1 | h1; exact absurd h1 h; exact h1
    have t1 : ((r : Int) != n % 64) = true := by rw [bne_iff_ne]; exact h3
    clear hn h3
    go_enter Tryd.func49, Tryd.ntmps49
    go_wp2
    go_ret2
    exact ⟨rfl, rfl⟩


def RetB (w : World) (zs : List Int) (e : Ending) (w' : World) : Prop := ∃ A c, e = .returned (.slice A zs.length c) ∧ OwnI w' w.heap.size 5 .u8 (.slice A zs.length c) zs ∧ Below w.heap.size w w'

theorem rpad_c (A : Option Addr) (c L : Nat) (b : List Int) (w : World) (hr : Rd .u8 w w.heap.size A L b) (hc : L ≤ c) (hL : L ≤ 1000000) :
    Calls Tryd.prog 41 #[.slice A L c] w (RetB w (padL b)) := by
  obtain ⟨i0, hi, hz0, hz1, hzb⟩ := info_parts info_u8'
  obtain ⟨N, hN⟩ : ∃ N : Nat, N = L - L % 64 := ⟨_, rfl⟩
  have hN1 : (L : Int) - (L : Int) % 64 = (N : Int) := by omega
  have hN2 : N ≤ L := by omega
  have hN3 : L < N + 64 := by omega
  have hrest := hr.from_ hN2 hc
  have hhead := hr.upto hN2
  have hp : padL b = b.take N ++ tailL (b.drop N) L := by unfold padL; rw [hr.len, ← hN]
  rw [hp]
  have hl := hr.len
  have e1 : (b.take N).length = N := by rw [List.length_take, hl]; omega
  have e2 : (tailL (b.drop N) L).length ≤ L - N + 128 := by
    rw [tailL_len, List.length_drop, hl]
    have := zer_le (L - N)
    omega
  have e3 : ((L - N : Nat) : Int) = (L : Int) % 64 := by omega
  have HE1 := Lib.hid e1
  have HH := Lib.hid hhead
  have E3 := Lib.hid e3
  obtain ⟨tl, htl⟩ : ∃ tl, tailL (b.drop N) L = tl := ⟨_, rfl⟩
  have HTL := Lib.hid htl
  rw [htl] at e2 ⊢
  clear hN hp hl e1 e3 htl hhead hr
  rw [Nat.mul_one] at hrest
  by_cases hcN : c = N
  all_goals
    first | rw [if_pos hcN] at hrest | rw [if_neg hcN] at hrest
    have HR := Lib.hid hrest
    clear hrest
    go_enter Tryd.func41, Tryd.ntmps41
    go_wp2_with (first
      | (go_at_call 49; (with_reducible refine (rtail_c _ _ _ _ _ _ HR.out (by omega) (by omega) E3.out).mono ?_); rw [HTL.out]; rintro e w1 ⟨A1, c1, rfl, ho1, hb1⟩; have HO1 := Lib.hid ho1; clear ho1)
      | (at_builtin; refine wpList_append_ints _ rfl (.tmp 22) (.tmp 25) 22 rfl w.heap.size 5 i0 _ 1 .u8 Tryd.underlying22 hi hz0 hz1 hzb rfl _ [] rfl (own_empty w1 5 .u8 hb1.size) w.heap.size A N _ (b.take N) rfl ((HH.out.below hb1).alloc hb1.size _) (by simp [maxLen]; omega) (by simp; omega) (by have := hb1.size; simp; omega) ?_; intro v2 w2 hown2 hg2 hat2; have hb2 : Below w.heap.size w w2 := (own_empty w1 5 .u8 hb1.size).below_ (hb1.alloc hb1.size _) (by have := hb1.size; simp; omega) hg2; have hb12 : Below w1.heap.size w1 w2 := (own_empty w1 5 .u8 (Nat.le_refl _)).below_ ((Below.refl _ _).alloc (Nat.le_refl _) _) (by simp) hg2; simp only [List.nil_append] at hown2; clear hg2 hat2)
      | (at_builtin; refine wpList_append_ints _ rfl (.tmp 26) (.tmp 27) 22 rfl w.heap.size 5 i0 _ 1 .u8 Tryd.underlying22 hi hz0 hz1 hzb rfl _ (b.take N) rfl hown2 w1.heap.size A1 tl.length c1 tl rfl ((HO1.out.rd rfl).below hb12) (by rw [HE1.out]; simp [maxLen]; omega) (by rw [HE1.out]; omega) hb2.size ?_; intro v3 w3 hown3 hg3 hat3; have hb3 : Below w.heap.size w w3 := hown2.below_ hb2 hb2.size hg3; clear hg3 hat3))
    obtain ⟨A7, c7, rfl, _, _⟩ := hown3.form
    go_ret
    exact ⟨A7, c7, rfl, hown3, hb3⟩
theorem info_a64 : (Tryd.prog.info? 81).map (fun i => (i.zero, i.size, i.bytes)) = some (some (.agg (List.replicate 64 (Value.int .u8 0)).toArray), 64, 64) := by kernel_rfl

/-- The array while it is filled. -/
def fillL (x : List Int) (i : Nat) : List Int := x.take i ++ List.replicate (64 - i) 0
theorem fillL_len (x : List Int) (hx : x.length = 64) (i : Nat) (hi : i ≤ 64) : (fillL x i).length = 64 := by
  simp [fillL, hx]; omega
theorem fillL_full (x : List Int) (hx : x.length = 64) : fillL x 64 = x := by
  simp [fillL, List.take_of_length_le (show x.length ≤ 64 by omega)]
theorem fillL_set (x : List Int) (hx : x.length = 64) (i : Nat) (hi : i < 64) : (fillL x i).set i (x.getD i 0) = fillL x (i + 1) := by
  apply List.ext_getElem?
  intro j
  rw [List.getElem?_set]
  unfold fillL
  simp only [List.length_append, List.length_take, List.length_replicate, hx]
  by_cases h1 : i = j
  · subst h1
    rw [if_pos rfl, if_pos (by omega), List.getElem?_append_left (by simp [hx]; omega), List.getElem?_take, if_pos (by omega)]
    simp [hx, hi]
  · rw [if_neg h1]
    by_cases h2 : j < i
    · rw [List.getElem?_append_left (by simp [hx]; omega), List.getElem?_append_left (by simp [hx]; omega), List.getElem?_take, List.getElem?_take, if_pos h2, if_pos (by omega)]
    · rw [List.getElem?_append_right (by simp [hx]; omega), List.getElem?_append_right (by simp [hx]; omega)]
      simp only [List.length_take, hx, List.getElem?_replicate]
      by_cases h3 : j < 64
      · rw [if_pos (by omega), if_pos (by omega)]
      · rw [if_neg (by omega), if_neg (by omega)]

def RetCut (w : World) (zs : List Int) (q L : Nat) (bs : List (List Int)) (e : Ending) (w' : World) : Prop :=
  ∃ A1 c1 A2 c2, e = .returned (.tuple #[.slice A1 bs.length c1, .slice A2 (L - 64 * q) c2]) ∧ OwnA w' w.heap.size 81 64 .u8 (.slice A1 bs.length c1) bs ∧ Rd .u8 w w.heap.size A2 (L - 64 * q) (zs.drop (64 * q)) ∧ L - 64 * q ≤ c2 ∧ Below w.heap.size w w'

def cutN (zs : List Int) (q : Nat) : List (List Int) := (List.range q).map fun i => (zs.drop (64 * i)).take 64

set_option maxHeartbeats 1000000 in
set_option maxRecDepth 100000 in
theorem rcut_c (A : Option Addr) (c L : Nat) (zs : List Int) (w : World) (hr : Rd .u8 w w.heap.size A L zs) (hc : L ≤ c) (hL : L ≤ 1000000) :
    Calls Tryd.prog 40 #[.slice A L c] w (RetCut w zs (L / 64) L (cutN zs (L / 64))) := by
  obtain ⟨i0, hi, hz0, hz1, hzb⟩ := info_parts info_a64
  obtain ⟨q, hq⟩ : ∃ q, L / 64 = q := ⟨_, rfl⟩
  rw [hq]
  have hq1 : 64 * q ≤ L := by omega
  have hq2 : L < 64 * q + 64 := by omega
  have hlen := Lib.hid hr.len
  clear hq
  go_enter Tryd.func40, Tryd.ntmps40
  go_wp2
  go_loopw [4, 5] (fun v a wr => ∃ j : Nat, j ≤ q ∧ a = .int .i64 (64 * j : Nat) ∧ OwnA wr w.heap.size 81 64 .u8 v (cutN zs j) ∧ Below w.heap.size w wr) (fun _ a _ => L + 64 - (intOf a).toNat)
  case atStart => exact ⟨0, by omega, rfl, ownA_nil _ _ _ _ _, Below.refl _ _⟩
  case round =>
    obtain ⟨wo, rfl⟩ : ∃ wo, wo = wr := ⟨_, rfl⟩
    obtain ⟨j, hj, rfl, hown, hb⟩ := hrel
    by_cases hlt : j < q
    · obtain ⟨b0, off, rfl, hb0, hcell⟩ := hr.at_ (by omega)
      have HC := Lib.hid hcell
      have HOW := Lib.hid hown
      clear hown hr hcell
      have t1 : 64 * j + 64 ≤ L := by omega
      obtain ⟨x, hx⟩ : ∃ x, (zs.drop (64 * j)).take 64 = x := ⟨_, rfl⟩
      have hx64 : x.length = 64 := by rw [← hx, List.length_take, List.length_drop, hlen.out]; omega
      have hxat : ∀ i, i < 64 → zs.getD (64 * j + i) 0 = x.getD i 0 := by
        intro i hi
        rw [← hx]
        simp [hi]
      have HX := Lib.hid hx
      have HX64 := Lib.hid hx64
      have HXA := Lib.hid hxat
      clear hx hx64 hxat
      have hwr := hb.size
      go_wp2
      obtain ⟨W1, hW1⟩ : ∃ W1, wo.alloc (Obj.cells ((fillL x 0).map (Value.int .u8)).toArray 81) = W1 := ⟨_, rfl⟩
      have hBK : Blk W1 wo.heap.size 81 ((fillL x 0).map (Value.int .u8)).toArray := by rw [← hW1]; exact Blk.new _ _ _
      have hB1 : Below wo.heap.size wo W1 := by rw [← hW1]; exact (Below.refl _ _).alloc (Nat.le_refl _) _
      have hlit : wo.alloc (Obj.cells ((fillL x 0).map (Value.int .u8)).toArray 81) = wo.alloc (Obj.cells #[.int .u8 0, .int .u8 0, .int .u8 0, .int .u8 0, .int .u8 0, .int .u8 0, .int .u8 0, .int .u8 0, .int .u8 0, .int .u8 0, .int .u8 0, .int .u8 0, .int .u8 0, .int .u8 0, .int .u8 0, .int .u8 0, .int .u8 0, .int .u8 0, .int .u8 0, .int .u8 0, .int .u8 0, .int .u8 0, .int .u8 0, .int .u8 0, .int .u8 0, .int .u8 0, .int .u8 0, .int .u8 0, .int .u8 0, .int .u8 0, .int .u8 0, .int .u8 0, .int .u8 0, .int .u8 0, .int .u8 0, .int .u8 0, .int .u8 0, .int .u8 0, .int .u8 0, .int .u8 0, .int .u8 0, .int .u8 0, .int .u8 0, .int .u8 0, .int .u8 0, .int .u8 0, .int .u8 0, .int .u8 0, .int .u8 0, .int .u8 0, .int .u8 0, .int .u8 0, .int .u8 0, .int .u8 0, .int .u8 0, .int .u8 0, .int .u8 0, .int .u8 0, .int .u8 0, .int .u8 0, .int .u8 0, .int .u8 0, .int .u8 0, .int .u8 0] 81) := by
        simp [fillL]
      rw [← hlit, hW1]
      clear hlit hW1
      go_loopw [7] (fun a wq => ∃ i : Nat, i ≤ 64 ∧ a = .int .i64 i ∧ Blk wq wo.heap.size 81 ((fillL x i).map (Value.int .u8)).toArray ∧ Below wo.heap.size wo wq) (fun a _ => 64 - (intOf a).toNat)
      case atStart => exact ⟨0, by omega, rfl, hBK, hB1⟩
      case round =>
        clear hBK hB1
        obtain ⟨i, hi64, rfl, hblk, hbq⟩ := hrel
        by_cases hil : i < 64
        · obtain ⟨y, hy⟩ : ∃ y, x.getD i 0 = y := ⟨_, rfl⟩
          have hc1 : wr.cell? ⟨b0, off + (64 * j + i), none⟩ = some (.int .u8 y) := by
            rw [hbq.cell (p := ⟨b0, off + (64 * j + i), none⟩) (by show b0 < _; omega), hb.cell (p := ⟨b0, off + (64 * j + i), none⟩) hb0, HC.out _ (by omega), HXA.out i hil, hy]
          have hc2 : ∃ u, wr.cell? ⟨wo.heap.size, i, none⟩ = some u := by
            rw [hblk.cell]
            exact ⟨_, Array.getElem?_eq_getElem (by simp [fillL_len x HX64.out i hi64]; exact hil)⟩
          obtain ⟨u, hc2⟩ := hc2
          have hf2 := hblk.frozen i
          have hset := fillL_set x HX64.out i hil
          rw [hy] at hset
          have hblk2 : Blk (wr.setCell ⟨wo.heap.size, i, none⟩ (.int .u8 y)) wo.heap.size 81 ((fillL x (i + 1)).map (Value.int .u8)).toArray := by
            have h1 := hblk.set_ i (.int .u8 y)
            rw [← hset, List.map_set]
            simpa using h1
          have hbq2 : Below wo.heap.size wo (wr.setCell ⟨wo.heap.size, i, none⟩ (.int .u8 y)) := hbq.setCell (p := ⟨wo.heap.size, i, none⟩) (Nat.le_refl _) _
          have HK2 := Lib.hid hblk2
          have HQ2 := Lib.hid hbq2
          clear hblk hbq hset hblk2 hbq2 hy
          go_wp2
          go_roundw
          case rel => exact ⟨i + 1, by omega, by go_num, HK2.out, HQ2.out⟩
          case measure => simp [intOf]; omega
        · obtain rfl : i = 64 := by omega
          rw [fillL_full x HX64.out] at hblk
          have hrng := hblk.range
          have hsz : (Tryd.prog.info? 81).map (·.size) = some (x.map (Value.int .u8)).length := by rw [hi]; simp [hz1, HX64.out]
          have HB := Lib.hid hblk
          have HQ := Lib.hid hbq
          have HR := Lib.hid hrng
          have HS := Lib.hid hsz
          clear hblk hbq hrng hsz
          have hxsz : (x.map (Value.int .u8)).toArray.size = 64 := by simp [HX64.out]
          have hnews : ∀ (W : World) j u, (x.map (Value.int .u8))[j]? = some u → (W.alloc (.cells (x.map (Value.int .u8)).toArray 81)).cell? ((⟨W.heap.size, 0, none⟩ : Addr).add j) = some u := by
            intro W j u hu
            rw [add_flat, Nat.zero_add, (Blk.new W 81 (x.map (Value.int .u8)).toArray).cell]
            simpa using hu
          have hnl : (x.map (Value.int .u8)).length = 1 * 64 := by simp [HX64.out]
          have hcl : (cutN zs j).length = j := by simp [cutN]
          have HN := Lib.hid hnews
          have HNL := Lib.hid hnl
          have HCL := Lib.hid hcl
          have HXS := Lib.hid hxsz
          have HO1 := Lib.hid (ints_one .u8 x)
          clear hnews hnl hcl hxsz
          obtain ⟨xs, hxs⟩ : ∃ xs, x.map (Value.int .u8) = xs := ⟨_, rfl⟩
          rw [hxs] at HN HNL HXS HO1 HR HS
          have HXX := Lib.hid hxs
          clear hxs
          go_wp2_with (first
            | (with_reducible refine wpList_load_mid rfl 81 (.tmp 6) rfl wo.heap.size 0 rfl xs _ HR.out Tryd.underlying81 rfl HS.out ?_)
            | (with_reducible refine wpList_build_one rfl 64 81 (.tmp 26) rfl i0 _ Tryd.underlying64 hi hz0 64 hz1 (by decide) (by decide) xs.toArray rfl HXS.out ?_)
            | (at_builtin; refine wpList_append_own_at _ rfl (.tmp 25) (.tmp 27) 64 rfl w.heap.size 81 i0 _ 64 64 Tryd.underlying64 hi hz0 hz1 hzb rfl (by decide) u4 _ _ rfl ((HOW.out.below HQ.out).alloc _).1 ⟨wr.heap.size, 0, none⟩ 1 1 xs rfl HNL.out (HN.out wr) HO1.out (by rw [HCL.out]; simp [maxLen]; omega) (by rw [HCL.out]; omega) (by have := HQ.out.size; simp; omega) ?_; intro v2 w2 hown2 hg2 _ _; have hbz : Below w.heap.size w w2 := ((HOW.out.below HQ.out).alloc _).below_ ((hb.trans (HQ.out.mono hwr)).alloc (by have := HQ.out.size; omega) _) (by have := HQ.out.size; simp; omega) hg2; clear hg2))
          rw [← HXX.out] at hown2
          have hown3 := ((HOW.out.below HQ.out).alloc (.cells xs.toArray 81)).more HX64.out hown2
          rw [show cutN zs j ++ [x] = cutN zs (j + 1) by unfold cutN; rw [List.range_succ, List.map_append, ← HX.out]; rfl] at hown3
          go_roundw
          case rel => exact ⟨j + 1, by omega, by go_num, hown3, hbz⟩
          case measure => simp [intOf]; omega
    · obtain rfl : j = q := by omega
      obtain ⟨A1, c1, rfl, _, _⟩ := hown.form
      have HOW := Lib.hid hown
      have HR := Lib.hid hr
      clear hown hr
      have hfr := HR.out.from_ hq1 hc
      rw [Nat.mul_one] at hfr
      by_cases hcq : c = 64 * j
      all_goals
        first | rw [if_pos hcq] at hfr | rw [if_neg hcq] at hfr
        have HF := Lib.hid hfr
        clear hfr
        go_wp2
        go_region
        go_wp2
        go_ret2
        exact ⟨A1, c1, _, _, rfl, HOW.out, HF.out, by omega, hb.drew⟩


end Go.Proofs.YtmeefnhmkffdlaaDoor
/-
  Hashes as lists of numbers: blocks taken into a state, a state's bytes.
  Conditions: those that each theorem names.
-/
set_option maxRecDepth 100000
namespace Go.Proofs.YtmeefnhmkffdlaaDoor
open Go.ChangeShapes Go.WideShapes Go.ChangeAt Go.RowKit
theorem takeL_len (s b : List Int) (hl : s.length = 8) : (takeL s b).length = 8 := by unfold takeL; rw [sums_len, rounds_len s b hl]
theorem takeL_in (s b : List Int) (hs : WIn s) : WIn (takeL s b) := sums_in _ _ (rounds_in s b hs 64) 8
def takesL (s : List Int) (bs : List (List Int)) : List Int := bs.foldl takeL s
theorem takesL_len (s : List Int) (bs : List (List Int)) (hl : s.length = 8) : (takesL s bs).length = 8 := by
  induction bs generalizing s with
  | nil => exact hl
  | cons b bs ih => exact ih _ (takeL_len s b hl)
theorem takesL_in (s : List Int) (bs : List (List Int)) (hs : WIn s) : WIn (takesL s bs) := by
  induction bs generalizing s with
  | nil => exact hs
  | cons b bs ih => exact ih _ (takeL_in s b hs)
theorem takesL_append (s : List Int) (bs cs : List (List Int)) : takesL s (bs ++ cs) = takesL (takesL s bs) cs := List.foldl_append ..
theorem takesL_next (s : List Int) (bs : List (List Int)) (i : Nat) (hi : i < bs.length) : takesL s (bs.take (i + 1)) = takeL (takesL s (bs.take i)) (bs.getD i []) := by
  rw [List.take_succ_eq_append_getElem hi, takesL_append]
  simp [takesL, hi]
theorem startL_len : startL.length = 8 := rfl
theorem startL_in : WIn startL := by unfold WIn; decide +kernel
/-! ### a state's bytes -/
def hashL (s : List Int) : List Int := backTo s 8
theorem hashL_len (s : List Int) : (hashL s).length = 32 := backTo_len s 8
theorem hashL_in (s : List Int) (hs : WIn s) : ∀ z ∈ hashL s, 0 ≤ z ∧ z < 256 := backTo_in s hs 8
def hashF (l : List Int) (i k : Nat) : List Int := backTo l i ++ ((put4L (l.getD i 0)).take k ++ List.replicate (32 - (4 * i + k)) 0)
theorem hashF_len (l : List Int) (i k : Nat) (hk : k ≤ 4) (h : 4 * i + k ≤ 32) : (hashF l i k).length = 32 := by
  simp [hashF, backTo_len, put4L]; omega
theorem hashF_zero (l : List Int) : hashF l 0 0 = List.replicate 32 0 := by simp [hashF, backTo]
theorem hashF_next (l : List Int) (i : Nat) : hashF l i 4 = hashF l (i + 1) 0 := by
  unfold hashF
  rw [List.take_of_length_le (by simp [put4L]), List.take_zero, List.nil_append, ← List.append_assoc]
  rfl
theorem hashF_full (l : List Int) : hashF l 8 0 = hashL l := by simp [hashF, hashL]
theorem hashF_set (l : List Int) (i k : Nat) (hk : k < 4) (h : i < 8) : (hashF l i k).set (4 * i + k) ((put4L (l.getD i 0)).getD k 0) = hashF l i (k + 1) := by
  obtain ⟨ps, hps⟩ : ∃ ps, put4L (l.getD i 0) = ps := ⟨_, rfl⟩
  have hl : ps.length = 4 := by rw [← hps]; rfl
  unfold hashF
  rw [hps, List.set_append_right _ _ (by rw [backTo_len]; omega), backTo_len, List.set_append_right _ _ (by rw [List.length_take]; omega), List.length_take, show 4 * i + k - 4 * i - min k ps.length = 0 by omega, show 32 - (4 * i + k) = (32 - (4 * i + (k + 1))) + 1 by omega, List.replicate_succ, List.set_cons_zero]
  rw [List.take_succ_eq_append_getElem (by omega), List.append_assoc]
  simp [show k < ps.length by omega]
end Go.Proofs.YtmeefnhmkffdlaaDoor

/-
  Rows of limbs in memory; sums, products and powers of many in plain Lean, refused where one on the way is too great.
  Conditions: those that each theorem names.
-/
import Derived.Test.YtoimepmignlmkaaDoorNatM
set_option maxRecDepth 100000
set_option linter.unusedVariables false
set_option linter.unusedSimpArgs false
namespace Go.Proofs.YtoimepmignlmkaaDoor
open Go.ChangeShapes Go.WideShapes Go.ChangeAt Go.RowKit
structure NRow where
  A : Option Addr
  n : Nat
  c : Nat
  zs : List Int
def NRow.val (r : NRow) : Value := .slice r.A r.n r.c
/-- The slice (A, n, ..) has these rows of limbs. -/
def RdNs (w : World) (B : Nat) (A : Option Addr) (n : Nat) (rs : List NRow) : Prop :=
  rs.length = n ∧ (0 < n → ∃ b off, A = some ⟨b, off, none⟩ ∧ b < B ∧ ∀ (j : Nat) (r : NRow), rs[j]? = some r → w.cell? ⟨b, off + j, none⟩ = some r.val) ∧ ∀ r ∈ rs, Rd .u32 w B r.A r.n r.zs ∧ r.n ≤ r.c ∧ r.c ≤ maxLen ∧ Lim r.zs
theorem RdNs.below {w w' : World} {B n : Nat} {A : Option Addr} {rs : List NRow} (h : RdNs w B A n rs) (hb : Below B w w') : RdNs w' B A n rs :=
  ⟨h.1, fun hn => by
    obtain ⟨b, off, e, hlt, hc⟩ := h.2.1 hn
    exact ⟨b, off, e, hlt, fun j r hj => (hb.cell (p := ⟨b, off + j, none⟩) hlt).trans (hc j r hj)⟩, fun r hr => ⟨(h.2.2 r hr).1.below hb, (h.2.2 r hr).2⟩⟩
theorem RdNs.mono {w : World} {B B' n : Nat} {A : Option Addr} {rs : List NRow} (h : RdNs w B A n rs) (hB : B ≤ B') : RdNs w B' A n rs :=
  ⟨h.1, fun hn => by
    obtain ⟨b, off, e, hlt, hc⟩ := h.2.1 hn
    exact ⟨b, off, e, by omega, hc⟩, fun r hr => ⟨(h.2.2 r hr).1.mono hB, (h.2.2 r hr).2⟩⟩
theorem RdNs.to {w w' : World} {n : Nat} {A : Option Addr} {rs : List NRow} (h : RdNs w w.heap.size A n rs) (hb : Below w.heap.size w w') : RdNs w' w'.heap.size A n rs := (h.below hb).mono hb.size
theorem RdNs.row {w : World} {B n : Nat} {A : Option Addr} {rs : List NRow} (h : RdNs w B A n rs) {j : Nat} (hj : j < n) : ∃ r b off, rs[j]? = some r ∧ A = some ⟨b, off, none⟩ ∧ w.cell? ⟨b, off + j, none⟩ = some (.slice r.A r.n r.c) ∧ Rd .u32 w B r.A r.n r.zs ∧ r.n ≤ r.c ∧ r.c ≤ maxLen ∧ Lim r.zs ∧ rs.drop j = r :: rs.drop (j + 1) := by
  have hl : j < rs.length := by rw [h.1]; exact hj
  obtain ⟨b, off, e, _, hc⟩ := h.2.1 (by omega)
  have hr := h.2.2 _ (List.getElem_mem hl)
  exact ⟨rs[j], b, off, List.getElem?_eq_getElem hl, e, hc j _ (List.getElem?_eq_getElem hl), hr.1, hr.2.1, hr.2.2.1, hr.2.2.2, List.drop_eq_getElem_cons hl⟩
def allN (rs : List NRow) : Bool := rs.all fun r => rightN r.zs
def addGo : Nat → List NRow → Int × List Int
  | s, [] => (0, natL s)
  | s, r :: l => if 256 < (natL (s + valL r.zs)).length then (11, []) else addGo (s + valL r.zs) l
def mulGo : Nat → List NRow → Int × List Int
  | s, [] => (0, natL s)
  | s, r :: l => if 256 < (natL (s * valL r.zs)).length then (11, []) else mulGo (s * valL r.zs) l
def addR (rs : List NRow) : Int × List Int := if allN rs = true then addGo 0 rs else (1, [])
def mulR (rs : List NRow) : Int × List Int := if allN rs = true then mulGo 1 rs else (1, [])
theorem allN_zs {rs rs' : List NRow} (h : rs.map (·.zs) = rs'.map (·.zs)) : allN rs = allN rs' := by
  unfold allN
  have e : ∀ l : List NRow, (l.all fun r => rightN r.zs) = (l.map (·.zs)).all rightN := fun l => by rw [List.all_map]; rfl
  rw [e, e, h]
theorem addGo_zs {rs rs' : List NRow} (h : rs.map (·.zs) = rs'.map (·.zs)) (s : Nat) : addGo s rs = addGo s rs' := by
  induction rs generalizing rs' s with
  | nil => cases rs' with
    | nil => rfl
    | cons r l => cases h
  | cons r l ih => cases rs' with
    | nil => cases h
    | cons r' l' =>
      rw [List.map_cons, List.map_cons] at h
      injection h with h1 h2
      rw [addGo, addGo, h1, ih h2]
theorem mulGo_zs {rs rs' : List NRow} (h : rs.map (·.zs) = rs'.map (·.zs)) (s : Nat) : mulGo s rs = mulGo s rs' := by
  induction rs generalizing rs' s with
  | nil => cases rs' with
    | nil => rfl
    | cons r l => cases h
  | cons r l ih => cases rs' with
    | nil => cases h
    | cons r' l' =>
      rw [List.map_cons, List.map_cons] at h
      injection h with h1 h2
      rw [mulGo, mulGo, h1, ih h2]
theorem addR_zs {rs rs' : List NRow} (h : rs.map (·.zs) = rs'.map (·.zs)) : addR rs = addR rs' := by unfold addR; rw [allN_zs h, addGo_zs h]
theorem mulR_zs {rs rs' : List NRow} (h : rs.map (·.zs) = rs'.map (·.zs)) : mulR rs = mulR rs' := by unfold mulR; rw [allN_zs h, mulGo_zs h]
theorem rightN_len {l : List Int} (h : rightN l = true) : l.length ≤ 256 := by
  unfold rightN at h
  rw [Bool.and_eq_true] at h
  exact of_decide_eq_true h.1
theorem rightN_can {l : List Int} (hl : Lim l) (h : rightN l = true) : l = natL (valL l) := by
  unfold rightN at h
  rw [Bool.and_eq_true] at h
  exact can_eq hl h.2
theorem rightN_natL {n : Nat} (h : (natL n).length ≤ 256) : rightN (natL n) = true := by unfold rightN; rw [decide_eq_true h, natL_ok]; rfl
/-- What hands back an error and limbs, and leaves memory. -/
def RetNE (w : World) (r : Int × List Int) (e : Ending) (w' : World) : Prop := ∃ A c, e = .returned (.tuple #[.slice A r.2.length c, .int .i64 r.1]) ∧ r.2.length ≤ c ∧ c ≤ maxLen ∧ Rd .u32 w' w'.heap.size A r.2.length r.2 ∧ Below w.heap.size w w'
theorem RetNE.nil {w w' : World} (e : Int) (hb : Below w.heap.size w w') : RetNE w (e, []) (.returned (.tuple #[.slice none 0 0, .int .i64 e])) w' := ⟨none, 0, rfl, Nat.le_refl _, by simp [maxLen], Rd.none_, hb⟩
/-! ### powers of two -/
def twoR (k : Int) : Int × List Int := if 0 ≤ k ∧ k ≤ 8191 then (0, natL (2 ^ k.toNat)) else (1, [])
theorem two_limbs (k : Nat) : List.replicate (k / 32) 0 ++ [((2 ^ (k % 32) : Nat) : Int)] = natL (2 ^ k) := by
  have hp : 2 ^ (k % 32) ≤ 2 ^ 31 := Nat.pow_le_pow_right (by omega) (by omega)
  have hp0 : 0 < 2 ^ (k % 32) := Nat.pow_pos (by omega)
  have hl : Lim (List.replicate (k / 32) 0 ++ [((2 ^ (k % 32) : Nat) : Int)]) := (Lim.rep _).app (Lim.cons ⟨by omega, by omega⟩ Lim.nil)
  have hv : valL (List.replicate (k / 32) 0 ++ [((2 ^ (k % 32) : Nat) : Int)]) = 2 ^ k := by
    rw [valL_app, valL_rep, List.length_replicate, Nat.zero_add, show (4294967296 : Nat) = 2 ^ 32 from rfl, ← Nat.pow_mul]
    show 2 ^ (32 * (k / 32)) * (((2 ^ (k % 32) : Nat) : Int).toNat + 4294967296 * 0) = 2 ^ k
    rw [Nat.mul_zero, Nat.add_zero, Int.toNat_natCast, ← Nat.pow_add]
    congr 1
    omega
  have ho : lastOk (List.replicate (k / 32) 0 ++ [((2 ^ (k % 32) : Nat) : Int)]) = true := by
    unfold lastOk
    rw [List.getLast?_append]
    show (((2 ^ (k % 32) : Nat) : Int) != 0) = true
    rw [bne_iff_ne]
    omega
  rw [can_eq hl ho, hv]
def rowOf (zs : List Int) : NRow := ⟨none, 0, 0, zs⟩
def powR (zs : List Int) (k : Int) : Int × List Int := if rightN zs = true ∧ 0 ≤ k ∧ k ≤ 64 then mulR (List.replicate k.toNat (rowOf zs)) else (1, [])
theorem rep_set (q : Nat) (x : Int) : (List.replicate (q + 1) 0).set q x = List.replicate q 0 ++ [x] := by
  rw [List.replicate_succ', List.set_append_right _ _ (by simp)]
  simp
theorem allN_step {rs : List NRow} {r : NRow} {k : Nat} (h : rs.drop k = r :: rs.drop (k + 1)) : allN (rs.drop k) = (rightN r.zs && allN (rs.drop (k + 1))) := by rw [h]; rfl
theorem allN_mem {rs : List NRow} (h : allN rs = true) {r : NRow} (hr : r ∈ rs) : rightN r.zs = true := List.all_eq_true.1 h r hr
theorem addGo_step {rs : List NRow} {r : NRow} {k s : Nat} (h : rs.drop k = r :: rs.drop (k + 1)) : addGo s (rs.drop k) = if 256 < (natL (s + valL r.zs)).length then (11, []) else addGo (s + valL r.zs) (rs.drop (k + 1)) := by rw [h]; rfl
theorem mulGo_step {rs : List NRow} {r : NRow} {k s : Nat} (h : rs.drop k = r :: rs.drop (k + 1)) : mulGo s (rs.drop k) = if 256 < (natL (s * valL r.zs)).length then (11, []) else mulGo (s * valL r.zs) (rs.drop (k + 1)) := by rw [h]; rfl
theorem drop_end {rs : List NRow} {n : Nat} (h : rs.length = n) : rs.drop n = [] := List.drop_eq_nil_of_le (by omega)
theorem natL_one : natL 1 = [1] := by rw [natL_pos (by omega)]; show [((1 % 4294967296 : Nat) : Int)] ++ natL (1 / 4294967296) = [1]; rw [show 1 / 4294967296 = 0 from rfl, natL_zero]; rfl
/-- A value appended to a row of the call's own. -/
theorem wpList_append_val {P : Program} {w : World} {ops : Array Oper} {rest : List Oper} {o : Oper} {a : Act} {Q : Exit → Act → World → Prop} (hgd : o.guard = none) (s x : Operand) (t : TypeId)
    (ho : o.op = .call { callee := .builtin .append, args := #[s, x], argTypes := #[t, t] })
    (base : Nat) (e : TypeId) (i : TypeInfo) (z : Value) (bytes : Nat) (ht : P.underlying t = some (.slice e)) (hi : P.info? e = some i) (hz : i.zero = some z)
    (hsize : i.size = 1) (hby : i.bytes = bytes) (hzs : z.cells.size = 1) (v : Value) (n : Nat) (xs : List Value) (hs : a.eval s = v) (hown : w.ownsRow base e 1 v n xs)
    (g : Nat) (u : Value) (hx : a.eval x = .slice (some ⟨g, 0, none⟩) 1 1) (hc : w.cell? ⟨g, 0, none⟩ = some u) (hu : u.oneCell' = true)
    (h63 : n + 1 ≤ maxLen) (hbytes : (n + 1) * bytes ≤ 140737488355328) (hbase : base ≤ w.heap.size)
    (h : ∀ v' w', w'.ownsRow base e 1 v' (n + 1) (xs ++ [u]) → w.grownBy w' v.ownBlock → wpList P ops Q rest (a.put o.dst v') w') : wpList P ops Q (o :: rest) a w := by
  obtain ⟨v', w', hrun, h2, h3, _, h5⟩ := run_append_own_at (P := P) w base t o.type e i z 1 bytes ht hi hz hsize hby hzs (by omega) v n xs hown ⟨g, 0, none⟩ 1 1 [u] (by simp)
    (fun j q hj => by
      rcases j with _ | j
      · have : q = u := by simpa using hj.symm
        subst this
        simpa [Addr.add] using hc
      · simp at hj) (fun q hq => by rw [List.mem_singleton.1 hq]; exact hu) h63 hbytes hbase
  refine wpList_plain hgd fun K hK => ?_
  unfold Oper.wp execOp
  simp only [ho, resolve, invoke, builtin, Sem.run_bind, Sem.run_pure, Result.andThen_ok, List.map_toArray, List.map_cons, List.map_nil, hs, hx, hrun]
  exact hK _ _ (h v' w' h2 h3)
theorem ownV_below {w w' w0 : World} {base n : Nat} {e : TypeId} {v : Value} {xs : List Value} (h : w.ownsRow base e 1 v n xs) (hb : Below base w0 w) (hbase : base ≤ w.heap.size) (hg : w.grownBy w' v.ownBlock) : Below base w0 w' :=
  hb.grown hg hbase (fun g hk => by
    rcases h.2 with ⟨rfl, _⟩ | ⟨g', cap, cur, rfl, h1, _⟩
    · cases hk
    · have h2 : some g' = some g := hk
      injection h2 with h2
      omega)
theorem ownV_nil (w : World) (base : Nat) (e : TypeId) : w.ownsRow base e 1 (.slice none 0 0) 0 [] := ⟨rfl, .inl ⟨rfl, rfl⟩⟩
theorem info_nat : (Tryd.prog.info? 26).map (fun i => (i.zero, i.size, i.bytes)) = some (some (.slice none 0 0), 1, 24) := by kernel_rfl
/-- A row of the call's own, of slices of limbs, read. -/
theorem rdNs_own {w : World} {base n : Nat} {e : TypeId} {v : Value} {rs : List NRow} (h : w.ownsRow base e 1 v n (rs.map NRow.val)) (hn : rs.length = n) (hr : ∀ r ∈ rs, Rd .u32 w w.heap.size r.A r.n r.zs ∧ r.n ≤ r.c ∧ r.c ≤ maxLen ∧ Lim r.zs) : ∃ A c, v = .slice A n c ∧ n ≤ c ∧ c ≤ maxLen ∧ RdNs w w.heap.size A n rs := by
  rcases h.2 with ⟨rfl, h0⟩ | ⟨g, cap, cur, rfl, _, hk, h1, h2, h3, h4⟩
  · have : n = 0 := by omega
    subst this
    exact ⟨none, 0, rfl, Nat.le_refl _, by simp [maxLen], hn, fun h => absurd h (by omega), hr⟩
  · refine ⟨some ⟨g, 0, none⟩, cap, rfl, h1, h2, hn, fun hpos => ⟨g, 0, rfl, Blk.lt hk, fun j r hj => ?_⟩, hr⟩
    have hjl : j < rs.length := by
      rcases Nat.lt_or_ge j rs.length with h5 | h5
      · exact h5
      · rw [List.getElem?_eq_none h5] at hj; cases hj
    rw [Nat.mul_one] at h4
    have h6 : (cur.toList.take n)[j]? = (rs.map NRow.val)[j]? := by rw [h4]
    rw [List.getElem?_take, if_pos (by omega), List.getElem?_map, hj] at h6
    rw [Nat.zero_add]
    have h7 : w.cell? ⟨g, j, none⟩ = cur[j]? := Blk.cell hk j
    rw [h7, ← Array.getElem?_toList, h6]
    rfl
theorem pow_two_le {i : Nat} (h : i ≤ 31) : 2 ^ i ≤ 2147483648 := Nat.pow_le_pow_right (n := 2) (by omega) h
theorem powR_zs {zs : List Int} {k : Nat} {rs : List NRow} (hr : rightN zs = true) (hk : k ≤ 64) (h : rs.map (·.zs) = List.replicate k zs) : mulR rs = powR zs (k : Int) := by
  unfold powR
  rw [if_pos ⟨hr, by omega, by omega⟩, Int.toNat_natCast]
  exact mulR_zs (by rw [h, List.map_replicate]; rfl)
theorem ext_getDN {l m : List Int} (h : l.length = m.length) (h2 : ∀ j, j < l.length → l.getD j 0 = m.getD j 0) : l = m := by
  apply List.ext_getElem h
  intro j h3 h4
  have h5 := h2 j h3
  simpa [List.getD_eq_getElem?_getD, List.getElem?_eq_getElem h3, List.getElem?_eq_getElem h4] using h5
end Go.Proofs.YtoimepmignlmkaaDoor

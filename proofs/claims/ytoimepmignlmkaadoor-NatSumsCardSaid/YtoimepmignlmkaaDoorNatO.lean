/-
  Rows of the call's own, of natural numbers that are copies, grown one by one.
  Conditions: those that each theorem names.
-/
import Derived.Test.YtoimepmignlmkaaDoorNatL
set_option maxRecDepth 100000
set_option linter.unusedVariables false
set_option linter.unusedSimpArgs false
namespace Go.Proofs.YtoimepmignlmkaaDoor
open Go.ChangeShapes Go.WideShapes Go.ChangeAt Go.RowKit
theorem OwnI.base0 {w : World} {base : Nat} {e : TypeId} {k : IntKind} {v : Value} {zs : List Int} (h : OwnI w base e k v zs) : OwnI w 0 e k v zs := by
  refine ⟨h.1, ?_⟩
  rcases h.2 with h1 | ⟨g, cap, cur, h1, h2, h3⟩
  · exact .inl h1
  · exact .inr ⟨g, cap, cur, h1, Nat.zero_le _, h3⟩
theorem ownV_keep {w w' : World} {base n : Nat} {e : TypeId} {v : Value} {xs : List Value} (h : w.ownsRow base e 1 v n xs) (hb : Below w.heap.size w w') : w'.ownsRow base e 1 v n xs := by
  refine ⟨h.1, ?_⟩
  rcases h.2 with h1 | ⟨g, cap, cur, h1, h2, h3, h4⟩
  · exact .inl h1
  · exact .inr ⟨g, cap, cur, h1, h2, (hb.block g (Blk.lt h3)).trans h3, h4⟩
theorem ownI_grown {w w' : World} {base n b0 : Nat} {e e1 : TypeId} {k : IntKind} {v v2 : Value} {zs : List Int} {xs : List Value} (h : OwnI w b0 e1 k v zs) (ho : w.ownsRow base e 1 v2 n xs) (hne : e ≠ e1) (hg : w.grownBy w' v2.ownBlock) : OwnI w' b0 e1 k v zs := by
  refine ⟨h.1, ?_⟩
  rcases h.2 with h1 | ⟨g, cap, cur, h1, h2, h3, h4⟩
  · exact .inl h1
  · refine .inr ⟨g, cap, cur, h1, h2, (hg.block g (Blk.lt h3) ?_).trans h3, h4⟩
    rcases ho.2 with ⟨rfl, _⟩ | ⟨g', cap', cur', rfl, _, hh, _⟩
    · simp [Value.ownBlock]
    · intro he
      have hgg : g = g' := by simpa [Value.ownBlock] using he
      subst hgg
      rw [hh] at h3
      injection h3 with h3
      injection h3 with _ h3 _
      exact hne h3
/-- append(api.Nat{}, a...): a copy of its own. -/
theorem wpList_nat_copy {ops : Array Oper} {rest : List Oper} {o : Oper} {a : Act} {Q : Exit → Act → World → Prop} (W0 : World) (hgd : o.guard = none) (s x : Operand)
    (ho : o.op = .call { callee := .builtin .append, args := #[s, x], argTypes := #[26, 26] })
    (hs : a.eval s = .slice (some ⟨W0.heap.size, 0, none⟩) 0 0) (A : Option Addr) (m c : Nat) (ys : List Int) (hx : a.eval x = .slice A m c) (hr : Rd .u32 W0 W0.heap.size A m ys) (hm : m ≤ 100000000)
    (h : ∀ A7 c7 w', Below W0.heap.size W0 w' → Hid (OwnI w' 0 45 .u32 (.slice A7 ys.length c7) ys) → Hid (ys.length ≤ c7) → Hid (c7 ≤ maxLen) → wpList Tryd.prog ops Q rest (a.put o.dst (.slice A7 ys.length c7)) w') : wpList Tryd.prog ops Q (o :: rest) a (W0.alloc (.cells #[] 45)) := by
  obtain ⟨ti, hti, hz0, hz1, hzb⟩ := info_parts info_u32d
  have hw : W0.heap.size ≤ (W0.alloc (.cells #[] 45)).heap.size := ((Below.refl _ _).alloc (Nat.le_refl _) (.cells #[] 45)).size
  refine wpList_append_ints _ hgd s x 26 ho W0.heap.size 45 ti _ 4 .u32 Tryd.underlying26 hti hz0 hz1 hzb rfl _ [] hs (own_empty W0 45 .u32 (Nat.le_refl _)) W0.heap.size A m c ys hx (hr.alloc (Nat.le_refl _) _) (by simp [maxLen]; omega) (by simp; omega) hw ?_
  intro v w' hown hg hat
  have hb : Below W0.heap.size W0 w' := (own_empty W0 45 .u32 (Nat.le_refl _)).below_ ((Below.refl _ _).alloc (Nat.le_refl _) _) hw hg
  rw [List.nil_append] at hown
  obtain ⟨A7, c7, rfl, hc7, hm7⟩ := hown.form
  exact h A7 c7 w' hb hown.base0 hc7 hm7
/-- So many rows copied. -/
def CopyI (w0 : World) (base : Nat) (rs : List NRow) (v : Value) (i : Nat) (w : World) : Prop :=
  ∃ ds : List NRow, ds.length = i ∧ w.ownsRow base 26 1 v i (ds.map NRow.val) ∧ (∀ r ∈ ds, OwnI w 0 45 .u32 (.slice r.A r.n r.c) r.zs ∧ Lim r.zs) ∧ ds.map (·.zs) = (rs.take i).map (·.zs) ∧ base ≤ w.heap.size ∧ Below base w0 w
theorem CopyI.start {w0 w : World} {base : Nat} {rs : List NRow} (hb : Below base w0 w) (hs : base ≤ w.heap.size) : CopyI w0 base rs (.slice none 0 0) 0 w := ⟨[], rfl, ownV_nil _ _ _, fun r h => (by cases h), by simp, hs, hb⟩
theorem CopyI.size {w0 w : World} {base i : Nat} {rs : List NRow} {v : Value} (h : CopyI w0 base rs v i w) : base ≤ w.heap.size := by obtain ⟨ds, _, _, _, _, h1, _⟩ := h; exact h1
theorem CopyI.bel {w0 w : World} {base i : Nat} {rs : List NRow} {v : Value} (h : CopyI w0 base rs v i w) : Below base w0 w := by obtain ⟨ds, _, _, _, _, _, h1⟩ := h; exact h1
theorem CopyI.keep {w0 w w' : World} {base i : Nat} {rs : List NRow} {v : Value} (h : CopyI w0 base rs v i w) (hb : Below w.heap.size w w') : CopyI w0 base rs v i w' := by
  obtain ⟨ds, h1, h2, h3, h4, h5, h6⟩ := h
  exact ⟨ds, h1, ownV_keep h2 hb, fun r hr => ⟨(h3 r hr).1.below hb, (h3 r hr).2⟩, h4, Nat.le_trans h5 hb.size, h6.trans (hb.mono h5)⟩
/-- One more: the row's slice appended. -/
theorem CopyI.append {ops : Array Oper} {rest : List Oper} {o : Oper} {a : Act} {Q : Exit → Act → World → Prop} {w0 W : World} {base i : Nat} {rs : List NRow} {v : Value} {r : NRow} {A7 : Option Addr} {c7 : Nat} (hc : CopyI w0 base rs v i W) (hrow : OwnI W 0 45 .u32 (.slice A7 r.zs.length c7) r.zs) (hl : Lim r.zs) (hnext : rs[i]? = some r) (hi : i ≤ 1000) (hgd : o.guard = none) (s x : Operand)
    (ho : o.op = .call { callee := .builtin .append, args := #[s, x], argTypes := #[22, 22] }) (hs : a.eval s = v) (hx : a.eval x = .slice (some ⟨W.heap.size, 0, none⟩) 1 1)
    (h : ∀ v' w', Hid (CopyI w0 base rs v' (i + 1) w') → wpList Tryd.prog ops Q rest (a.put o.dst v') w') : wpList Tryd.prog ops Q (o :: rest) a (W.alloc (.cells #[.slice A7 r.zs.length c7] 26)) := by
  obtain ⟨i0, hi0, hz0, hz1, hzb⟩ := info_parts info_nat
  obtain ⟨ds, h1, h2, h3, h4, h5, h6⟩ := hc
  have hsz : base ≤ (W.alloc (.cells #[.slice A7 r.zs.length c7] 26)).heap.size := Nat.le_trans h5 ((Below.refl W.heap.size W).alloc (Nat.le_refl _) (.cells #[.slice A7 r.zs.length c7] 26)).size
  refine wpList_append_val hgd s x 22 ho base 26 i0 _ 24 Tryd.underlying22 hi0 hz0 hz1 hzb rfl v i (ds.map NRow.val) hs (World.ownsRow.alloc h2 _) W.heap.size (.slice A7 r.zs.length c7) hx (by rw [(Blk.new W 26 #[Value.slice A7 r.zs.length c7]).cell]; rfl) rfl (by simp [maxLen]; omega) (by omega) hsz ?_
  intro v' w' hown hg
  have hb1 : Below base w0 w' := ownV_below (World.ownsRow.alloc h2 _) (h6.alloc h5 _) hsz hg
  refine h v' w' ⟨ds ++ [⟨A7, r.zs.length, c7, r.zs⟩], by rw [List.length_append, h1]; rfl, by rw [List.map_append]; exact hown, fun q hq => ?_, ?_, ?_, hb1⟩
  · rcases List.mem_append.1 hq with hq | hq
    · exact ⟨ownI_grown ((h3 q hq).1.alloc _) (World.ownsRow.alloc h2 _) (by decide) hg, (h3 q hq).2⟩
    · obtain rfl := List.mem_singleton.1 hq
      exact ⟨ownI_grown (hrow.alloc _) (World.ownsRow.alloc h2 _) (by decide) hg, hl⟩
  · rw [List.take_add_one, hnext, List.map_append, List.map_append, h4]
    rfl
  · exact Nat.le_trans hsz hg.size
theorem CopyI.done {w0 w : World} {base n : Nat} {rs : List NRow} {v : Value} (h : CopyI w0 base rs v n w) (hn : rs.length = n) : ∃ A c ds, v = .slice A n c ∧ RdNs w w.heap.size A n ds ∧ ds.map (·.zs) = rs.map (·.zs) := by
  obtain ⟨ds, h1, h2, h3, h4, h5, h6⟩ := h
  obtain ⟨A, c, h7, _, _, h8⟩ := rdNs_own h2 h1 (fun r hr => by
    obtain ⟨A', c', e, e2, e3⟩ := (h3 r hr).1.form
    injection e with e4 e5 e6
    exact ⟨(h3 r hr).1.rd e5.symm, by rw [e5, e6]; exact e2, by rw [e6]; exact e3, (h3 r hr).2⟩)
  refine ⟨A, c, ds, h7, h8, ?_⟩
  rw [h4, ← hn, List.take_length]
theorem RdNs.cell {w : World} {B n b o j : Nat} {rs : List NRow} {r : NRow} (h : RdNs w B (some ⟨b, o, none⟩) n rs) (hj : rs[j]? = some r) (hn : j < n) : w.cell? ⟨b, o + j, none⟩ = some (.slice r.A r.n r.c) := by
  obtain ⟨b', o', e, _, hc⟩ := h.2.1 (by omega)
  injection e with e
  injection e with e1 e2 _
  subst e1 e2
  exact hc j r hj
theorem RdNs.read {w : World} {B n j : Nat} {A : Option Addr} {rs : List NRow} {r : NRow} (h : RdNs w B A n rs) (hj : rs[j]? = some r) : Rd .u32 w B r.A r.n r.zs := (h.2.2 r (List.mem_of_getElem? hj)).1
/-- Two slices of rows, and the facts of limbs. -/
def SumS (w0 : World) (A2 A : Option Addr) (n : Nat) (ds rs : List NRow) (l : List (Option Addr × List Int)) (w : World) : Prop := RdNs w w.heap.size A2 n ds ∧ RdNs w w.heap.size A n rs ∧ NFx w0 l w
theorem SumS.below {w0 w w' : World} {A2 A : Option Addr} {n : Nat} {ds rs : List NRow} {l : List (Option Addr × List Int)} (h : SumS w0 A2 A n ds rs l w) (hb : Below w.heap.size w w') : SumS w0 A2 A n ds rs l w' := ⟨h.1.to hb, h.2.1.to hb, h.2.2.below hb⟩
theorem SumS.drew {w0 w : World} {A2 A : Option Addr} {n : Nat} {ds rs : List NRow} {l : List (Option Addr × List Int)} (h : SumS w0 A2 A n ds rs l w) : SumS w0 A2 A n ds rs l w.drew := h.below (Below.refl _ _).drew
theorem SumS.own {w0 w : World} {A2 A : Option Addr} {n : Nat} {ds rs : List NRow} {l : List (Option Addr × List Int)} (h : SumS w0 A2 A n ds rs l w) : RdNs w w.heap.size A2 n ds := h.1
theorem SumS.arg {w0 w : World} {A2 A : Option Addr} {n : Nat} {ds rs : List NRow} {l : List (Option Addr × List Int)} (h : SumS w0 A2 A n ds rs l w) : RdNs w w.heap.size A n rs := h.2.1
theorem SumS.fx {w0 w : World} {A2 A : Option Addr} {n : Nat} {ds rs : List NRow} {l : List (Option Addr × List Int)} (h : SumS w0 A2 A n ds rs l w) : NFx w0 l w := h.2.2
theorem SumS.add {w0 w w' : World} {A2 A A3 : Option Addr} {n : Nat} {zs : List Int} {ds rs : List NRow} {l : List (Option Addr × List Int)} (h : SumS w0 A2 A n ds rs l w) (hb : Below w.heap.size w w') (hr : Rd .u32 w' w'.heap.size A3 zs.length zs) : SumS w0 A2 A n ds rs ((A3, zs) :: l) w' := ⟨h.1.to hb, h.2.1.to hb, h.2.2.add hb hr⟩
end Go.Proofs.YtoimepmignlmkaaDoor

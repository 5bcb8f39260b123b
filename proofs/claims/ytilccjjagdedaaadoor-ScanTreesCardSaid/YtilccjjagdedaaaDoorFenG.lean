/-
  Rows of the call's own that are worked on number by number, beside a block of a tree.
  Conditions: those that each theorem names; the library's table of trailing zeros is as the program's text lays it.
-/
import Derived.Test.YtilccjjagdedaaaDoorFenD
import Derived.Test.YtilccjjagdedaaaDoorFenE
import Derived.Test.YtilccjjagdedaaaDoorFenT
set_option maxRecDepth 100000
set_option linter.unusedVariables false
set_option linter.unusedSimpArgs false
namespace Go.Proofs.YtilccjjagdedaaaDoor
open Go.ChangeShapes Go.WideShapes Go.ChangeAt Go.RowKit
theorem OwnI.lower {w : World} {b b' : Nat} {e : TypeId} {k : IntKind} {v : Value} {zs : List Int} (h : OwnI w b e k v zs) (hb : b' ≤ b) : OwnI w b' e k v zs := by
  refine ⟨h.1, ?_⟩
  rcases h.2 with h1 | ⟨g, cap, cur, h1, h2, h3⟩
  · exact .inl h1
  · exact .inr ⟨g, cap, cur, h1, by omega, h3⟩
structure BldS (w0 : World) (g2 : Nat) (v2 : Value) (g7 c7 n : Nat) (ts : List Int) (w : World) : Prop where
  b2 : Blk w g2 26 #[v2]
  own : OwnI w w0.heap.size 22 .u64 (.slice (some ⟨g7, 0, none⟩) n c7) ts
  bel : Below w0.heap.size w0 w
  len : ts.length = n
  le7 : w0.heap.size ≤ g7
section
variable {w0 w w' : World} {g2 g7 c7 n j : Nat} {v2 v : Value} {ts : List Int} {x z : Int} {cur : Array Value}
theorem BldS.below (h : BldS w0 g2 v2 g7 c7 n ts w) (hb : Below w.heap.size w w') : BldS w0 g2 v2 g7 c7 n ts w' := ⟨h.b2.below hb h.b2.lt, h.own.below hb, h.bel.trans (hb.mono h.bel.size), h.len, h.le7⟩
theorem BldS.drew (h : BldS w0 g2 v2 g7 c7 n ts w) : BldS w0 g2 v2 g7 c7 n ts w.drew := h.below (Below.refl _ _).drew
theorem BldS.rd (h : BldS w0 g2 v2 g7 c7 n ts w) : Rd .u64 w w.heap.size (some ⟨g7, 0, none⟩) n ts := OwnI.rd h.own h.len
theorem BldS.cell (h : BldS w0 g2 v2 g7 c7 n ts w) (hj : j < n) (hx : ts.getD j 0 = x) : w.cell? ⟨g7, j, none⟩ = some (.int .u64 x) := by
  obtain ⟨g, off, e, -, hc⟩ := h.rd.at_ (by omega)
  injection e with e
  injection e with e1 e2
  subst e1 e2
  have := hc j hj
  rw [hx, Nat.zero_add] at this
  exact this
theorem BldS.blk (h : BldS w0 g2 v2 g7 c7 n ts w) (hn : 0 < n) : ∃ cur, Hid (Blk w g7 22 cur) ∧ Hid (∀ j, j < n → j < cur.size) := by
  obtain ⟨g, cur, e, -, hk, hs, -⟩ := h.own.whole (by rw [h.len]; exact hn)
  injection e with e
  injection e with e1 e2
  subst e1
  exact ⟨cur, Lib.hid hk, Lib.hid (fun j hj => by rw [h.len] at hs; omega)⟩
theorem BldS.ne (h : BldS w0 g2 v2 g7 c7 n ts w) (hk : Blk w g7 22 cur) : g2 ≠ g7 := by
  rintro rfl
  have h1 := h.b2
  unfold Blk at h1 hk
  rw [h1] at hk
  injection hk with hk
  injection hk with _ h5
  exact absurd h5 (by decide)
theorem BldS.put (h : BldS w0 g2 v2 g7 c7 n ts w) (hk : Blk w g7 22 cur) (hj : j < n) (hk2 : Blk w' g7 22 (cur.setIfInBounds j (.int .u64 z))) (ho : Only g7 w w') : BldS w0 g2 v2 g7 c7 n (ts.set j z) w' := by
  obtain ⟨h1, h2⟩ := own_set h.own hk (by rw [h.len]; exact hj) h.bel h.le7 hk2 ho
  exact ⟨h.b2.only ho (h.ne hk), h1, h2, by rw [List.length_set]; exact h.len, h.le7⟩
theorem BldS.frz (h : BldS w0 g2 v2 g7 c7 n ts w) (hn : 0 < n) : w.frozen? ⟨g7, j, none⟩ = false := by
  obtain ⟨cur, hk, -⟩ := h.blk hn
  exact hk.out.frozen j
/-- A copy, just made. -/
theorem bld_start {l : List Int} {w1 : World} (hk : Blk w1 g2 26 #[v2]) (hb : Below w0.heap.size w0 w1) (ho : OwnI w w1.heap.size 22 .u64 v l) (hb2 : Below w1.heap.size w1 w) (hn : l.length = n) (h0 : 0 < n) :
    ∃ g7 c7, v = .slice (some ⟨g7, 0, none⟩) n c7 ∧ Hid (BldS w0 g2 v2 g7 c7 n l w) ∧ Hid (n ≤ c7) ∧ Hid (c7 ≤ maxLen) := by
  obtain ⟨A, c, rfl, h1, h2⟩ := ho.form
  obtain ⟨g, cur, rfl, h3, -⟩ := ho.whole (by omega)
  rw [hn] at h1 ho
  have hs := hb.size
  exact ⟨g, c, by rw [hn], Lib.hid ⟨hk.below hb2 hk.lt, ho.lower hs, hb.trans (hb2.mono hs), hn, by omega⟩, Lib.hid h1, Lib.hid h2⟩
end
def PAnyT (_ : World) : Prop := True
theorem getD_of {l : List Int} {j : Nat} {x : Int} (h : l.getD j 0 = x) : l.getD j 0 = x := h
end Go.Proofs.YtilccjjagdedaaaDoor

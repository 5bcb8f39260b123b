/-
  What the landed alias's pair does to a table that is built: one step of the document's, in memory.
  Conditions: there are small and large places; the table is one that is built of at most 1000 stakes.
-/
import Derived.Test.YtkgajcifanobnaaAlsF
set_option maxRecDepth 100000
set_option linter.unusedVariables false
set_option linter.unusedSimpArgs false
namespace Go.Proofs.Ytkgajcifanobnaa
open Go.ChangeShapes Go.WideShapes Go.ChangeAt Go.RowKit
set_option maxHeartbeats 8000000 in
theorem q14pair_c {w0 : World} {g gH gC n : Nat} {T : Int} (l : List Int) (s : AB) (hI : ABI T l s) (hlen : l.length = n) (hn : n ≤ 1000) (T0 : 0 ≤ T) (T1 : T < 9223372036854775808) (hg1 : s.sm.length ≠ 0) (hg2 : s.lg.length ≠ 0) (vS vL : Value) (w : World) (hY : LayS w0 g gH gC n T s.has s.ts vS vL s.sm s.lg w) :
    Calls Try.prog 27 #[.pointer (some ⟨g, 0, none⟩)] w fun e w' => e = .returned (.tuple #[]) ∧ ∃ vS' vL', LayS w0 g gH gC n T (abStep T s).has (abStep T s).ts vS' vL' (abStep T s).sm (abStep T s).lg w' := by
  obtain ⟨ia, ib, ha, hb, a1, b1, x0, x1, y0, y1, q1, q2, q3, q4⟩ := hI.tops hg1 hg2
  have hnd := hI.nd_len
  obtain ⟨gS, cS, rfl, hcS, hmS, e1⟩ := hY.oS.last hg1
  obtain ⟨gL, cL, rfl, hcL, hmL, e2⟩ := hY.oL.last hg2
  obtain ⟨p, hp⟩ : ∃ p, s.sm.length = p + 1 := ⟨s.sm.length - 1, by omega⟩
  obtain ⟨q, hq⟩ : ∃ p, s.lg.length = p + 1 := ⟨s.lg.length - 1, by omega⟩
  have HHL : Hid (s.has.length = n) := Lib.hid (by rw [hI.hn, hlen])
  have HTL : Hid (s.ts.length = n) := Lib.hid (by rw [hI.tn, hlen])
  rw [hp] at q3 hY
  rw [hq] at q4 hY
  rw [Nat.add_sub_cancel] at q3 q4
  obtain ⟨H, hH⟩ : ∃ H, s.has = H := ⟨_, rfl⟩
  obtain ⟨C, hC⟩ : ∃ H, s.ts = H := ⟨_, rfl⟩
  obtain ⟨sm, hsm⟩ : ∃ H, s.sm = H := ⟨_, rfl⟩
  obtain ⟨lg, hlg⟩ : ∃ H, s.lg = H := ⟨_, rfl⟩
  obtain ⟨x, hx⟩ : ∃ x, H.getD ia 0 = x := ⟨_, rfl⟩
  obtain ⟨y, hy⟩ : ∃ x, H.getD ib 0 = x := ⟨_, rfl⟩
  rw [hH] at HHL x0 x1 y0 y1 q1 q2 q3 q4 hY
  rw [hC] at HTL q2 hY
  rw [hsm] at q3 hp ha hY hnd
  rw [hlg] at q4 hq hb hY hnd
  rw [hx] at x0 x1 q1 q2 q3 q4
  rw [hy] at y0 y1 q1 q3 q4
  obtain ⟨z, hz⟩ : ∃ z, y - (T - x) = z := ⟨_, rfl⟩
  rw [hz] at q1 q3 q4
  have z0 : 0 ≤ z := by omega
  have z1 : z < 9223372036854775808 := by omega
  have hgz : (H.set ib z).getD ib 0 = z := by rw [getD_setT (by rw [HHL.out]; omega), if_pos rfl]
  have HSO : Hid (∀ vS vL W, LayS w0 g gH gC n T (H.set ib z) (C.set ia (x, (ib : Int))) vS vL (sm.take p) (lg.take q) W → Calls Try.prog 38 #[.pointer (some ⟨g, 0, none⟩), .int .i64 (ib : Int)] W fun e w' => e = .returned (.tuple #[]) ∧ ∃ vS' vL', LayS w0 g gH gC n T (abStep T s).has (abStep T s).ts vS' vL' (abStep T s).sm (abStep T s).lg w') := Lib.hid (fun vS vL W h => by
    have h2 := q14sort_c ib (by omega) hn (by rw [List.length_set]; exact HHL.out) (by rw [hgz]; exact z0) (by rw [hgz]; omega) T0 (by omega) (by rw [List.length_take]; omega) (by rw [List.length_take]; omega) W h
    rw [hgz] at h2
    rw [q1, q2, q3, q4]
    exact h2)
  have HA := Lib.hid ha
  have HB := Lib.hid hb
  have HPP := Lib.hid hp
  have HQQ := Lib.hid hq
  have HP6 := Lib.hid (show p < 1000000 by omega)
  have HQ6 := Lib.hid (show q < 1000000 by omega)
  have HAN := Lib.hid (show ia < n by omega)
  have HBN := Lib.hid (show ib < n by omega)
  have i2 : (0 : Int) ≤ (ia : Int) := by omega
  have i3 : (0 : Int) ≤ (ib : Int) := by omega
  have i6 : (ia : Int) < (n : Int) := by omega
  have i7 : (ib : Int) < (n : Int) := by omega
  have i8 : (n : Int) ≤ 1000 := by omega
  have w1 : IntKind.u64.wrap (T - x) = T - x := by rw [IntKind.wrap_u64]; omega
  have w2 : IntKind.u64.wrap (y - (T - x)) = z := by rw [hz, IntKind.wrap_u64]; omega
  have W1 := Lib.hid w1
  have W2 := Lib.hid w2
  have HYH := Lib.hid hy
  have HXH := Lib.hid hx
  have HY0 := hY.drew
  clear hY hp hq hH hC hsm hlg hx hy hz ha hb hI q1 q2 q3 q4 hgz hg1 hg2 hcS hmS hcL hmL e1 e2 a1 b1 w1 w2 hnd hlen hn
  go_enter Try.func27, Try.ntmps27
  go_wp2
  refine wp_region_held_drew (S := (fun _ => True)) (by kernel_rfl) trivial (fun hH => ?_)
  refine wpAnyH_letter #[false, false, false, false, false, false, false, false, false, false] (by kernel_rfl) (fun _ _ d _ _ h => by cases d <;> exact h) (fun QL HQ1 HQ2 => ?_)
  refine held_v 0 (some 4) rfl (by kernel_rfl) (by kernel_rfl) (by kernel_rfl) (by kernel_rfl) (fun c a v w h => HQ2.out c a _ v w h) (by kernel_rfl) (.pointer (some ⟨g, 0, none⟩)) (fun W h => by kernel_rfl) trivial ?_
  try simp only [Act.put, List.setIfInBounds_toArray, List.set_cons_zero, List.set_cons_succ]
  refine held_v 1 (some 5) rfl (by kernel_rfl) (by kernel_rfl) (by kernel_rfl) (by kernel_rfl) (fun c a v w h => HQ2.out c a _ v w h) (by kernel_rfl) (.pointer (some ⟨g, 0, none⟩)) (fun W h => by go_simp) trivial ?_
  try simp only [Act.put, List.setIfInBounds_toArray, List.set_cons_zero, List.set_cons_succ]
  refine held_v 2 (some 6) rfl (by kernel_rfl) (by kernel_rfl) (by kernel_rfl) (by kernel_rfl) (fun c a v w h => HQ2.out c a _ v w h) (by kernel_rfl) (.pointer (some ⟨g, 3, none⟩)) (fun W h => by kernel_rfl) trivial ?_
  try simp only [Act.put, List.setIfInBounds_toArray, List.set_cons_zero, List.set_cons_succ]
  refine held_v 4 (some 8) rfl (by kernel_rfl) (by kernel_rfl) (by kernel_rfl) (by kernel_rfl) (fun c a v w h => HQ2.out c a _ v w h) (by kernel_rfl) (.pointer (some ⟨g, 0, none⟩)) (fun W h => by kernel_rfl) trivial ?_
  try simp only [Act.put, List.setIfInBounds_toArray, List.set_cons_zero, List.set_cons_succ]
  refine held_v 5 (some 9) rfl (by kernel_rfl) (by kernel_rfl) (by kernel_rfl) (by kernel_rfl) (fun c a v w h => HQ2.out c a _ v w h) (by kernel_rfl) (.pointer (some ⟨g, 0, none⟩)) (fun W h => by go_simp) trivial ?_
  try simp only [Act.put, List.setIfInBounds_toArray, List.set_cons_zero, List.set_cons_succ]
  refine held_v 6 (some 10) rfl (by kernel_rfl) (by kernel_rfl) (by kernel_rfl) (by kernel_rfl) (fun c a v w h => HQ2.out c a _ v w h) (by kernel_rfl) (.pointer (some ⟨g, 4, none⟩)) (fun W h => by kernel_rfl) trivial ?_
  try simp only [Act.put, List.setIfInBounds_toArray, List.set_cons_zero, List.set_cons_succ]
  refine wpAnyH_ready (rs := [3]) (by kernel_rfl) (by decide) ?_
  refine AllReadyH.cons rfl (fun K hK => ?_) AllReadyH.nil
  refine step_call (some 7) (by kernel_rfl) (by kernel_rfl) _ _ (by kernel_rfl) _ (LayS.lastS HA.out HPP.out HP6.out HY0) ?_
  rintro e w41 ⟨rfl, trw41⟩
  refine ⟨_, rfl, ?_⟩
  refine hK.out _ _ trivial (fun _ => ?_)
  clear hK K
  try simp only [Act.put, List.setIfInBounds_toArray, List.set_cons_zero, List.set_cons_succ]
  refine wpAnyH_ready (rs := [7]) (by kernel_rfl) (by decide) ?_
  refine AllReadyH.cons rfl (fun K hK => ?_) AllReadyH.nil
  refine step_call (some 11) (by kernel_rfl) (by kernel_rfl) _ _ (by kernel_rfl) _ (LayS.lastL HB.out HQQ.out HQ6.out trw41) ?_
  rintro e w42 ⟨rfl, trw42⟩
  refine ⟨_, rfl, ?_⟩
  refine hK.out _ _ trivial (fun _ => ?_)
  clear hK K
  try simp only [Act.put, List.setIfInBounds_toArray, List.set_cons_zero, List.set_cons_succ]
  refine held_v 8 (some 2) rfl (by kernel_rfl) (by kernel_rfl) (by kernel_rfl) (by kernel_rfl) (fun c a v w h => HQ2.out c a _ v w h) (by kernel_rfl) (.int .i64 (ia : Int)) (fun W h => by kernel_rfl) trivial ?_
  try simp only [Act.put, List.setIfInBounds_toArray, List.set_cons_zero, List.set_cons_succ]
  refine held_v 9 (some 3) rfl (by kernel_rfl) (by kernel_rfl) (by kernel_rfl) (by kernel_rfl) (fun c a v w h => HQ2.out c a _ v w h) (by kernel_rfl) (.int .i64 (ib : Int)) (fun W h => by kernel_rfl) trivial ?_
  try simp only [Act.put, List.setIfInBounds_toArray, List.set_cons_zero, List.set_cons_succ]
  refine wpAnyH_done (by kernel_rfl) ?_ _
  refine HQ1.out _ _ ?_
  clear HQ1 HQ2
  have HY1 := (trw42).drew
  go_wp2
  refine wp_region_held_drew (S := (LayR g gH gC n T H (.slice (some ⟨gS, 0, none⟩) p cS) (.slice (some ⟨gL, 0, none⟩) q cL))) (by kernel_rfl) HY1.toR (fun hH => ?_)
  refine wpAnyH_letter #[false, false, false, false, false, false, false, false, false, false, false, false, false, false, false, false, false] (by kernel_rfl) (fun _ _ d _ _ h => by cases d <;> exact h) (fun QL HQ1 HQ2 => ?_)
  refine held_v 0 (some 12) rfl (by kernel_rfl) (by kernel_rfl) (by kernel_rfl) (by kernel_rfl) (fun c a v w h => HQ2.out c a _ v w h) (by kernel_rfl) (.pointer (some ⟨g, 0, none⟩)) (fun W h => by kernel_rfl) HY1.toR ?_
  try simp only [Act.put, List.setIfInBounds_toArray, List.set_cons_zero, List.set_cons_succ]
  refine held_v 1 (some 13) rfl (by kernel_rfl) (by kernel_rfl) (by kernel_rfl) (by kernel_rfl) (fun c a v w h => HQ2.out c a _ v w h) (by kernel_rfl) (.pointer (some ⟨g, 0, none⟩)) (fun W h => by go_simp) HY1.toR ?_
  try simp only [Act.put, List.setIfInBounds_toArray, List.set_cons_zero, List.set_cons_succ]
  refine held_v 2 (some 14) rfl (by kernel_rfl) (by kernel_rfl) (by kernel_rfl) (by kernel_rfl) (fun c a v w h => HQ2.out c a _ v w h) (by kernel_rfl) (.pointer (some ⟨g, 0, none⟩)) (fun W h => by kernel_rfl) HY1.toR ?_
  try simp only [Act.put, List.setIfInBounds_toArray, List.set_cons_zero, List.set_cons_succ]
  refine held_v 3 (some 15) rfl (by kernel_rfl) (by kernel_rfl) (by kernel_rfl) (by kernel_rfl) (fun c a v w h => HQ2.out c a _ v w h) (by kernel_rfl) (.pointer (some ⟨g, 1, none⟩)) (fun W h => by kernel_rfl) HY1.toR ?_
  try simp only [Act.put, List.setIfInBounds_toArray, List.set_cons_zero, List.set_cons_succ]
  refine held_v 4 (some 16) rfl (by kernel_rfl) (by kernel_rfl) (by kernel_rfl) (by kernel_rfl) (fun c a v w h => HQ2.out c a _ v w h) (by kernel_rfl) (.slice (some ⟨gC, 0, none⟩) n n) (fun W h => by have p := h.c1; go_simp) HY1.toR ?_
  try simp only [Act.put, List.setIfInBounds_toArray, List.set_cons_zero, List.set_cons_succ]
  refine held_v 5 (some 17) rfl (by kernel_rfl) (by kernel_rfl) (by kernel_rfl) (by kernel_rfl) (fun c a v w h => HQ2.out c a _ v w h) (by kernel_rfl) (.int .i64 (ia : Int)) (fun W h => by kernel_rfl) HY1.toR ?_
  try simp only [Act.put, List.setIfInBounds_toArray, List.set_cons_zero, List.set_cons_succ]
  refine held_v 6 (some 18) rfl (by kernel_rfl) (by kernel_rfl) (by kernel_rfl) (by kernel_rfl) (fun c a v w h => HQ2.out c a _ v w h) (by kernel_rfl) (.pointer (some ⟨g, 0, none⟩)) (fun W h => by kernel_rfl) HY1.toR ?_
  try simp only [Act.put, List.setIfInBounds_toArray, List.set_cons_zero, List.set_cons_succ]
  refine held_v 7 (some 19) rfl (by kernel_rfl) (by kernel_rfl) (by kernel_rfl) (by kernel_rfl) (fun c a v w h => HQ2.out c a _ v w h) (by kernel_rfl) (.pointer (some ⟨g, 0, none⟩)) (fun W h => by go_simp) HY1.toR ?_
  try simp only [Act.put, List.setIfInBounds_toArray, List.set_cons_zero, List.set_cons_succ]
  refine held_v 8 (some 20) rfl (by kernel_rfl) (by kernel_rfl) (by kernel_rfl) (by kernel_rfl) (fun c a v w h => HQ2.out c a _ v w h) (by kernel_rfl) (.pointer (some ⟨g, 2, none⟩)) (fun W h => by kernel_rfl) HY1.toR ?_
  try simp only [Act.put, List.setIfInBounds_toArray, List.set_cons_zero, List.set_cons_succ]
  refine held_v 9 (some 21) rfl (by kernel_rfl) (by kernel_rfl) (by kernel_rfl) (by kernel_rfl) (fun c a v w h => HQ2.out c a _ v w h) (by kernel_rfl) (.slice (some ⟨gH, 0, none⟩) n n) (fun W h => by have p := h.c2; go_simp) HY1.toR ?_
  try simp only [Act.put, List.setIfInBounds_toArray, List.set_cons_zero, List.set_cons_succ]
  refine held_v 10 (some 22) rfl (by kernel_rfl) (by kernel_rfl) (by kernel_rfl) (by kernel_rfl) (fun c a v w h => HQ2.out c a _ v w h) (by kernel_rfl) (.int .i64 (ia : Int)) (fun W h => by kernel_rfl) HY1.toR ?_
  try simp only [Act.put, List.setIfInBounds_toArray, List.set_cons_zero, List.set_cons_succ]
  refine held_v 11 (some 23) rfl (by kernel_rfl) (by kernel_rfl) (by kernel_rfl) (by kernel_rfl) (fun c a v w h => HQ2.out c a _ v w h) (by kernel_rfl) (.pointer (some ⟨gH, ia, none⟩)) (fun W h => by go_simp) HY1.toR ?_
  try simp only [Act.put, List.setIfInBounds_toArray, List.set_cons_zero, List.set_cons_succ]
  refine held_v 12 (some 24) rfl (by kernel_rfl) (by kernel_rfl) (by kernel_rfl) (by kernel_rfl) (fun c a v w h => HQ2.out c a _ v w h) (by kernel_rfl) (.int .u64 x) (fun W h => by have p := h.atH (k := ia) (by rw [HHL.out]; exact HAN.out); rw [HXH.out] at p; go_simp) HY1.toR ?_
  try simp only [Act.put, List.setIfInBounds_toArray, List.set_cons_zero, List.set_cons_succ]
  refine held_v 13 (some 25) rfl (by kernel_rfl) (by kernel_rfl) (by kernel_rfl) (by kernel_rfl) (fun c a v w h => HQ2.out c a _ v w h) (by kernel_rfl) (.int .i64 (ib : Int)) (fun W h => by kernel_rfl) HY1.toR ?_
  try simp only [Act.put, List.setIfInBounds_toArray, List.set_cons_zero, List.set_cons_succ]
  refine held_v 14 (some 26) rfl (by kernel_rfl) (by kernel_rfl) (by kernel_rfl) (by kernel_rfl) (fun c a v w h => HQ2.out c a _ v w h) (by kernel_rfl) (.agg #[.int .u64 x, .int .i64 (ib : Int)]) (fun W h => by go_simp) HY1.toR ?_
  try simp only [Act.put, List.setIfInBounds_toArray, List.set_cons_zero, List.set_cons_succ]
  refine held_v 15 (some 27) rfl (by kernel_rfl) (by kernel_rfl) (by kernel_rfl) (by kernel_rfl) (fun c a v w h => HQ2.out c a _ v w h) (by kernel_rfl) (.pointer (some ⟨gC, ia * 2, none⟩)) (fun W h => by go_simp) HY1.toR ?_
  try simp only [Act.put, List.setIfInBounds_toArray, List.set_cons_zero, List.set_cons_succ]
  refine wpAnyH_ready (rs := [16]) (by kernel_rfl) (by decide) ?_
  refine AllReadyH.cons rfl (fun K hK => ?_) AllReadyH.nil
  refine step_store_mid none (by kernel_rfl) (by kernel_rfl) 44 (.tmp 27) (.tmp 26) rfl gC (ia * 2) (by kernel_rfl) 44 _ #[.int .u64 x, .int .i64 (ib : Int)] HY1.bC (by kernel_rfl) (by have := HTL.out; rw [cellsA_size, this]; have := HAN.out; simp; omega) (size_cellF _ _) (cell_onesF _ _) ?_
  intro w101 hkw101 how101
  have trw101 := HY1.putC hkw101.out how101
  refine hK.out _ _ trw101.toR (fun hw101 => ?_)
  clear hK K
  try simp only [Act.put, List.setIfInBounds_toArray, List.set_cons_zero, List.set_cons_succ]
  refine wpAnyH_done (by kernel_rfl) ?_ _
  refine HQ1.out _ _ ?_
  clear HQ1 HQ2
  have HY2 := (trw101).drew
  go_wp2
  refine wp_region_held_drew (S := (LayG g gH gC n T (.slice (some ⟨gS, 0, none⟩) p cS) (.slice (some ⟨gL, 0, none⟩) q cL))) (by kernel_rfl) HY2.toG (fun hH => ?_)
  refine wpAnyH_letter #[false, false, false, false, false, false, false, false, false, false, false, false, false, false, false, false, false, false, false, false, false, false, false] (by kernel_rfl) (fun _ _ d _ _ h => by cases d <;> exact h) (fun QL HQ1 HQ2 => ?_)
  refine held_v 0 (some 28) rfl (by kernel_rfl) (by kernel_rfl) (by kernel_rfl) (by kernel_rfl) (fun c a v w h => HQ2.out c a _ v w h) (by kernel_rfl) (.pointer (some ⟨g, 0, none⟩)) (fun W h => by kernel_rfl) HY2.toG ?_
  try simp only [Act.put, List.setIfInBounds_toArray, List.set_cons_zero, List.set_cons_succ]
  refine held_v 1 (some 29) rfl (by kernel_rfl) (by kernel_rfl) (by kernel_rfl) (by kernel_rfl) (fun c a v w h => HQ2.out c a _ v w h) (by kernel_rfl) (.pointer (some ⟨g, 0, none⟩)) (fun W h => by go_simp) HY2.toG ?_
  try simp only [Act.put, List.setIfInBounds_toArray, List.set_cons_zero, List.set_cons_succ]
  refine held_v 2 (some 30) rfl (by kernel_rfl) (by kernel_rfl) (by kernel_rfl) (by kernel_rfl) (fun c a v w h => HQ2.out c a _ v w h) (by kernel_rfl) (.pointer (some ⟨g, 2, none⟩)) (fun W h => by kernel_rfl) HY2.toG ?_
  try simp only [Act.put, List.setIfInBounds_toArray, List.set_cons_zero, List.set_cons_succ]
  refine held_v 3 (some 31) rfl (by kernel_rfl) (by kernel_rfl) (by kernel_rfl) (by kernel_rfl) (fun c a v w h => HQ2.out c a _ v w h) (by kernel_rfl) (.slice (some ⟨gH, 0, none⟩) n n) (fun W h => by have p := h.c2; go_simp) HY2.toG ?_
  try simp only [Act.put, List.setIfInBounds_toArray, List.set_cons_zero, List.set_cons_succ]
  refine held_v 4 (some 32) rfl (by kernel_rfl) (by kernel_rfl) (by kernel_rfl) (by kernel_rfl) (fun c a v w h => HQ2.out c a _ v w h) (by kernel_rfl) (.int .i64 (ib : Int)) (fun W h => by kernel_rfl) HY2.toG ?_
  try simp only [Act.put, List.setIfInBounds_toArray, List.set_cons_zero, List.set_cons_succ]
  refine held_v 5 (some 33) rfl (by kernel_rfl) (by kernel_rfl) (by kernel_rfl) (by kernel_rfl) (fun c a v w h => HQ2.out c a _ v w h) (by kernel_rfl) (.pointer (some ⟨gH, ib, none⟩)) (fun W h => by go_simp) HY2.toG ?_
  try simp only [Act.put, List.setIfInBounds_toArray, List.set_cons_zero, List.set_cons_succ]
  refine held_v 7 (some 35) rfl (by kernel_rfl) (by kernel_rfl) (by kernel_rfl) (by kernel_rfl) (fun c a v w h => HQ2.out c a _ v w h) (by kernel_rfl) (.pointer (some ⟨g, 0, none⟩)) (fun W h => by kernel_rfl) HY2.toG ?_
  try simp only [Act.put, List.setIfInBounds_toArray, List.set_cons_zero, List.set_cons_succ]
  refine held_v 8 (some 36) rfl (by kernel_rfl) (by kernel_rfl) (by kernel_rfl) (by kernel_rfl) (fun c a v w h => HQ2.out c a _ v w h) (by kernel_rfl) (.pointer (some ⟨g, 0, none⟩)) (fun W h => by go_simp) HY2.toG ?_
  try simp only [Act.put, List.setIfInBounds_toArray, List.set_cons_zero, List.set_cons_succ]
  refine held_v 9 (some 37) rfl (by kernel_rfl) (by kernel_rfl) (by kernel_rfl) (by kernel_rfl) (fun c a v w h => HQ2.out c a _ v w h) (by kernel_rfl) (.pointer (some ⟨g, 0, none⟩)) (fun W h => by kernel_rfl) HY2.toG ?_
  try simp only [Act.put, List.setIfInBounds_toArray, List.set_cons_zero, List.set_cons_succ]
  refine held_v 10 (some 38) rfl (by kernel_rfl) (by kernel_rfl) (by kernel_rfl) (by kernel_rfl) (fun c a v w h => HQ2.out c a _ v w h) (by kernel_rfl) (.pointer (some ⟨g, 0, none⟩)) (fun W h => by kernel_rfl) HY2.toG ?_
  try simp only [Act.put, List.setIfInBounds_toArray, List.set_cons_zero, List.set_cons_succ]
  refine held_v 11 (some 39) rfl (by kernel_rfl) (by kernel_rfl) (by kernel_rfl) (by kernel_rfl) (fun c a v w h => HQ2.out c a _ v w h) (by kernel_rfl) (.int .u64 T) (fun W h => by have p := h.c0; go_simp) HY2.toG ?_
  try simp only [Act.put, List.setIfInBounds_toArray, List.set_cons_zero, List.set_cons_succ]
  refine held_v 12 (some 40) rfl (by kernel_rfl) (by kernel_rfl) (by kernel_rfl) (by kernel_rfl) (fun c a v w h => HQ2.out c a _ v w h) (by kernel_rfl) (.pointer (some ⟨g, 0, none⟩)) (fun W h => by kernel_rfl) HY2.toG ?_
  try simp only [Act.put, List.setIfInBounds_toArray, List.set_cons_zero, List.set_cons_succ]
  refine held_v 13 (some 41) rfl (by kernel_rfl) (by kernel_rfl) (by kernel_rfl) (by kernel_rfl) (fun c a v w h => HQ2.out c a _ v w h) (by kernel_rfl) (.pointer (some ⟨g, 0, none⟩)) (fun W h => by go_simp) HY2.toG ?_
  try simp only [Act.put, List.setIfInBounds_toArray, List.set_cons_zero, List.set_cons_succ]
  refine held_v 14 (some 42) rfl (by kernel_rfl) (by kernel_rfl) (by kernel_rfl) (by kernel_rfl) (fun c a v w h => HQ2.out c a _ v w h) (by kernel_rfl) (.pointer (some ⟨g, 2, none⟩)) (fun W h => by kernel_rfl) HY2.toG ?_
  try simp only [Act.put, List.setIfInBounds_toArray, List.set_cons_zero, List.set_cons_succ]
  refine held_v 15 (some 43) rfl (by kernel_rfl) (by kernel_rfl) (by kernel_rfl) (by kernel_rfl) (fun c a v w h => HQ2.out c a _ v w h) (by kernel_rfl) (.slice (some ⟨gH, 0, none⟩) n n) (fun W h => by have p := h.c2; go_simp) HY2.toG ?_
  try simp only [Act.put, List.setIfInBounds_toArray, List.set_cons_zero, List.set_cons_succ]
  refine held_v 16 (some 44) rfl (by kernel_rfl) (by kernel_rfl) (by kernel_rfl) (by kernel_rfl) (fun c a v w h => HQ2.out c a _ v w h) (by kernel_rfl) (.int .i64 (ia : Int)) (fun W h => by kernel_rfl) HY2.toG ?_
  try simp only [Act.put, List.setIfInBounds_toArray, List.set_cons_zero, List.set_cons_succ]
  refine held_v 17 (some 45) rfl (by kernel_rfl) (by kernel_rfl) (by kernel_rfl) (by kernel_rfl) (fun c a v w h => HQ2.out c a _ v w h) (by kernel_rfl) (.pointer (some ⟨gH, ia, none⟩)) (fun W h => by go_simp) HY2.toG ?_
  try simp only [Act.put, List.setIfInBounds_toArray, List.set_cons_zero, List.set_cons_succ]
  refine wpAnyH_ready (rs := [6, 18]) (by kernel_rfl) (by decide) ?_
  refine AllReadyH.cons rfl (fun K hK => ?_) (AllReadyH.cons rfl (fun K hK => ?_) AllReadyH.nil)
  · refine step_v (some 34) (by kernel_rfl) (by kernel_rfl) (.int .u64 y) (by have p := (HY2).atH (k := ib) (by rw [HHL.out]; exact HBN.out); rw [HYH.out] at p; go_simp) ?_
    refine hK.out _ _ HY2.toG (fun _ => ?_)
    clear hK K
    try simp only [Act.put, List.setIfInBounds_toArray, List.set_cons_zero, List.set_cons_succ]
    refine wpAnyH_ready (rs := [18]) (by kernel_rfl) (by decide) ?_
    refine AllReadyH.cons rfl (fun K hK => ?_) AllReadyH.nil
    refine step_v (some 46) (by kernel_rfl) (by kernel_rfl) (.int .u64 x) (by have p := (HY2).atH (k := ia) (by rw [HHL.out]; exact HAN.out); rw [HXH.out] at p; go_simp) ?_
    refine hK.out _ _ HY2.toG (fun _ => ?_)
    clear hK K
    try simp only [Act.put, List.setIfInBounds_toArray, List.set_cons_zero, List.set_cons_succ]
    refine held_v 19 (some 47) rfl (by kernel_rfl) (by kernel_rfl) (by kernel_rfl) (by kernel_rfl) (fun c a v w h => HQ2.out c a _ v w h) (by kernel_rfl) (.int .u64 (T - x)) (fun W h => by have p := W1.out; go_simp) HY2.toG ?_
    try simp only [Act.put, List.setIfInBounds_toArray, List.set_cons_zero, List.set_cons_succ]
    refine held_v 20 (some 48) rfl (by kernel_rfl) (by kernel_rfl) (by kernel_rfl) (by kernel_rfl) (fun c a v w h => HQ2.out c a _ v w h) (by kernel_rfl) (.int .u64 z) (fun W h => by have p := W2.out; go_simp) HY2.toG ?_
    try simp only [Act.put, List.setIfInBounds_toArray, List.set_cons_zero, List.set_cons_succ]
    refine held_v 21 (some 49) rfl (by kernel_rfl) (by kernel_rfl) (by kernel_rfl) (by kernel_rfl) (fun c a v w h => HQ2.out c a _ v w h) (by kernel_rfl) (.pointer (some ⟨gH, ib, none⟩)) (fun W h => by go_simp) HY2.toG ?_
    try simp only [Act.put, List.setIfInBounds_toArray, List.set_cons_zero, List.set_cons_succ]
    refine wpAnyH_ready (rs := [22]) (by kernel_rfl) (by decide) ?_
    refine AllReadyH.cons rfl (fun K hK => ?_) AllReadyH.nil
    refine step_store_cell none (by kernel_rfl) (by kernel_rfl) 24 (.tmp 49) (.tmp 48) rfl gH ib (by kernel_rfl) 24 _ HY2.bH (.int .u64 z) (by kernel_rfl) (by have := HHL.out; rw [intsA_size, this]; exact HBN.out) size_u64F rfl rfl ?_
    intro w203 hkw203 how203
    have trw203 := HY2.putH hkw203.out how203
    refine hK.out _ _ trw203.toG (fun hw203 => ?_)
    clear hK K
    try simp only [Act.put, List.setIfInBounds_toArray, List.set_cons_zero, List.set_cons_succ]
    refine wpAnyH_done (by kernel_rfl) ?_ _
    refine HQ1.out _ _ ?_
    clear HQ1 HQ2
    have HY3 := Lib.hid trw203
    go_wp2_with (first
      | (go_at_call 38; (with_reducible refine (HSO.out _ _ _ HY3.out).mono ?_); rintro e w9 ⟨rfl, hfin⟩; have HF := Lib.hid hfin))
    go_end0
    exact ⟨rfl, HF.out⟩
  · refine step_v (some 46) (by kernel_rfl) (by kernel_rfl) (.int .u64 x) (by have p := (HY2).atH (k := ia) (by rw [HHL.out]; exact HAN.out); rw [HXH.out] at p; go_simp) ?_
    refine hK.out _ _ HY2.toG (fun _ => ?_)
    clear hK K
    try simp only [Act.put, List.setIfInBounds_toArray, List.set_cons_zero, List.set_cons_succ]
    refine held_v 19 (some 47) rfl (by kernel_rfl) (by kernel_rfl) (by kernel_rfl) (by kernel_rfl) (fun c a v w h => HQ2.out c a _ v w h) (by kernel_rfl) (.int .u64 (T - x)) (fun W h => by have p := W1.out; go_simp) HY2.toG ?_
    try simp only [Act.put, List.setIfInBounds_toArray, List.set_cons_zero, List.set_cons_succ]
    refine wpAnyH_ready (rs := [6]) (by kernel_rfl) (by decide) ?_
    refine AllReadyH.cons rfl (fun K hK => ?_) AllReadyH.nil
    refine step_v (some 34) (by kernel_rfl) (by kernel_rfl) (.int .u64 y) (by have p := (HY2).atH (k := ib) (by rw [HHL.out]; exact HBN.out); rw [HYH.out] at p; go_simp) ?_
    refine hK.out _ _ HY2.toG (fun _ => ?_)
    clear hK K
    try simp only [Act.put, List.setIfInBounds_toArray, List.set_cons_zero, List.set_cons_succ]
    refine held_v 20 (some 48) rfl (by kernel_rfl) (by kernel_rfl) (by kernel_rfl) (by kernel_rfl) (fun c a v w h => HQ2.out c a _ v w h) (by kernel_rfl) (.int .u64 z) (fun W h => by have p := W2.out; go_simp) HY2.toG ?_
    try simp only [Act.put, List.setIfInBounds_toArray, List.set_cons_zero, List.set_cons_succ]
    refine held_v 21 (some 49) rfl (by kernel_rfl) (by kernel_rfl) (by kernel_rfl) (by kernel_rfl) (fun c a v w h => HQ2.out c a _ v w h) (by kernel_rfl) (.pointer (some ⟨gH, ib, none⟩)) (fun W h => by go_simp) HY2.toG ?_
    try simp only [Act.put, List.setIfInBounds_toArray, List.set_cons_zero, List.set_cons_succ]
    refine wpAnyH_ready (rs := [22]) (by kernel_rfl) (by decide) ?_
    refine AllReadyH.cons rfl (fun K hK => ?_) AllReadyH.nil
    refine step_store_cell none (by kernel_rfl) (by kernel_rfl) 24 (.tmp 49) (.tmp 48) rfl gH ib (by kernel_rfl) 24 _ HY2.bH (.int .u64 z) (by kernel_rfl) (by have := HHL.out; rw [intsA_size, this]; exact HBN.out) size_u64F rfl rfl ?_
    intro w206 hkw206 how206
    have trw206 := HY2.putH hkw206.out how206
    refine hK.out _ _ trw206.toG (fun hw206 => ?_)
    clear hK K
    try simp only [Act.put, List.setIfInBounds_toArray, List.set_cons_zero, List.set_cons_succ]
    refine wpAnyH_done (by kernel_rfl) ?_ _
    refine HQ1.out _ _ ?_
    clear HQ1 HQ2
    have HY3 := Lib.hid trw206
    go_wp2_with (first
      | (go_at_call 38; (with_reducible refine (HSO.out _ _ _ HY3.out).mono ?_); rintro e w9 ⟨rfl, hfin⟩; have HF := Lib.hid hfin))
    go_end0
    exact ⟨rfl, HF.out⟩
end Go.Proofs.Ytkgajcifanobnaa

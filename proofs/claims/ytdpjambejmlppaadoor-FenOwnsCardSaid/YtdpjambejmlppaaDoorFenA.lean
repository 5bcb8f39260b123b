/-
  What the landed Grow and Same return; with them, all of the landed fen.
  Conditions: those that each theorem names; the library's table of trailing zeros is as the program's text lays it.
-/
import Derived.Test.YtdpjambejmlppaaDoorFenH
import Derived.Test.YtdpjambejmlppaaDoorFenI
import Derived.Test.YtdpjambejmlppaaDoorFenJ
import Derived.Test.YtdpjambejmlppaaDoorFenF
set_option maxRecDepth 100000
set_option linter.unusedVariables false
set_option linter.unusedSimpArgs false
namespace Go.Proofs.YtdpjambejmlppaaDoor
open Go.ChangeShapes Go.WideShapes Go.ChangeAt Go.RowKit
theorem wpList_bld1 {ops : Array Oper} {rest : List Oper} {o : Oper} {a : Act} {w : World} {Q : Exit → Act → World → Prop} (hw : Region.wanted o (yielded ops a.tmps) = true) (p : Operand) (ho : o.op = .buildSlice 22 1 #[(0, p)]) (x : Int) (hp : a.eval p = .int .u64 x)
    (h : ∀ g w', Rd .u64 w' w'.heap.size (some ⟨g, 0, none⟩) 1 [x] → Below w.heap.size w w' → wpList Tryd.prog ops Q rest (a.put o.dst (.slice (some ⟨g, 0, none⟩) 1 1)) w') : wpList Tryd.prog ops Q (o :: rest) a w :=
  wpList_run_gd hw _ _ (exec_build_u64 p x ho hp) (h _ _ (rd_one1 w _ .u64 x) ((Below.refl _ _).alloc (Nat.le_refl _) _))
theorem run_build_ss (A B : Option Addr) (n c m d : Nat) (w : World) : (Instr.buildSlice 68 2 #[(0, .slice A n c), (1, .slice B m d)]).run Tryd.prog w = .ok (.slice (some ⟨w.heap.size, 0, none⟩) 2 2) (w.alloc (.cells #[.slice A n c, .slice B m d] 22)) := by
  go_simp
theorem wpList_bldSS {ops : Array Oper} {rest : List Oper} {o : Oper} {a : Act} {w : World} {Q : Exit → Act → World → Prop} (hw : Region.wanted o (yielded ops a.tmps) = true) (p q : Operand) (ho : o.op = .buildSlice 68 2 #[(0, p), (1, q)]) (A : Option Addr) (n c : Nat) (B : Option Addr) (m d : Nat) (hp : a.eval p = .slice A n c) (hq : a.eval q = .slice B m d)
    (h : ∀ g w', Blk w' g 22 #[.slice A n c, .slice B m d] → Below w.heap.size w w' → wpList Tryd.prog ops Q rest (a.put o.dst (.slice (some ⟨g, 0, none⟩) 2 2)) w') : wpList Tryd.prog ops Q (o :: rest) a w := by
  refine wpList_run_gd hw (.slice (some ⟨w.heap.size, 0, none⟩) 2 2) (w.alloc (.cells #[.slice A n c, .slice B m d] 22)) ?_ (h _ _ (Blk.new w _ _) ((Below.refl _ _).alloc (Nat.le_refl _) _))
  have hr1 := run_build_ss A B n c m d w
  unfold execOp
  simp only [ho, List.map_toArray, List.map_cons, List.map_nil, hp, hq]
  change ((Instr.buildSlice 68 2 #[(0, .slice A n c), (1, .slice B m d)]) >>= fun v => pure (Next.value v)).run Tryd.prog w = _
  simp only [Sem.run_bind, hr1, Result.andThen_ok, Sem.run_pure]
theorem Fx.addBlk {l : List Fact} {w w' : World} {g : Nat} {t : TypeId} {cs : Array Value} (h : Fx l w) (hb : Below w.heap.size w w') (hk : Blk w' g t cs) : Fx (.blk g t cs :: l) w' := ⟨hk, h.below hb⟩
theorem two_c0 {w : World} {g : Nat} {t : TypeId} {u v : Value} (h : Blk w g t #[u, v]) : w.cell? ⟨g, 0, none⟩ = some u := by rw [h.cell]; rfl
theorem two_c1 {w : World} {g : Nat} {t : TypeId} {u v : Value} (h : Blk w g t #[u, v]) : w.cell? ⟨g, 1, none⟩ = some v := by rw [h.cell]; rfl
set_option maxHeartbeats 8000000 in
theorem q11grow_c (l : List Int) (hz : ∀ z ∈ l, 0 ≤ z) (hs : sumL l < 9223372036854775808) (hl : l.length ≤ 1048576) (A : Option Addr) (n c : Nat) (hn : l.length = n) (hc : n ≤ c) (hcm : c ≤ maxLen) (v : Int) (v0 : 0 ≤ v) (v1 : v < 18446744073709551616) (w : World) (hT : TzT w) (hrd : Rd .u64 w w.heap.size A n (treeL l)) : Calls Tryd.prog 21 #[.agg #[.slice A n c], .int .u64 v] w (RetFen w (treeL (grwL l v)) (grwE l v)) := by
  have HTT := Lib.hid hT
  have htot := fun W hW h => q11total_c l hz hs hl A n c hn hc hcm W hW h
  have HEMP : Hid (∀ er w', grwE l v = er ∧ grwL l v = [] → Below w.heap.size w w' → RetFen w (treeL (grwL l v)) (grwE l v) (.returned (.tuple #[.agg #[.slice none 0 0], .int .i64 er])) w') := Lib.hid (fun er w' h hb => by rw [h.1, h.2]; exact ⟨none, 0, rfl, rd_nil _ _ _ _, Nat.le_refl _, by simp [maxLen], hb⟩)
  have hlen := fun W => q11len_c A n c W
  obtain ⟨N, hN⟩ : ∃ N : Int, (n : Int) = N := ⟨_, rfl⟩
  rw [hN] at hlen
  have HLEN := Lib.hid hlen
  clear hlen
  by_cases hm : 1048576 ≤ n
  · have hm2 : (1048576 : Int) ≤ N := by omega
    have HE := Lib.hid (grw_many (l := l) v (by omega))
    have HR := Lib.hid hrd
    clear hrd hz hs hl hn hc hcm hT hN htot hm
    go_enter Tryd.func21, Tryd.ntmps21
    go_wp2_with (first
      | (with_reducible refine at_any ?_; refine at_dst 2 rfl ?_; refine wpList_box_any rfl 25 (.tmp 0) rfl #[.slice A n c] rfl ?_; intro w1 hk1 hs1 hb1; have G1 := Lib.hid (fx_start hk1.out HR.out hb1); have HGR := Lib.hid (Below.size hb1); clear hk1 hs1 hb1)
      | (with_reducible refine at_any ?_; refine at_dst 4 rfl ?_; refine wpList_alloc_any rfl 25 rfl #[.slice none 0 0] zero_fen ?_; intro w2 hk2 hs2 hb2; have G2 := Lib.hid (Fx.newB G1.out hk2.out hb2); clear hk2 hs2 hb2)
      | (with_reducible refine at_any ?_; refine at_dst 10 rfl ?_; refine wpList_load_fen (by kernel_rfl) (.tmp 2) rfl w.heap.size rfl 25 (.slice A n c) (Fx.b1 G2.out) ?_)
      | (go_at_call 15; (with_reducible refine (HLEN.out _).mono ?_); rintro e w3 ⟨rfl, hb3⟩; have G3 := Lib.hid (Fx.below G2.out hb3); clear hb3)
      | (with_reducible refine at_any ?_; refine at_dst 13 rfl ?_; refine wpList_val rfl (.agg #[.slice none 0 0]) (build_fen0 _ rfl) ?_)
      | (with_reducible refine at_any ?_; refine at_store 4 rfl ?_; refine wpList_store_any rfl 25 (.tmp 4) (.tmp 13) rfl w1.heap.size rfl 25 #[.slice none 0 0] #[.slice none 0 0] (Fx.b0 G3.out) rfl (size1 _ _) (sizedF _) (fen_ones _ _ _) ?_; intro w9 hk9 hs9 hb9 ho9; have HB9 := Lib.hid ((Fx.e3 G3.out).trans (hb9 _ HGR.out)); have HK9 := Lib.hid hk9.out; clear hb9)
      | (refine bodyPost_any2 4 5 25 rfl w1.heap.size rfl (.int .i64 14) rfl 25 #[.slice none 0 0] HK9.out _ Tryd.underlying25 rfl (sizedF _) rfl ?_))
    exact HEMP.out _ _ HE.out HB9.out
  have hm2 : N < 1048576 := by omega
  have hm0 : 0 ≤ N := by omega
  have hsv : sumL (l ++ [v]) = sumL l + v := by rw [sumL_app]; show sumL l + (v + 0) = _; omega
  have hs0 := sumL_nn hz
  have hadd := fun W => q9add_c (sumL l) v hs0 (by omega) v0 v1 W
  by_cases hs2 : sumL (l ++ [v]) < 9223372036854775808
  · obtain ⟨b1, b2⟩ := addV_ok (a := sumL l) (b := v) (by omega)
    have HE := Lib.hid (grw_ok (l := l) (v := v) (by omega) hs2)
    have hf0 := fun W hW h => q11first_c l hz hs A n c hn (by omega) n (Nat.le_refl _) W hW h
    have hlow := fun W hW => q11low_c (n + 1) (by omega) (by omega) W hW
    have hlp := lowN_pos (n := n + 1) (by omega)
    have hll := lowN_le (n + 1)
    have hf1 := fun W hW h => q11first_c l hz hs A n c hn (by omega) (n + 1 - lowN (n + 1)) (by omega) W hW h
    have hsn := treeL_snoc l v
    rw [hn] at hsn
    have hmo := preL_mono hz (show n + 1 - lowN (n + 1) ≤ n by omega)
    have hnn := preL_nn hz (n + 1 - lowN (n + 1))
    have hpn : preL l n = sumL l := by rw [← hn, preL_all]
    obtain ⟨lo, hlo⟩ : ∃ z, lowN (n + 1) = z := ⟨_, rfl⟩
    rw [hlo] at hf1 hlow hlp hll hsn hmo hnn
    obtain ⟨r, hr⟩ : ∃ z, n + 1 - lo = z := ⟨_, rfl⟩
    rw [hr] at hf1 hsn hmo hnn
    obtain ⟨p1, hp1⟩ : ∃ z, preL l r = z := ⟨_, rfl⟩
    rw [hp1] at hf1 hsn hmo hnn
    obtain ⟨p0, hp0⟩ : ∃ z, preL l n = z := ⟨_, rfl⟩
    rw [hp0] at hf0 hsn hmo hpn
    have hd : p0 - p1 + v = v + p0 - p1 := by omega
    rw [← hd] at hsn
    obtain ⟨d, hdd⟩ : ∃ z, p0 - p1 = z := ⟨_, rfl⟩
    have HDW : Hid (IntKind.u64.wrap (p0 - p1) = d) := Lib.hid (by rw [IntKind.wrap_u64]; omega)
    rw [hdd] at hsn
    obtain ⟨x, hx⟩ : ∃ z, d + v = z := ⟨_, rfl⟩
    have HXW : Hid (IntKind.u64.wrap (d + v) = x) := Lib.hid (by rw [IntKind.wrap_u64]; omega)
    rw [hx] at hsn
    have hN1 : ((n + 1 : Nat) : Int) = N + 1 := by omega
    rw [hN] at hf0
    rw [hN1] at hlow
    have HLOW := Lib.hid hlow
    have HNW2 : Hid (IntKind.i64.wrap N = N) := Lib.hid (by rw [IntKind.wrap_i64]; omega)
    have HNW : Hid (IntKind.i64.wrap (N + 1 - 1) = N) := Lib.hid (by rw [IntKind.wrap_i64]; omega)
    have HRW : Hid (IntKind.i64.wrap (N + 1 - (lo : Int)) = (r : Int)) := Lib.hid (by rw [IntKind.wrap_i64]; omega)
    rw [b2] at hadd
    obtain ⟨sm, hsm⟩ : ∃ z, sumL l = z := ⟨_, rfl⟩
    rw [hsm] at htot hadd
    obtain ⟨av, hav⟩ : ∃ z9 : Int, addV sm v = z9 := ⟨_, rfl⟩
    rw [hav] at hadd
    have HAD := Lib.hid hadd
    obtain ⟨ts, hts⟩ : ∃ z, treeL l = z := ⟨_, rfl⟩
    have HLN : ts.length = n := by rw [← hts, treeL_len, hn]
    rw [hts] at htot hf0 hf1 hrd hsn
    have HTO := Lib.hid htot
    have HF0 := Lib.hid hf0
    have HF1 := Lib.hid hf1
    have HR := Lib.hid hrd
    have HN2 : Hid (n ≤ 1048576) := Lib.hid (by omega)
    obtain ⟨n1, hn1⟩ : ∃ z, (ts ++ [x]).length = z := ⟨_, rfl⟩
    have HL1 := Lib.hid hn1
    have HEND : Hid (∀ A' c' w', Rd .u64 w' w'.heap.size A' n1 (ts ++ [x]) → n1 ≤ c' → c' ≤ maxLen → Below w.heap.size w w' → RetFen w (treeL (grwL l v)) (grwE l v) (.returned (.tuple #[.agg #[.slice A' n1 c'], .int .i64 0])) w') := Lib.hid (fun A' c' w' h1 h2 h3 h4 => by rw [HE.out.1, HE.out.2, hsn]; refine ⟨A', c', by rw [hn1], ?_⟩; rw [hn1]; exact ⟨h1, h2, h3, h4⟩)
    clear hrd hz hs hl hn hc hcm hT hN htot hadd b1 b2 hf0 hf1 hlow hlp hll hsn hmo hnn hpn hlo hr hp1 hp0 hd hdd hx hN1 hsm hav hts HLN hs2 HE HEMP hm hsv hs0 hn1
    go_enter Tryd.func21, Tryd.ntmps21
    go_wp2_with (first
      | (with_reducible refine at_any ?_; refine at_dst 2 rfl ?_; refine wpList_box_any rfl 25 (.tmp 0) rfl #[.slice A n c] rfl ?_; intro w1 hk1 hs1 hb1; have G1 := Lib.hid (fx_start hk1.out HR.out hb1); have HGR := Lib.hid (Below.size hb1); clear hk1 hs1 hb1)
      | (with_reducible refine at_any ?_; refine at_dst 4 rfl ?_; refine wpList_alloc_any rfl 25 rfl #[.slice none 0 0] zero_fen ?_; intro w2 hk2 hs2 hb2; have G2 := Lib.hid (Fx.newB G1.out hk2.out hb2); clear hk2 hs2 hb2)
      | (with_reducible refine at_any ?_; refine at_dst 10 rfl ?_; refine wpList_load_fen (by kernel_rfl) (.tmp 2) rfl w.heap.size rfl 25 (.slice A n c) (Fx.b1 G2.out) ?_)
      | (go_at_call 15; (with_reducible refine (HLEN.out _).mono ?_); rintro e w3 ⟨rfl, hb3⟩; have G3 := Lib.hid (Fx.below G2.out hb3); clear hb3)
      | (with_reducible refine at_any ?_; refine at_dst 15 rfl ?_; refine wpList_load_fen (by kernel_rfl) (.tmp 2) rfl w.heap.size rfl 25 (.slice A n c) (Fx.b1 G3.out) ?_)
      | (go_at_call 14; (with_reducible refine (HTO.out _ (HTT.out.below (Fx.e3 G3.out)) (Fx.r2 G3.out)).mono ?_); rintro e w4 ⟨rfl, hb4⟩; have G4 := Lib.hid (Fx.below G3.out hb4); clear hb4)
      | (go_at_call 33; (with_reducible refine (HAD.out _).mono ?_); rintro e _ ⟨rfl, rfl⟩)
      | (with_reducible refine at_any ?_; refine at_dst 24 rfl ?_; refine wpList_load_fen (by kernel_rfl) (.tmp 2) rfl w.heap.size rfl 25 (.slice A n c) (Fx.b1 G4.out) ?_)
      | (go_at_call 15; (with_reducible refine (HLEN.out _).mono ?_); rintro e w5 ⟨rfl, hb5⟩; have G5 := Lib.hid (Fx.below G4.out hb5); clear hb5))
    obtain ⟨gR, hgR⟩ : ∃ g, w1.heap.size = g := ⟨_, rfl⟩
    obtain ⟨gB, hgB⟩ : ∃ g, w.heap.size = g := ⟨_, rfl⟩
    have G9 : Hid (Fx [.blk gR 25 #[.slice none 0 0], .blk gB 25 #[.slice A n c], .rdb .u64 w.heap.size A n ts, .bel w] w5) := Lib.hid (by rw [← hgR, ← hgB]; exact G5.out)
    rw [hgR] at HGR ⊢
    rw [hgB]
    clear hgB hgR G5
    refine wp_region_held_drew (S := (Fx [.blk gR 25 #[.slice none 0 0], .blk gB 25 #[.slice A n c], .rdb .u64 w.heap.size A n ts, .bel w])) (by kernel_rfl) (Fx.drew G9.out) (fun hH => ?_)
    refine wpAnyH_letter #[false, false, false, false, false, false, false, false, false, false, false, false, false, false] (by kernel_rfl) (fun _ _ d _ _ h => by cases d <;> exact h) (fun QL HQ1 HQ2 => ?_)
    refine held_row 0 (some 27) rfl (by kernel_rfl) (by kernel_rfl) (by kernel_rfl) (by kernel_rfl) (fun c a v w h => HQ2.out c a _ v w h) (by kernel_rfl) 25 (.tmp 2) rfl gB (by kernel_rfl) 25 #[.slice A n c] (fun _ h => (Fx.b1 h)) _ Tryd.underlying25 rfl (sizedF _) hH ?_
    try simp only [Act.put, List.setIfInBounds_toArray, List.set_cons_zero, List.set_cons_succ]
    refine held_v 1 (some 28) rfl (by kernel_rfl) (by kernel_rfl) (by kernel_rfl) (by kernel_rfl) (fun c a v w h => HQ2.out c a _ v w h) (by kernel_rfl) (.int .i64 (N + 1)) (fun W h => by kernel_rfl) hH ?_
    try simp only [Act.put, List.setIfInBounds_toArray, List.set_cons_zero, List.set_cons_succ]
    refine held_v 2 (some 29) rfl (by kernel_rfl) (by kernel_rfl) (by kernel_rfl) (by kernel_rfl) (fun c a v w h => HQ2.out c a _ v w h) (by kernel_rfl) (.int .i64 N) (fun W h => by have p := HNW.out; have p2 := HNW2.out; go_simp) hH ?_
    try simp only [Act.put, List.setIfInBounds_toArray, List.set_cons_zero, List.set_cons_succ]
    refine held_row 4 (some 31) rfl (by kernel_rfl) (by kernel_rfl) (by kernel_rfl) (by kernel_rfl) (fun c a v w h => HQ2.out c a _ v w h) (by kernel_rfl) 25 (.tmp 2) rfl gB (by kernel_rfl) 25 #[.slice A n c] (fun _ h => (Fx.b1 h)) _ Tryd.underlying25 rfl (sizedF _) hH ?_
    try simp only [Act.put, List.setIfInBounds_toArray, List.set_cons_zero, List.set_cons_succ]
    refine held_v 5 (some 32) rfl (by kernel_rfl) (by kernel_rfl) (by kernel_rfl) (by kernel_rfl) (fun c a v w h => HQ2.out c a _ v w h) (by kernel_rfl) (.int .i64 (N + 1)) (fun W h => by kernel_rfl) hH ?_
    try simp only [Act.put, List.setIfInBounds_toArray, List.set_cons_zero, List.set_cons_succ]
    refine held_v 6 (some 33) rfl (by kernel_rfl) (by kernel_rfl) (by kernel_rfl) (by kernel_rfl) (fun c a v w h => HQ2.out c a _ v w h) (by kernel_rfl) (.int .i64 (N + 1)) (fun W h => by kernel_rfl) hH ?_
    try simp only [Act.put, List.setIfInBounds_toArray, List.set_cons_zero, List.set_cons_succ]
    refine held_v 11 (some 38) rfl (by kernel_rfl) (by kernel_rfl) (by kernel_rfl) (by kernel_rfl) (fun c a v w h => HQ2.out c a _ v w h) (by kernel_rfl) (.int .u64 v) (fun W h => by kernel_rfl) hH ?_
    try simp only [Act.put, List.setIfInBounds_toArray, List.set_cons_zero, List.set_cons_succ]
    refine wpAnyH_ready (rs := [3]) (by kernel_rfl) (by decide) ?_
    refine AllReadyH.cons rfl (fun K hK => ?_) AllReadyH.nil
    refine step_call (some 30) (by kernel_rfl) (by kernel_rfl) _ _ (by kernel_rfl) _ (HF0.out _ (HTT.out.below (Fx.e3 hH)) (Fx.r2 hH)) ?_
    rintro e w41 ⟨rfl, hbw41⟩
    refine ⟨_, rfl, ?_⟩
    refine hK.out _ _ (hH.below hbw41) (fun hw41 => ?_)
    clear hK K
    try simp only [Act.put, List.setIfInBounds_toArray, List.set_cons_zero, List.set_cons_succ]
    refine wpAnyH_ready (rs := [7]) (by kernel_rfl) (by decide) ?_
    refine AllReadyH.cons rfl (fun K hK => ?_) AllReadyH.nil
    refine step_call (some 34) (by kernel_rfl) (by kernel_rfl) _ _ (by kernel_rfl) _ (HLOW.out _ (HTT.out.below (Fx.e3 hw41))) ?_
    rintro e _ ⟨rfl, rfl⟩
    refine ⟨_, rfl, ?_⟩
    refine hK.out _ _ hw41 (fun _ => ?_)
    clear hK K
    try simp only [Act.put, List.setIfInBounds_toArray, List.set_cons_zero, List.set_cons_succ]
    refine held_v 8 (some 35) rfl (by kernel_rfl) (by kernel_rfl) (by kernel_rfl) (by kernel_rfl) (fun c a v w h => HQ2.out c a _ v w h) (by kernel_rfl) (.int .i64 (r : Int)) (fun W h => by have p := HRW.out; go_simp) hw41 ?_
    try simp only [Act.put, List.setIfInBounds_toArray, List.set_cons_zero, List.set_cons_succ]
    refine wpAnyH_ready (rs := [9]) (by kernel_rfl) (by decide) ?_
    refine AllReadyH.cons rfl (fun K hK => ?_) AllReadyH.nil
    refine step_call (some 36) (by kernel_rfl) (by kernel_rfl) _ _ (by kernel_rfl) _ (HF1.out _ (HTT.out.below (Fx.e3 hw41)) (Fx.r2 hw41)) ?_
    rintro e w43 ⟨rfl, hbw43⟩
    refine ⟨_, rfl, ?_⟩
    refine hK.out _ _ (hw41.below hbw43) (fun hw43 => ?_)
    clear hK K
    try simp only [Act.put, List.setIfInBounds_toArray, List.set_cons_zero, List.set_cons_succ]
    refine held_v 10 (some 37) rfl (by kernel_rfl) (by kernel_rfl) (by kernel_rfl) (by kernel_rfl) (fun c a v w h => HQ2.out c a _ v w h) (by kernel_rfl) (.int .u64 d) (fun W h => by have p := HDW.out; go_simp) hw43 ?_
    try simp only [Act.put, List.setIfInBounds_toArray, List.set_cons_zero, List.set_cons_succ]
    refine held_v 12 (some 39) rfl (by kernel_rfl) (by kernel_rfl) (by kernel_rfl) (by kernel_rfl) (fun c a v w h => HQ2.out c a _ v w h) (by kernel_rfl) (.int .u64 x) (fun W h => by have p := HXW.out; go_simp) hw43 ?_
    try simp only [Act.put, List.setIfInBounds_toArray, List.set_cons_zero, List.set_cons_succ]
    refine held_v 13 (some 9) rfl (by kernel_rfl) (by kernel_rfl) (by kernel_rfl) (by kernel_rfl) (fun c a v w h => HQ2.out c a _ v w h) (by kernel_rfl) (.int .u64 x) (fun W h => by kernel_rfl) hw43 ?_
    try simp only [Act.put, List.setIfInBounds_toArray, List.set_cons_zero, List.set_cons_succ]
    refine wpAnyH_done (by kernel_rfl) ?_ _
    refine HQ1.out _ _ ?_
    clear HQ1 HQ2
    have G20 := Lib.hid hw43
    have cz := Blk.cell0 (Fx.b1 G20.out)
    go_wp2_with (first
      | (with_reducible refine at_any ?_; refine at_dst 43 rfl ?_; refine wpList_bld1 (by kernel_rfl) (.tmp 42) rfl x rfl ?_; intro b w21 hr21 hb21; have G21 := Lib.hid (Fx.addR G20.out hb21 hr21); have cz21 := Blk.cell0 (Fx.b2 G21.out); clear hr21 hb21)
      | (with_reducible refine at_any ?_; refine at_dst 44 rfl ?_; refine wpList_bldSS (by kernel_rfl) (.tmp 41) (.tmp 43) rfl A n c (some ⟨b, 0, none⟩) 1 1 rfl rfl ?_; intro g5 w22 hk22 hb22; have G22 := Lib.hid (Fx.addBlk G21.out hb22 hk22); clear hk22 hb22)
      | (go_at_call 34; (with_reducible refine (concat64_c ts x A n c HN2.out g5 b _ (two_c0 (Fx.b0 G22.out)) (two_c1 (Fx.b0 G22.out)) (Fx.r4 G22.out) (Fx.r1 G22.out) (Blk.lt (Fx.b0 G22.out))).mono ?_); rintro e w23 ⟨v9, rfl, ho9, hb23⟩; obtain ⟨A9, c9, rfl, hc9, hm9⟩ := ho9.form; rw [HL1.out] at ho9 hc9; rw [HL1.out]; have HRX := Lib.hid (OwnI.rd ho9 HL1.out); have G23 := Lib.hid (Fx.below G22.out hb23); have HC9 := Lib.hid hc9; have HM9 := Lib.hid hm9; clear ho9 hb23 hc9 hm9)
      | (with_reducible refine at_any ?_; refine at_store 4 rfl ?_; refine wpList_store_any rfl 25 (.tmp 4) (.tmp 46) rfl gR rfl 25 #[.slice none 0 0] #[.slice A9 n1 c9] (Fx.b2 G23.out) rfl (size1 _ _) (sizedF _) (fen_ones _ _ _) ?_; intro w9 hk9 hs9 hb9 ho9; have HR9 := Lib.hid (rd_past HRX.out (Fx.b2 G23.out) hs9.out ho9); have HB9 := Lib.hid ((Fx.e5 G23.out).trans (hb9 _ HGR.out)); have HK9 := Lib.hid hk9.out; clear hb9)
      | (refine bodyPost_any2 4 5 25 rfl gR rfl (.int .i64 0) rfl 25 #[.slice A9 n1 c9] HK9.out _ Tryd.underlying25 rfl (sizedF _) rfl ?_))
    exact HEND.out _ _ _ HR9.out HC9.out HM9.out HB9.out
  · obtain ⟨b1, b2⟩ := addV_no (a := sumL l) (b := v) (by omega)
    rw [b1, b2] at hadd
    have HE := Lib.hid (grw_big (l := l) (v := v) (by omega) hs2)
    obtain ⟨sm, hsm⟩ : ∃ z, sumL l = z := ⟨_, rfl⟩
    rw [hsm] at htot hadd
    have HAD := Lib.hid hadd
    have HTO := Lib.hid htot
    have HR := Lib.hid hrd
    clear hrd hz hs hl hn hc hcm hT hN htot hadd b1 b2 hsm hs2 hm hsv hs0
    go_enter Tryd.func21, Tryd.ntmps21
    go_wp2_with (first
      | (with_reducible refine at_any ?_; refine at_dst 2 rfl ?_; refine wpList_box_any rfl 25 (.tmp 0) rfl #[.slice A n c] rfl ?_; intro w1 hk1 hs1 hb1; have G1 := Lib.hid (fx_start hk1.out HR.out hb1); have HGR := Lib.hid (Below.size hb1); clear hk1 hs1 hb1)
      | (with_reducible refine at_any ?_; refine at_dst 4 rfl ?_; refine wpList_alloc_any rfl 25 rfl #[.slice none 0 0] zero_fen ?_; intro w2 hk2 hs2 hb2; have G2 := Lib.hid (Fx.newB G1.out hk2.out hb2); clear hk2 hs2 hb2)
      | (with_reducible refine at_any ?_; refine at_dst 10 rfl ?_; refine wpList_load_fen (by kernel_rfl) (.tmp 2) rfl w.heap.size rfl 25 (.slice A n c) (Fx.b1 G2.out) ?_)
      | (go_at_call 15; (with_reducible refine (HLEN.out _).mono ?_); rintro e w3 ⟨rfl, hb3⟩; have G3 := Lib.hid (Fx.below G2.out hb3); clear hb3)
      | (with_reducible refine at_any ?_; refine at_dst 15 rfl ?_; refine wpList_load_fen (by kernel_rfl) (.tmp 2) rfl w.heap.size rfl 25 (.slice A n c) (Fx.b1 G3.out) ?_)
      | (go_at_call 14; (with_reducible refine (HTO.out _ (HTT.out.below (Fx.e3 G3.out)) (Fx.r2 G3.out)).mono ?_); rintro e w4 ⟨rfl, hb4⟩; have G4 := Lib.hid (Fx.below G3.out hb4); clear hb4)
      | (go_at_call 33; (with_reducible refine (HAD.out _).mono ?_); rintro e _ ⟨rfl, rfl⟩)
      | (with_reducible refine at_any ?_; refine at_dst 23 rfl ?_; refine wpList_val rfl (.agg #[.slice none 0 0]) (build_fen0 _ rfl) ?_)
      | (with_reducible refine at_any ?_; refine at_store 4 rfl ?_; refine wpList_store_any rfl 25 (.tmp 4) (.tmp 23) rfl w1.heap.size rfl 25 #[.slice none 0 0] #[.slice none 0 0] (Fx.b0 G4.out) rfl (size1 _ _) (sizedF _) (fen_ones _ _ _) ?_; intro w9 hk9 hs9 hb9 ho9; have HB9 := Lib.hid ((Fx.e3 G4.out).trans (hb9 _ HGR.out)); have HK9 := Lib.hid hk9.out; clear hb9)
      | (refine bodyPost_any2 4 5 25 rfl w1.heap.size rfl (.int .i64 11) rfl 25 #[.slice none 0 0] HK9.out _ Tryd.underlying25 rfl (sizedF _) rfl ?_))
    exact HEMP.out _ _ HE.out HB9.out
set_option maxHeartbeats 2000000 in
theorem q11same_c (xs ys : List Int) (A B : Option Addr) (n m c d : Nat) (hn : n ≤ maxLen) (hm : m ≤ maxLen) (w : World) (hra : Rd .u64 w w.heap.size A n xs) (hrb : Rd .u64 w w.heap.size B m ys) : Calls Tryd.prog 25 #[.agg #[.slice A n c], .agg #[.slice B m d]] w fun e w' => e = .returned (.bool (decide (xs = ys))) ∧ Below w.heap.size w w' := by
  have HA := Lib.hid hra
  have HB := Lib.hid hrb
  have HSA := Lib.hid (fun W h1 h2 => equal64_c xs ys A B n m c d hn hm W h1 h2)
  obtain ⟨bb, hbb⟩ : ∃ b, decide (xs = ys) = b := ⟨_, rfl⟩
  rw [hbb] at HSA ⊢
  clear hra hrb hbb
  go_enter Tryd.func25, Tryd.ntmps25
  go_wp2_with (first
    | (with_reducible refine at_any ?_; refine at_dst 2 rfl ?_; refine wpList_box_any rfl 25 (.tmp 0) rfl #[.slice A n c] rfl ?_; intro w1 hk1 hs1 hb1)
    | (with_reducible refine at_any ?_; refine at_dst 3 rfl ?_; refine wpList_box_any rfl 25 (.tmp 1) rfl #[.slice B m d] rfl ?_; intro w2 hk2 hs2 hb2; have HB2 := Lib.hid (hb1.trans (hb2.mono hb1.size)); have c1 := (hk1.out.below hb2 hk1.out.lt).cell 0; have c2 := hk2.out.cell 0; have f1 := (hk1.out.below hb2 hk1.out.lt).frozen 0; have f2 := hk2.out.frozen 0)
    | (go_at_call 37; (with_reducible refine (HSA.out _ (HR1 HA.out HB2.out) (HR1 HB.out HB2.out)).mono ?_); rintro e w5 ⟨rfl, hb5⟩; have HB5 := Lib.hid (HB2.out.trans (hb5.mono HB2.out.size))))
  go_ret
  exact ⟨rfl, HB5.out⟩
end Go.Proofs.YtdpjambejmlppaaDoor

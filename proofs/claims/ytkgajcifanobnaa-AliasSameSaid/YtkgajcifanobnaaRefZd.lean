/-
  What drawlotref14's Build returns: the table of stakes, or why there is none; memory is left as it was.
  Conditions: the stakes lie in their type's range; there are at most 1000.
-/
import Derived.Test.YtkgajcifanobnaaRefP
import Derived.Test.YtkgajcifanobnaaTabN
import Derived.Test.YtkgajcifanobnaaTabQ
import Derived.BigQuiet
set_option maxRecDepth 100000
set_option linter.unusedVariables false
set_option linter.unusedSimpArgs false
namespace Go.Proofs.Ytkgajcifanobnaa
open Go.ChangeShapes Go.WideShapes Go.ChangeAt Go.RowKit
theorem zero_tab : ∀ W, (zeroValue 27).run Try.prog W = .ok (.agg #[.int .u64 0, .slice none 0 0]) W := (zero_of_info (n := 2) (by kernel_rfl)).1
theorem size_tabB (u v : Value) : (Try.prog.info? 27).map (·.size) = some (#[u, v] : Array Value).size := by kernel_rfl
theorem size_cellB (u v : Value) : (Try.prog.info? 44).map (·.size) = some (#[u, v] : Array Value).size := by kernel_rfl
theorem tab_ones (T : Int) (A : Option Addr) (n c : Nat) : (#[.int .u64 T, .slice A n c] : Array Value).all (·.oneCell') = true := by simp [Value.oneCell']
theorem cell_ones (x y : Int) : (#[.int .u64 x, .int .i64 y] : Array Value).all (·.oneCell') = true := by simp [Value.oneCell']
theorem size2T (u v u' v' : Value) : (#[u, v] : Array Value).size = (#[u', v'] : Array Value).size := rfl
theorem size_u64b : (Try.prog.info? 24).map (·.size) = some 1 := by kernel_rfl
theorem info_int : (Try.prog.info? 3).map (fun i => (i.zero, i.size, i.bytes)) = some (some (.int .i64 0), 1, 8) := by kernel_rfl
theorem info_u64t : (Try.prog.info? 24).map (fun i => (i.zero, i.size, i.bytes)) = some (some (.int .u64 0), 1, 8) := by kernel_rfl
theorem info_cell : (Try.prog.info? 44).map (fun i => (i.zero, i.size, i.bytes)) = some (some (.agg #[.int .u64 0, .int .i64 0]), 2, 16) := by kernel_rfl
theorem run_build_tab0 (w : World) : (Instr.build 27 #[]).run Try.prog w = .ok (.agg #[.int .u64 0, .slice none 0 0]) w := by go_simp
theorem build_tab0 {a : Act} {o : Oper} (w : World) (ho : o.op = .build 27 #[]) : (execOp a.eval o).run Try.prog w = .ok (.value (.agg #[.int .u64 0, .slice none 0 0])) w := by
  unfold execOp
  simp only [ho, List.map_toArray, List.map_nil]
  change ((Instr.build 27 #[]) >>= fun v => pure (Next.value v)).run Try.prog w = _
  simp only [Sem.run_bind, run_build_tab0, Result.andThen_ok, Sem.run_pure]
theorem run_make_u64 (n : Nat) (hn : n ≤ 100000) (w : World) : (Instr.makeSlice 22 (.int .i64 (n : Int)) (.int .i64 (n : Int))).run Try.prog w = .ok (.slice (some ⟨w.heap.size, 0, none⟩) n n) (w.alloc (.cells (intsA .u64 (List.replicate n 0)) 24)) := by
  obtain ⟨i, hi, hz, hs, hb⟩ := info_parts info_u64t
  have hr := run_make (P := Try.prog) w 22 24 i _ Try.underlying22 hi hz .i64 .i64 n n (by omega) (by omega) (by rw [hb]; omega) (by omega)
  simp only [Int.toNat_natCast, hs, Nat.mul_one] at hr
  rw [hr, show madeCells (Value.int .u64 0).cells n = intsA .u64 (List.replicate n 0) from ?_]
  have h1 := madeCells_same (.int .u64 0) 1 n (by omega)
  simpa [intsA, Value.cells] using h1
theorem made_cells (n : Nat) : madeCells #[Value.int .u64 0, Value.int .i64 0] (n * 2) = cellsA (List.replicate n (0, 0)) := by
  apply Array.ext_getElem?
  intro j
  by_cases hj : j < n * 2
  · have h0 : cellL (List.replicate n ((0 : Int), (0 : Int))) (j / 2) = (0, 0) := by have h7 : j / 2 < n := (by omega); simp [cellL, h7]
    have h := prC_get (List.replicate n ((0 : Int), (0 : Int))) (j / 2) (by rw [List.length_replicate]; omega)
    rw [h0] at h
    have hl : (madeCells #[Value.int .u64 0, Value.int .i64 0] (n * 2))[j]? = some (#[Value.int .u64 0, Value.int .i64 0][j % 2]!) := by
      unfold madeCells
      rw [Array.getElem?_map, Array.getElem?_range, if_pos hj]
      rfl
    rw [hl]
    rcases Nat.mod_two_eq_zero_or_one j with h2 | h2
    · rw [h2]
      have e : j / 2 * 2 = j := by omega
      rw [e] at h
      simpa [cellsA] using h.1.symm
    · rw [h2]
      have e : j / 2 * 2 + 1 = j := by omega
      rw [e] at h
      simpa [cellsA] using h.2.symm
  · rw [Array.getElem?_eq_none (by rw [size_madeCells]; omega), Array.getElem?_eq_none (by rw [cellsA_size, List.length_replicate]; omega)]
theorem run_make_cells (n : Nat) (hn : n ≤ 100000) (w : World) : (Instr.makeSlice 25 (.int .i64 (n : Int)) (.int .i64 (n : Int))).run Try.prog w = .ok (.slice (some ⟨w.heap.size, 0, none⟩) n n) (w.alloc (.cells (cellsA (List.replicate n (0, 0))) 44)) := by
  obtain ⟨i, hi, hz, hs, hb⟩ := info_parts info_cell
  have hr := run_make (P := Try.prog) w 25 44 i _ Try.underlying25 hi hz .i64 .i64 n n (by omega) (by omega) (by rw [hb]; omega) (by omega)
  simp only [Int.toNat_natCast, hs, Value.cells] at hr
  rw [hr, made_cells]
set_option maxHeartbeats 8000000 in
theorem r14build_c (l : List Int) (hz : ∀ z ∈ l, 0 ≤ z ∧ z < 18446744073709551616) (A : Option Addr) (n c : Nat) (hn : n ≤ 1000) (w : World) (hrd : Rd .u64 w w.heap.size A n l) : Calls Try.prog 10 #[.slice A n c] w (RetTab w (tbT l) (tbC l).length (tbC l) (tbE l)) := by
  obtain ⟨ti, hti, hz0, hz1, hzb⟩ := info_parts info_int
  have HR := Lib.hid hrd
  have hlen := hrd.len
  have HTO := Lib.hid (fun W h => r9total_c l hz A n c (by simp only [maxLen]; omega) W h)
  have HEMP : Hid (∀ er w', tbE l = er → er ≠ 0 → Below w.heap.size w w' → RetTab w (tbT l) (tbC l).length (tbC l) (tbE l) (.returned (.tuple #[.agg #[.int .u64 0, .slice none 0 0], .int .i64 er])) w') := Lib.hid (fun er w' h h0 hb => by
    obtain ⟨e1, e2⟩ := tb_no (l := l) (by rw [h]; exact h0)
    rw [e1, e2, h]
    exact ⟨none, 0, rfl, RdPr.nil _ _ _ _ _, Nat.le_refl _, by simp [maxLen], hb⟩)
  have hz' : ∀ z ∈ l, 0 ≤ z := fun z h => (hz z h).1
  have hs0 := sumL_nn hz'
  by_cases h0 : n = 0
  · subst h0
    have HE : Hid (tbE l = 10) := Lib.hid (by rw [List.eq_nil_of_length_eq_zero hlen]; rfl)
    clear hrd hz hlen hz' hs0
    go_enter Try.func10, Try.ntmps10
    go_wp2_with (first
      | (with_reducible refine at_any ?_; refine at_dst 2 rfl ?_; refine wpList_alloc_any rfl 27 rfl #[.int .u64 0, .slice none 0 0] zero_tab ?_; intro w1 hk1 hs1 hb1; have HB1 := Lib.hid hb1)
      | (with_reducible refine at_any ?_; refine at_dst 19 rfl ?_; refine wpList_val rfl (.agg #[.int .u64 0, .slice none 0 0]) (build_tab0 _ rfl) ?_)
      | (with_reducible refine at_any ?_; refine at_store 2 rfl ?_; refine wpList_store_any rfl 27 (.tmp 2) (.tmp 19) rfl w.heap.size rfl 27 #[.int .u64 0, .slice none 0 0] #[.int .u64 0, .slice none 0 0] hk1.out rfl (size2T _ _ _ _) (size_tabB _ _) (tab_ones _ _ _ _) ?_; intro w9 hk9 hs9 hb9 ho9; have HB9 := Lib.hid (HB1.out.trans (hb9 _ (Nat.le_refl _))))
      | (refine bodyPost_any2 2 3 27 rfl w.heap.size rfl (.int .i64 10) rfl 27 #[.int .u64 0, .slice none 0 0] hk9.out _ Try.underlying27 rfl (size_tabB _ _) rfl ?_))
    exact HEMP.out 10 _ HE.out (by decide) HB9.out
  by_cases h1 : sumL l < 9223372036854775808
  case neg =>
    obtain ⟨e1, e2⟩ := sumV_no h1
    have HE := Lib.hid (tbE_big (by omega) h1)
    rw [e1, e2] at HTO
    have n0 : 0 < n := by omega
    clear hrd hz hlen hz' hs0 h1 e1 e2
    go_enter Try.func10, Try.ntmps10
    go_wp2_with (first
      | (with_reducible refine at_any ?_; refine at_dst 2 rfl ?_; refine wpList_alloc_any rfl 27 rfl #[.int .u64 0, .slice none 0 0] zero_tab ?_; intro w1 hk1 hs1 hb1; have HB1 := Lib.hid hb1)
      | (go_at_call 28; (with_reducible refine (HTO.out _ ((HR.out.below HB1.out).mono HB1.out.size)).mono ?_); rintro e _ ⟨rfl, rfl⟩)
      | (with_reducible refine at_any ?_; refine at_dst 27 rfl ?_; refine wpList_val rfl (.agg #[.int .u64 0, .slice none 0 0]) (build_tab0 _ rfl) ?_)
      | (with_reducible refine at_any ?_; refine at_store 2 rfl ?_; refine wpList_store_any rfl 27 (.tmp 2) (.tmp 27) rfl w.heap.size rfl 27 #[.int .u64 0, .slice none 0 0] #[.int .u64 0, .slice none 0 0] hk1.out rfl (size2T _ _ _ _) (size_tabB _ _) (tab_ones _ _ _ _) ?_; intro w9 hk9 hs9 hb9 ho9; have HB9 := Lib.hid (HB1.out.trans (hb9 _ (Nat.le_refl _))))
      | (refine bodyPost_any2 2 3 27 rfl w.heap.size rfl (.int .i64 11) rfl 27 #[.int .u64 0, .slice none 0 0] hk9.out _ Try.underlying27 rfl (size_tabB _ _) rfl ?_))
    exact HEMP.out 11 _ HE.out (by decide) HB9.out
  obtain ⟨e1, e2⟩ := sumV_ok h1
  rw [e1, e2] at HTO
  by_cases h2 : sumL l = 0
  · have HE := Lib.hid (tbE_zero (by omega) h1 h2)
    rw [h2] at HTO
    have n0 : 0 < n := by omega
    clear hrd hz hlen hz' hs0 h1 e1 e2 h2
    go_enter Try.func10, Try.ntmps10
    go_wp2_with (first
      | (with_reducible refine at_any ?_; refine at_dst 2 rfl ?_; refine wpList_alloc_any rfl 27 rfl #[.int .u64 0, .slice none 0 0] zero_tab ?_; intro w1 hk1 hs1 hb1; have HB1 := Lib.hid hb1)
      | (go_at_call 28; (with_reducible refine (HTO.out _ ((HR.out.below HB1.out).mono HB1.out.size)).mono ?_); rintro e _ ⟨rfl, rfl⟩)
      | (with_reducible refine at_any ?_; refine at_dst 30 rfl ?_; refine wpList_val rfl (.agg #[.int .u64 0, .slice none 0 0]) (build_tab0 _ rfl) ?_)
      | (with_reducible refine at_any ?_; refine at_store 2 rfl ?_; refine wpList_store_any rfl 27 (.tmp 2) (.tmp 30) rfl w.heap.size rfl 27 #[.int .u64 0, .slice none 0 0] #[.int .u64 0, .slice none 0 0] hk1.out rfl (size2T _ _ _ _) (size_tabB _ _) (tab_ones _ _ _ _) ?_; intro w9 hk9 hs9 hb9 ho9; have HB9 := Lib.hid (HB1.out.trans (hb9 _ (Nat.le_refl _))))
      | (refine bodyPost_any2 2 3 27 rfl w.heap.size rfl (.int .i64 10) rfl 27 #[.int .u64 0, .slice none 0 0] hk9.out _ Try.underlying27 rfl (size_tabB _ _) rfl ?_))
    exact HEMP.out 10 _ HE.out (by decide) HB9.out
  have HM := Lib.hid (fun W => r9mul_c (n : Int) (sumL l) (by omega) (by omega) hs0 (by omega) W)
  have tT : (sumL l == 0) = false := by rw [beq_eq_false_iff_ne]; exact h2
  by_cases h3 : (n : Int) * sumL l < 9223372036854775808
  case neg =>
    obtain ⟨e3, e4⟩ := mulV_no h3
    rw [e3, e4] at HM
    have HE := Lib.hid (tbE_mul (by omega) h1 h2 (by rw [hlen]; exact h3))
    have n0 : 0 < n := by omega
    obtain ⟨T, hT⟩ : ∃ T, sumL l = T := ⟨_, rfl⟩
    rw [hT] at HTO HM hs0 h1 tT
    clear hrd hz hlen hz' e1 e2 e3 e4 h2 h3 hT
    go_enter Try.func10, Try.ntmps10
    go_wp2_with (first
      | (with_reducible refine at_any ?_; refine at_dst 2 rfl ?_; refine wpList_alloc_any rfl 27 rfl #[.int .u64 0, .slice none 0 0] zero_tab ?_; intro w1 hk1 hs1 hb1; have HB1 := Lib.hid hb1)
      | (go_at_call 28; (with_reducible refine (HTO.out _ ((HR.out.below HB1.out).mono HB1.out.size)).mono ?_); rintro e _ ⟨rfl, rfl⟩)
      | (go_at_call 29; (with_reducible refine (HM.out _).mono ?_); rintro e _ ⟨rfl, rfl⟩)
      | (with_reducible refine at_any ?_; refine at_dst 42 rfl ?_; refine wpList_val rfl (.agg #[.int .u64 0, .slice none 0 0]) (build_tab0 _ rfl) ?_)
      | (with_reducible refine at_any ?_; refine at_store 2 rfl ?_; refine wpList_store_any rfl 27 (.tmp 2) (.tmp 42) rfl w.heap.size rfl 27 #[.int .u64 0, .slice none 0 0] #[.int .u64 0, .slice none 0 0] hk1.out rfl (size2T _ _ _ _) (size_tabB _ _) (tab_ones _ _ _ _) ?_; intro w9 hk9 hs9 hb9 ho9; have HB9 := Lib.hid (HB1.out.trans (hb9 _ (Nat.le_refl _))))
      | (refine bodyPost_any2 2 3 27 rfl w.heap.size rfl (.int .i64 11) rfl 27 #[.int .u64 0, .slice none 0 0] hk9.out _ Try.underlying27 rfl (size_tabB _ _) rfl ?_))
    exact HEMP.out 11 _ HE.out (by decide) HB9.out
  · obtain ⟨e3, e4⟩ := mulV_ok h3
    rw [e3, e4] at HM
    have HOK := tbE_ok (l := l) (by omega) h1 h2 (by rw [hlen]; exact h3)
    obtain ⟨E1, EI, E2, EF⟩ := tb_abi hz' HOK
    have hI := ABI.init hz' (by omega) (by rw [hlen]; exact h3)
    have n0 : 0 < n := by omega
    have HZ : Hid (∀ k, k < n → 0 ≤ l.getD k 0 ∧ l.getD k 0 < 18446744073709551616 ∧ 0 ≤ (n : Int) * l.getD k 0 ∧ (n : Int) * l.getD k 0 < 9223372036854775808) := Lib.hid (fun k hk => by
      have g1 := getD_le hz' (i := k) (by omega)
      have g2 := mul_le_of (n := (n : Int)) (by omega) g1.2
      have g3 := Int.mul_nonneg (show (0 : Int) ≤ (n : Int) by omega) g1.1
      exact ⟨g1.1, by omega, g3, by omega⟩)
    obtain ⟨T, hT⟩ : ∃ T, sumL l = T := ⟨_, rfl⟩
    rw [hT] at HTO HM hs0 h1 tT h2 EI E1 E2 EF h3 hI
    have HNEXT : Hid (∀ k, k < n → (((n : Int) * l.getD k 0 < T → ∀ v v' W, BldS w w.heap.size (w.heap.size + 1) (w.heap.size + 1 + 1) ((fillT (hasL l) 0 k).set k ((n : Int) * l.getD k 0)) ((fillT (cellsL T n) (0, 0) k).set k (T, (k : Int))) v v' (smL T (hasL l) k ++ [(k : Int)]) (lgL T (hasL l) k) W → BldS w w.heap.size (w.heap.size + 1) (w.heap.size + 1 + 1) (fillT (hasL l) 0 (k + 1)) (fillT (cellsL T n) (0, 0) (k + 1)) v v' (smL T (hasL l) (k + 1)) (lgL T (hasL l) (k + 1)) W) ∧ (¬ (n : Int) * l.getD k 0 < T → ∀ v v' W, BldS w w.heap.size (w.heap.size + 1) (w.heap.size + 1 + 1) ((fillT (hasL l) 0 k).set k ((n : Int) * l.getD k 0)) ((fillT (cellsL T n) (0, 0) k).set k (T, (k : Int))) v v' (smL T (hasL l) k) (lgL T (hasL l) k ++ [(k : Int)]) W → BldS w w.heap.size (w.heap.size + 1) (w.heap.size + 1 + 1) (fillT (hasL l) 0 (k + 1)) (fillT (cellsL T n) (0, 0) (k + 1)) v v' (smL T (hasL l) (k + 1)) (lgL T (hasL l) (k + 1)) W))) := Lib.hid (fun k hk => by
      have q1 : (fillT (hasL l) 0 k).set k ((n : Int) * l.getD k 0) = fillT (hasL l) 0 (k + 1) := by
        have := fill_next (hasL l) 0 k (by rw [hasL_len]; omega)
        rw [← this]
        congr 1
        have h9 := hasL_at (l := l) (i := k) (by omega)
        rw [hlen] at h9
        rw [← h9, List.getD_eq_getElem?_getD, List.getElem?_eq_getElem (by rw [hasL_len]; omega)]
        rfl
      have q2 : (fillT (cellsL T n) (0, 0) k).set k (T, (k : Int)) = fillT (cellsL T n) (0, 0) (k + 1) := by
        have := fill_next (cellsL T n) (0, 0) k (by rw [cells_len]; omega)
        rw [← this]
        congr 1
        simp [cellsL]
      have h9 := hasL_at (l := l) (i := k) (by omega)
      rw [hlen] at h9
      rw [q1, q2, smL_succ, lgL_succ, h9]
      exact ⟨fun h => by rw [if_pos h, if_pos h]; exact fun _ _ _ h => h, fun h => by rw [if_neg h, if_neg h]; exact fun _ _ _ h => h⟩)
    have HMU := Lib.hid (run_make_u64 n (by omega))
    have HMC := Lib.hid (run_make_cells n (by omega))
    have hmu := HMU.out
    have hmc := HMC.out
    have i2 : (n : Int) ≤ 1000 := by omega
    have i3 : (0 : Int) < (n : Int) := by omega
    have HEI := Lib.hid EI
    have HE1 := Lib.hid E1
    have HE2 := Lib.hid E2
    have HEF := Lib.hid EF
    have HII := Lib.hid hI
    have HOK2 := Lib.hid HOK
    clear hrd hz hz' e1 e2 e3 e4 hT EI E1 E2 EF hI HOK HEMP
    obtain ⟨m, hm⟩ : ∃ m, (n : Int) * T = m := ⟨_, rfl⟩
    rw [hm] at HM h3
    have HM3 := Lib.hid hm
    clear hm
    go_enter Try.func10, Try.ntmps10
    go_wp2_with (first
      | (with_reducible refine at_any ?_; refine at_dst 2 rfl ?_; refine wpList_alloc_any rfl 27 rfl #[.int .u64 0, .slice none 0 0] zero_tab ?_; intro w1 hk1 hs1 hb1; have HB1 := Lib.hid hb1)
      | (go_at_call 28; (with_reducible refine (HTO.out _ ((HR.out.below HB1.out).mono HB1.out.size)).mono ?_); rintro e _ ⟨rfl, rfl⟩)
      | (go_at_call 29; (with_reducible refine (HM.out _).mono ?_); rintro e _ ⟨rfl, rfl⟩))
    have HST : Hid (BldS w w.heap.size (w.heap.size + 1) (w.heap.size + 1 + 1) (fillT (hasL l) 0 0) (fillT (cellsL T n) (0, 0) 0) (.slice none 0 0) (.slice none 0 0) (smL T (hasL l) 0) (lgL T (hasL l) 0) ((w1.alloc (.cells (intsA .u64 (List.replicate n 0)) 24)).alloc (.cells (cellsA (List.replicate n (0, 0))) 44))) := Lib.hid (by
      have z1 : (w1.alloc (.cells (intsA .u64 (List.replicate n 0)) 24)).heap.size = w.heap.size + 1 + 1 := by rw [← hs1.out]; exact Array.size_push _
      have k1 := Blk.new w1 24 (intsA .u64 (List.replicate n 0))
      have k2 := Blk.new (w1.alloc (.cells (intsA .u64 (List.replicate n 0)) 24)) 44 (cellsA (List.replicate n (0, 0)))
      have b1 := (Below.refl w1.heap.size w1).alloc (Nat.le_refl _) (.cells (intsA .u64 (List.replicate n 0)) 24)
      have b2 := (Below.refl (w1.alloc (.cells (intsA .u64 (List.replicate n 0)) 24)).heap.size (w1.alloc (.cells (intsA .u64 (List.replicate n 0)) 24))).alloc (Nat.le_refl _) (.cells (cellsA (List.replicate n (0, 0))) 44)
      rw [fill_zero, fill_zero, hasL_len, cells_len, hlen]
      rw [hs1.out] at k1
      rw [z1] at k2
      refine ⟨(hk1.out.below b1 hk1.out.lt).below b2 ?_, k1.below b2 k1.lt, k2, own_nil _ _ _, own_nil _ _ _, fun g e => (by simp [Value.ownBlock] at e), HB1.out.trans ((b1.trans (b2.mono b1.size)).mono HB1.out.size), Nat.le_refl _, by omega, by omega⟩
      exact Nat.lt_of_lt_of_le hk1.out.lt b1.size)
    obtain ⟨g2, hg2⟩ : ∃ g, w.heap.size = g := ⟨_, rfl⟩
    obtain ⟨gH, hgH⟩ : ∃ g, w.heap.size + 1 = g := ⟨_, rfl⟩
    have HG2 := Lib.hid hg2
    rw [hs1.out]
    rw [hgH] at HST HNEXT ⊢
    rw [hg2] at HST HNEXT ⊢
    clear hg2 hgH hk1 hs1 hb1 HB1 hmu hmc
    go_loopw [11, 12, 13] (fun vS vL iv wr => ∃ k : Nat, k ≤ n ∧ iv = .int .i64 (k : Int) ∧ BldS w g2 gH (gH + 1) (fillT (hasL l) 0 k) (fillT (cellsL T n) (0, 0) k) vS vL (smL T (hasL l) k) (lgL T (hasL l) k) wr) (fun _ _ iv _ => n - (intOf iv).toNat)
    case atStart => exact ⟨0, by omega, rfl, HST.out⟩
    case round =>
      obtain ⟨k, hk, rfl, hB⟩ := hrel
      have B1 := Lib.hid hB
      by_cases hlt : k < n
      · obtain ⟨b, off, rfl, _, hcc⟩ := (hB.rd HR.out).at_ (by omega)
        have hck := hcc k hlt
        have hx := HZ.out k hlt
        have HTL : Hid ((fillT (cellsL T n) (0, 0) k).length = n) := Lib.hid (by rw [fill_len _ _ _ (by rw [cells_len]; omega), cells_len])
        have HHL : Hid ((fillT (hasL l) 0 k).length = n) := Lib.hid (by rw [fill_len _ _ _ (by rw [hasL_len]; omega), hasL_len, hlen])
        have HSN : Hid ((smL T (hasL l) k).length ≤ 1000) := Lib.hid (by have := sl_len T (hasL l) k; omega)
        have HLN : Hid ((lgL T (hasL l) k).length ≤ 1000) := Lib.hid (by have := sl_len T (hasL l) k; omega)
        have HNX := Lib.hid (HNEXT.out k hlt)
        obtain ⟨x, hxx⟩ : ∃ x, l.getD k 0 = x := ⟨_, rfl⟩
        rw [hxx] at hck hx HNX
        obtain ⟨p, hp⟩ : ∃ p, (n : Int) * x = p := ⟨_, rfl⟩
        rw [hp] at hx HNX
        obtain ⟨x0, x1, p0, p1⟩ := hx
        obtain ⟨H, hH⟩ : ∃ p, fillT (hasL l) 0 k = p := ⟨_, rfl⟩
        obtain ⟨C, hC⟩ : ∃ p, fillT (cellsL T n) (0, 0) k = p := ⟨_, rfl⟩
        rw [hH] at B1 HHL HNX
        rw [hC] at B1 HTL HNX
        have i0 : (0 : Int) ≤ (k : Int) := by omega
        have i1 : (k : Int) < (n : Int) := by omega
        have hw : IntKind.u64.wrap ((n : Int) * x) = p := by rw [hp, IntKind.wrap_u64]; omega
        clear hcc hB hxx hp hH hC
        by_cases hpt : p < T
        · have HNY := Lib.hid (fun v v' W h => HNX.out.1 hpt v v' W h)
          clear HNX
          go_wp2_with (first
            | (with_reducible refine at_any ?_; refine at_store 63 rfl ?_; refine wpList_store_cell rfl 24 (.tmp 63) (.tmp 62) rfl gH k rfl 24 (intsA .u64 H) B1.out.bH (.int .u64 p) rfl (by have := HHL.out; rw [intsA_size, this]; exact hlt) size_u64b rfl rfl ?_; intro w2 hk2 ho2; have B2 := Lib.hid (B1.out.putH hk2.out ho2))
            | (with_reducible refine at_any ?_; refine at_store 69 rfl ?_; refine wpList_store_mid rfl 44 (.tmp 69) (.tmp 68) rfl (gH + 1) (k * 2) rfl 44 (cellsA C) #[.int .u64 T, .int .i64 (k : Int)] B2.out.bC rfl (by have := HTL.out; rw [cellsA_size, this]; simp; omega) (size_cellB _ _) (cell_ones _ _) ?_; intro w3 hk3 ho3; have B3 := Lib.hid (B2.out.putC hk3.out ho3); have hkk := B3.out.atH (k := k) (by have := HHL.out; rw [List.length_set, this]; exact hlt); rw [getD_setT (by have := HHL.out; rw [this]; exact hlt), if_pos rfl] at hkk)
            | (at_builtin; refine wpList_append_ints _ rfl (.tmp 76) (.tmp 78) 50 rfl w.heap.size 3 ti _ 8 .i64 Try.underlying50 hti hz0 hz1 hzb rfl _ (smL T (hasL l) k) rfl (B3.out.alloc _).oS (w3.heap.size + 1) (some ⟨w3.heap.size, 0, none⟩) 1 1 [(k : Int)] rfl (rd_one w3 3 .i64 (k : Int)) (by have := HSN.out; simp only [maxLen]; omega) (by have := HSN.out; omega) (B3.out.alloc _).size ?_; intro v4 w4 ho4 hg4 hat4; have B4 := Lib.hid ((B3.out.alloc _).growS hg4 ho4 hat4)))
          go_roundw
          case rel => exact ⟨k + 1, by omega, by go_num, HNY.out _ _ _ B4.out⟩
          case measure => simp [intOf]; omega
        · have HNY := Lib.hid (fun v v' W h => HNX.out.2 (Int.not_lt.1 hpt) v v' W h)
          clear HNX
          go_wp2_with (first
            | (with_reducible refine at_any ?_; refine at_store 63 rfl ?_; refine wpList_store_cell rfl 24 (.tmp 63) (.tmp 62) rfl gH k rfl 24 (intsA .u64 H) B1.out.bH (.int .u64 p) rfl (by have := HHL.out; rw [intsA_size, this]; exact hlt) size_u64b rfl rfl ?_; intro w2 hk2 ho2; have B2 := Lib.hid (B1.out.putH hk2.out ho2))
            | (with_reducible refine at_any ?_; refine at_store 69 rfl ?_; refine wpList_store_mid rfl 44 (.tmp 69) (.tmp 68) rfl (gH + 1) (k * 2) rfl 44 (cellsA C) #[.int .u64 T, .int .i64 (k : Int)] B2.out.bC rfl (by have := HTL.out; rw [cellsA_size, this]; simp; omega) (size_cellB _ _) (cell_ones _ _) ?_; intro w3 hk3 ho3; have B3 := Lib.hid (B2.out.putC hk3.out ho3); have hkk := B3.out.atH (k := k) (by have := HHL.out; rw [List.length_set, this]; exact hlt); rw [getD_setT (by have := HHL.out; rw [this]; exact hlt), if_pos rfl] at hkk)
            | (at_builtin; refine wpList_append_ints _ rfl (.tmp 80) (.tmp 82) 50 rfl w.heap.size 3 ti _ 8 .i64 Try.underlying50 hti hz0 hz1 hzb rfl _ (lgL T (hasL l) k) rfl (B3.out.alloc _).oL (w3.heap.size + 1) (some ⟨w3.heap.size, 0, none⟩) 1 1 [(k : Int)] rfl (rd_one w3 3 .i64 (k : Int)) (by have := HLN.out; simp only [maxLen]; omega) (by have := HLN.out; omega) (B3.out.alloc _).size ?_; intro v4 w4 ho4 hg4 hat4; have B4 := Lib.hid ((B3.out.alloc _).growL hg4 ho4 hat4)))
          go_roundw
          case rel => exact ⟨k + 1, by omega, by go_num, HNY.out _ _ _ B4.out⟩
          case measure => simp [intOf]; omega
      · obtain rfl : k = n := by omega
        have HI0 : Hid (BldS w g2 gH (gH + 1) (abInit T l).has (abInit T l).ts u11 u12 (abInit T l).sm (abInit T l).lg wr) := Lib.hid (by
          have h1 := fill_all (hasL l) 0
          have h2 := fill_all (cellsL T k) (0, 0)
          rw [hasL_len, hlen] at h1
          rw [cells_len] at h2
          rw [h1, h2] at hB
          unfold abInit
          rw [hlen]
          exact hB)
        clear hB B1 HNEXT HST
        go_wp2
        go_loopw [11, 12] (fun vS vL wr => ∃ (f : Nat) (s : AB), abRun T f s = abRun T l.length (abInit T l) ∧ s.sm.length + s.lg.length ≤ f ∧ ABI T l s ∧ BldS w g2 gH (gH + 1) s.has s.ts vS vL s.sm s.lg wr) (fun vS vL _ => lenV vS + lenV vL)
        case atStart => exact ⟨l.length, abInit T l, rfl, Nat.le_of_eq (sl_len T (hasL l) l.length), HII.out, HI0.out⟩
        case round =>
          clear HI0
          obtain ⟨f, s, hrun, hf, hI, hB⟩ := hrel
          by_cases hgo : s.sm.length ≠ 0 ∧ s.lg.length ≠ 0
          · obtain ⟨ia, ib, ha, hb, a1, b1, x0, x1, y0, y1, q1, q2, q3, q4⟩ := hI.tops hgo.1 hgo.2
            have hIN := hI.step hgo.1 hgo.2
            have hln := abStep_len (T := T) hgo.1 hgo.2
            obtain ⟨gS, cS, rfl, hcS, hmS, e1⟩ := hB.oS.last hgo.1
            obtain ⟨gL, cL, rfl, hcL, hmL, e2⟩ := hB.oL.last hgo.2
            rw [ha] at e1
            rw [hb] at e2
            obtain ⟨p, hp⟩ : ∃ p, s.sm.length = p + 1 := ⟨s.sm.length - 1, by omega⟩
            obtain ⟨q, hq⟩ : ∃ p, s.lg.length = p + 1 := ⟨s.lg.length - 1, by omega⟩
            rw [hp] at hcS e1 q3 hB hf hln ⊢
            rw [hq] at hcL e2 q4 hB hf hln ⊢
            rw [Nat.add_sub_cancel] at e1 e2 q3 q4
            have hB2 := (hB.cutS (j := p) (by omega)).cutL (j := q) (by omega)
            obtain ⟨f', rfl⟩ : ∃ f', f = f' + 1 := ⟨f - 1, by omega⟩
            rw [abRun_go hgo.1 hgo.2] at hrun
            have HRUN := Lib.hid hrun
            have HIN := Lib.hid hIN
            have HLN2 : Hid ((abStep T s).sm.length + (abStep T s).lg.length ≤ f') := Lib.hid (by omega)
            have c1 := hB.atH (k := ia) (by rw [hI.hn]; exact a1)
            have HHL : Hid (s.has.length = k) := Lib.hid (by rw [hI.hn, hlen])
            have HTL : Hid (s.ts.length = k) := Lib.hid (by rw [hI.tn, hlen])
            obtain ⟨H, hH⟩ : ∃ H, s.has = H := ⟨_, rfl⟩
            obtain ⟨C, hC⟩ : ∃ H, s.ts = H := ⟨_, rfl⟩
            obtain ⟨x, hx⟩ : ∃ x, H.getD ia 0 = x := ⟨_, rfl⟩
            obtain ⟨y, hy⟩ : ∃ x, H.getD ib 0 = x := ⟨_, rfl⟩
            rw [hH] at HHL x0 x1 y0 y1 q1 q2 q3 q4 c1 hB2
            rw [hC] at HTL q2 hB2
            rw [hx] at x0 x1 q1 q2 q3 q4 c1
            rw [hy] at y0 y1 q1 q3 q4
            obtain ⟨z, hz⟩ : ∃ z, y - (T - x) = z := ⟨_, rfl⟩
            rw [hz] at q1 q3 q4
            have HNXT : Hid ((z < T → ∀ v v' W, BldS w g2 gH (gH + 1) (H.set ib z) (C.set ia (x, (ib : Int))) v v' (s.sm.take p ++ [(ib : Int)]) (s.lg.take q) W → BldS w g2 gH (gH + 1) (abStep T s).has (abStep T s).ts v v' (abStep T s).sm (abStep T s).lg W) ∧ (¬ z < T → ∀ v v' W, BldS w g2 gH (gH + 1) (H.set ib z) (C.set ia (x, (ib : Int))) v v' (s.sm.take p) (s.lg.take q ++ [(ib : Int)]) W → BldS w g2 gH (gH + 1) (abStep T s).has (abStep T s).ts v v' (abStep T s).sm (abStep T s).lg W)) := Lib.hid (by
              rw [q1, q2, q3, q4]
              exact ⟨fun h => by rw [if_pos h, if_pos h]; exact fun _ _ _ h => h, fun h => by rw [if_neg h, if_neg h]; exact fun _ _ _ h => h⟩)
            have HSN : Hid ((s.sm.take p).length ≤ 1000) := Lib.hid (by have := hI.nd_len; rw [List.length_take]; omega)
            have HLN : Hid ((s.lg.take q).length ≤ 1000) := Lib.hid (by have := hI.nd_len; rw [List.length_take]; omega)
            have HAN := Lib.hid (show ia < k by omega)
            have HBN := Lib.hid (show ib < k by omega)
            have HVS : Hid ((s.sm.take p).length = p) := Lib.hid (by rw [List.length_take]; omega)
            have HVL : Hid ((s.lg.take q).length = q) := Lib.hid (by rw [List.length_take]; omega)
            have HB2 := Lib.hid (fun M => hB2.drewN M)
            have i4 : (p : Int) < 1000 := by have := HSN.out; have := HVS.out; have := hI.nd_len; omega
            have i5 : (q : Int) < 1000 := by have := hI.nd_len; omega
            have i6 : (ia : Int) < (k : Int) := by omega
            have i7 : (ib : Int) < (k : Int) := by omega
            have z0 : 0 ≤ z := by omega
            have z1 : z < 9223372036854775808 := by omega
            have w1 : IntKind.u64.wrap (T - x) = T - x := by rw [IntKind.wrap_u64]; omega
            have w2 : IntKind.u64.wrap (y - (T - x)) = z := by rw [hz, IntKind.wrap_u64]; omega
            have W1 := Lib.hid w1
            have W2 := Lib.hid w2
            have HYH := Lib.hid hy
            have HXH := Lib.hid hx
            clear hp hq hH hC hx hy hz ha hb hI hIN hrun hf hln q1 q2 q3 q4 hB hB2 hgo a1 b1 w1 w2
            go_wp2
            go_quiet (fail)
            go_wp2
            go_quiet (fail)
            go_wp2_with (first
              | (with_reducible refine at_any ?_; refine at_store 122 rfl ?_; refine wpList_store_mid rfl 44 (.tmp 122) (.tmp 121) rfl (gH + 1) (ia * 2) rfl 44 (cellsA C) #[.int .u64 x, .int .i64 (ib : Int)] (HB2.out _).bC rfl (by have := HTL.out; rw [cellsA_size, this]; simp; omega) (size_cellB _ _) (cell_ones _ _) ?_; intro w3 hk3 ho3; have B3 := Lib.hid ((HB2.out _).putC hk3.out ho3)))
            have HB3 := B3.out.drew
            refine wp_region_held_drew (S := (fun _ => True)) (by kernel_rfl) trivial (fun hH => ?_)
            refine wpAnyH_letter #[false, false, false, false, false, false, false, false, false, false, false, false, false, false, false] (by kernel_rfl) (fun _ _ d _ _ h => by cases d <;> exact h) (fun QL HQ1 HQ2 => ?_)
            refine held_v 0 (some 123) rfl (by kernel_rfl) (by kernel_rfl) (by kernel_rfl) (by kernel_rfl) (fun c a v w h => HQ2.out c a _ v w h) (by kernel_rfl) (.slice (some ⟨gH, 0, none⟩) k k) (fun W h => by kernel_rfl) trivial ?_
            try simp only [Act.put, List.setIfInBounds_toArray, List.set_cons_zero, List.set_cons_succ]
            refine held_v 1 (some 124) rfl (by kernel_rfl) (by kernel_rfl) (by kernel_rfl) (by kernel_rfl) (fun c a v w h => HQ2.out c a _ v w h) (by kernel_rfl) (.int .i64 (ib : Int)) (fun W h => by kernel_rfl) trivial ?_
            try simp only [Act.put, List.setIfInBounds_toArray, List.set_cons_zero, List.set_cons_succ]
            refine held_v 2 (some 125) rfl (by kernel_rfl) (by kernel_rfl) (by kernel_rfl) (by kernel_rfl) (fun c a v w h => HQ2.out c a _ v w h) (by kernel_rfl) (.slice (some ⟨gH, 0, none⟩) k k) (fun W h => by kernel_rfl) trivial ?_
            try simp only [Act.put, List.setIfInBounds_toArray, List.set_cons_zero, List.set_cons_succ]
            refine held_v 3 (some 126) rfl (by kernel_rfl) (by kernel_rfl) (by kernel_rfl) (by kernel_rfl) (fun c a v w h => HQ2.out c a _ v w h) (by kernel_rfl) (.int .i64 (ib : Int)) (fun W h => by kernel_rfl) trivial ?_
            try simp only [Act.put, List.setIfInBounds_toArray, List.set_cons_zero, List.set_cons_succ]
            refine held_v 4 (some 127) rfl (by kernel_rfl) (by kernel_rfl) (by kernel_rfl) (by kernel_rfl) (fun c a v w h => HQ2.out c a _ v w h) (by kernel_rfl) (.pointer (some ⟨gH, ib, none⟩)) (fun W h => by go_simp) trivial ?_
            try simp only [Act.put, List.setIfInBounds_toArray, List.set_cons_zero, List.set_cons_succ]
            refine held_v 6 (some 129) rfl (by kernel_rfl) (by kernel_rfl) (by kernel_rfl) (by kernel_rfl) (fun c a v w h => HQ2.out c a _ v w h) (by kernel_rfl) (.int .u64 T) (fun W h => by kernel_rfl) trivial ?_
            try simp only [Act.put, List.setIfInBounds_toArray, List.set_cons_zero, List.set_cons_succ]
            refine held_v 7 (some 130) rfl (by kernel_rfl) (by kernel_rfl) (by kernel_rfl) (by kernel_rfl) (fun c a v w h => HQ2.out c a _ v w h) (by kernel_rfl) (.slice (some ⟨gH, 0, none⟩) k k) (fun W h => by kernel_rfl) trivial ?_
            try simp only [Act.put, List.setIfInBounds_toArray, List.set_cons_zero, List.set_cons_succ]
            refine held_v 8 (some 131) rfl (by kernel_rfl) (by kernel_rfl) (by kernel_rfl) (by kernel_rfl) (fun c a v w h => HQ2.out c a _ v w h) (by kernel_rfl) (.int .i64 (ia : Int)) (fun W h => by kernel_rfl) trivial ?_
            try simp only [Act.put, List.setIfInBounds_toArray, List.set_cons_zero, List.set_cons_succ]
            refine held_v 9 (some 132) rfl (by kernel_rfl) (by kernel_rfl) (by kernel_rfl) (by kernel_rfl) (fun c a v w h => HQ2.out c a _ v w h) (by kernel_rfl) (.pointer (some ⟨gH, ia, none⟩)) (fun W h => by go_simp) trivial ?_
            try simp only [Act.put, List.setIfInBounds_toArray, List.set_cons_zero, List.set_cons_succ]
            refine wpAnyH_ready (rs := [5, 10]) (by kernel_rfl) (by decide) ?_
            refine AllReadyH.cons rfl (fun K hK => ?_) (AllReadyH.cons rfl (fun K hK => ?_) AllReadyH.nil)
            · refine step_v (some 128) (by kernel_rfl) (by kernel_rfl) (.int .u64 y) (by have p := (HB3).atH (k := ib) (by rw [HHL.out]; exact HBN.out); rw [HYH.out] at p; go_simp) ?_
              refine hK.out _ _ trivial (fun _ => ?_)
              clear hK K
              try simp only [Act.put, List.setIfInBounds_toArray, List.set_cons_zero, List.set_cons_succ]
              refine wpAnyH_ready (rs := [10]) (by kernel_rfl) (by decide) ?_
              refine AllReadyH.cons rfl (fun K hK => ?_) AllReadyH.nil
              refine step_v (some 133) (by kernel_rfl) (by kernel_rfl) (.int .u64 x) (by have p := (HB3).atH (k := ia) (by rw [HHL.out]; exact HAN.out); rw [HXH.out] at p; go_simp) ?_
              refine hK.out _ _ trivial (fun _ => ?_)
              clear hK K
              try simp only [Act.put, List.setIfInBounds_toArray, List.set_cons_zero, List.set_cons_succ]
              refine held_v 11 (some 134) rfl (by kernel_rfl) (by kernel_rfl) (by kernel_rfl) (by kernel_rfl) (fun c a v w h => HQ2.out c a _ v w h) (by kernel_rfl) (.int .u64 (T - x)) (fun W h => by have p := W1.out; go_simp) trivial ?_
              try simp only [Act.put, List.setIfInBounds_toArray, List.set_cons_zero, List.set_cons_succ]
              refine held_v 12 (some 135) rfl (by kernel_rfl) (by kernel_rfl) (by kernel_rfl) (by kernel_rfl) (fun c a v w h => HQ2.out c a _ v w h) (by kernel_rfl) (.int .u64 z) (fun W h => by have p := W2.out; go_simp) trivial ?_
              try simp only [Act.put, List.setIfInBounds_toArray, List.set_cons_zero, List.set_cons_succ]
              refine held_v 13 (some 136) rfl (by kernel_rfl) (by kernel_rfl) (by kernel_rfl) (by kernel_rfl) (fun c a v w h => HQ2.out c a _ v w h) (by kernel_rfl) (.pointer (some ⟨gH, ib, none⟩)) (fun W h => by go_simp) trivial ?_
              try simp only [Act.put, List.setIfInBounds_toArray, List.set_cons_zero, List.set_cons_succ]
              refine wpAnyH_ready (rs := [14]) (by kernel_rfl) (by decide) ?_
              refine AllReadyH.cons rfl (fun K hK => ?_) AllReadyH.nil
              refine step_store_cell none (by kernel_rfl) (by kernel_rfl) 24 (.tmp 136) (.tmp 135) rfl gH ib (by kernel_rfl) 24 _ HB3.bH (.int .u64 z) (by kernel_rfl) (by have := HHL.out; rw [intsA_size, this]; exact HBN.out) size_u64b rfl rfl ?_
              intro w43 hkw43 how43
              have trw43 := HB3.putH hkw43.out how43
              refine hK.out _ _ trivial (fun _ => ?_)
              clear hK K
              try simp only [Act.put, List.setIfInBounds_toArray, List.set_cons_zero, List.set_cons_succ]
              refine wpAnyH_done (by kernel_rfl) ?_ _
              refine HQ1.out _ _ ?_
              clear HQ1 HQ2
              have B5 := Lib.hid trw43
              have c5 := (trw43).atH (k := ib) (by rw [List.length_set, HHL.out]; exact HBN.out)
              rw [getD_setT (by rw [HHL.out]; exact HBN.out), if_pos rfl] at c5
              clear trw43
              by_cases hlt2 : z < T
              · have HNY := Lib.hid (fun v v' W h => HNXT.out.1 hlt2 v v' W h)
                clear HNXT
                go_wp2_with (first
                  | (at_builtin; refine wpList_append_ints _ rfl (.tmp 143) (.tmp 145) 50 rfl w.heap.size 3 ti _ 8 .i64 Try.underlying50 hti hz0 hz1 hzb rfl _ (s.sm.take p) rfl (B5.out.alloc _).oS (w43.heap.size + 1) (some ⟨w43.heap.size, 0, none⟩) 1 1 [(ib : Int)] rfl (rd_one w43 3 .i64 (ib : Int)) (by have := HSN.out; simp only [maxLen]; omega) (by have := HSN.out; omega) (B5.out.alloc _).size ?_; intro v6 w6 ho6 hg6 hat6; have B6 := Lib.hid ((B5.out.alloc _).growS hg6 ho6 hat6)))
                go_roundw
                case rel => exact ⟨f', abStep T s, HRUN.out, HLN2.out, HIN.out, HNY.out _ _ _ B6.out⟩
                case measure => have := B6.out.oS.lenV; rw [List.length_append, HVS.out] at this; simp only [List.length_cons, List.length_nil] at this; show lenV _ + q < (p + 1) + (q + 1); rw [this]; omega
              · have HNY := Lib.hid (fun v v' W h => HNXT.out.2 (Int.not_lt.1 hlt2) v v' W h)
                clear HNXT
                go_wp2_with (first
                  | (at_builtin; refine wpList_append_ints _ rfl (.tmp 147) (.tmp 149) 50 rfl w.heap.size 3 ti _ 8 .i64 Try.underlying50 hti hz0 hz1 hzb rfl _ (s.lg.take q) rfl (B5.out.alloc _).oL (w43.heap.size + 1) (some ⟨w43.heap.size, 0, none⟩) 1 1 [(ib : Int)] rfl (rd_one w43 3 .i64 (ib : Int)) (by have := HLN.out; simp only [maxLen]; omega) (by have := HLN.out; omega) (B5.out.alloc _).size ?_; intro v6 w6 ho6 hg6 hat6; have B6 := Lib.hid ((B5.out.alloc _).growL hg6 ho6 hat6)))
                go_roundw
                case rel => exact ⟨f', abStep T s, HRUN.out, HLN2.out, HIN.out, HNY.out _ _ _ B6.out⟩
                case measure => have := B6.out.oL.lenV; rw [List.length_append, HVL.out] at this; simp only [List.length_cons, List.length_nil] at this; show p + lenV _ < (p + 1) + (q + 1); rw [this]; omega
            · refine step_v (some 133) (by kernel_rfl) (by kernel_rfl) (.int .u64 x) (by have p := (HB3).atH (k := ia) (by rw [HHL.out]; exact HAN.out); rw [HXH.out] at p; go_simp) ?_
              refine hK.out _ _ trivial (fun _ => ?_)
              clear hK K
              try simp only [Act.put, List.setIfInBounds_toArray, List.set_cons_zero, List.set_cons_succ]
              refine held_v 11 (some 134) rfl (by kernel_rfl) (by kernel_rfl) (by kernel_rfl) (by kernel_rfl) (fun c a v w h => HQ2.out c a _ v w h) (by kernel_rfl) (.int .u64 (T - x)) (fun W h => by have p := W1.out; go_simp) trivial ?_
              try simp only [Act.put, List.setIfInBounds_toArray, List.set_cons_zero, List.set_cons_succ]
              refine wpAnyH_ready (rs := [5]) (by kernel_rfl) (by decide) ?_
              refine AllReadyH.cons rfl (fun K hK => ?_) AllReadyH.nil
              refine step_v (some 128) (by kernel_rfl) (by kernel_rfl) (.int .u64 y) (by have p := (HB3).atH (k := ib) (by rw [HHL.out]; exact HBN.out); rw [HYH.out] at p; go_simp) ?_
              refine hK.out _ _ trivial (fun _ => ?_)
              clear hK K
              try simp only [Act.put, List.setIfInBounds_toArray, List.set_cons_zero, List.set_cons_succ]
              refine held_v 12 (some 135) rfl (by kernel_rfl) (by kernel_rfl) (by kernel_rfl) (by kernel_rfl) (fun c a v w h => HQ2.out c a _ v w h) (by kernel_rfl) (.int .u64 z) (fun W h => by have p := W2.out; go_simp) trivial ?_
              try simp only [Act.put, List.setIfInBounds_toArray, List.set_cons_zero, List.set_cons_succ]
              refine held_v 13 (some 136) rfl (by kernel_rfl) (by kernel_rfl) (by kernel_rfl) (by kernel_rfl) (fun c a v w h => HQ2.out c a _ v w h) (by kernel_rfl) (.pointer (some ⟨gH, ib, none⟩)) (fun W h => by go_simp) trivial ?_
              try simp only [Act.put, List.setIfInBounds_toArray, List.set_cons_zero, List.set_cons_succ]
              refine wpAnyH_ready (rs := [14]) (by kernel_rfl) (by decide) ?_
              refine AllReadyH.cons rfl (fun K hK => ?_) AllReadyH.nil
              refine step_store_cell none (by kernel_rfl) (by kernel_rfl) 24 (.tmp 136) (.tmp 135) rfl gH ib (by kernel_rfl) 24 _ HB3.bH (.int .u64 z) (by kernel_rfl) (by have := HHL.out; rw [intsA_size, this]; exact HBN.out) size_u64b rfl rfl ?_
              intro w46 hkw46 how46
              have trw46 := HB3.putH hkw46.out how46
              refine hK.out _ _ trivial (fun _ => ?_)
              clear hK K
              try simp only [Act.put, List.setIfInBounds_toArray, List.set_cons_zero, List.set_cons_succ]
              refine wpAnyH_done (by kernel_rfl) ?_ _
              refine HQ1.out _ _ ?_
              clear HQ1 HQ2
              have B5 := Lib.hid trw46
              have c5 := (trw46).atH (k := ib) (by rw [List.length_set, HHL.out]; exact HBN.out)
              rw [getD_setT (by rw [HHL.out]; exact HBN.out), if_pos rfl] at c5
              clear trw46
              by_cases hlt2 : z < T
              · have HNY := Lib.hid (fun v v' W h => HNXT.out.1 hlt2 v v' W h)
                clear HNXT
                go_wp2_with (first
                  | (at_builtin; refine wpList_append_ints _ rfl (.tmp 143) (.tmp 145) 50 rfl w.heap.size 3 ti _ 8 .i64 Try.underlying50 hti hz0 hz1 hzb rfl _ (s.sm.take p) rfl (B5.out.alloc _).oS (w46.heap.size + 1) (some ⟨w46.heap.size, 0, none⟩) 1 1 [(ib : Int)] rfl (rd_one w46 3 .i64 (ib : Int)) (by have := HSN.out; simp only [maxLen]; omega) (by have := HSN.out; omega) (B5.out.alloc _).size ?_; intro v6 w6 ho6 hg6 hat6; have B6 := Lib.hid ((B5.out.alloc _).growS hg6 ho6 hat6)))
                go_roundw
                case rel => exact ⟨f', abStep T s, HRUN.out, HLN2.out, HIN.out, HNY.out _ _ _ B6.out⟩
                case measure => have := B6.out.oS.lenV; rw [List.length_append, HVS.out] at this; simp only [List.length_cons, List.length_nil] at this; show lenV _ + q < (p + 1) + (q + 1); rw [this]; omega
              · have HNY := Lib.hid (fun v v' W h => HNXT.out.2 (Int.not_lt.1 hlt2) v v' W h)
                clear HNXT
                go_wp2_with (first
                  | (at_builtin; refine wpList_append_ints _ rfl (.tmp 147) (.tmp 149) 50 rfl w.heap.size 3 ti _ 8 .i64 Try.underlying50 hti hz0 hz1 hzb rfl _ (s.lg.take q) rfl (B5.out.alloc _).oL (w46.heap.size + 1) (some ⟨w46.heap.size, 0, none⟩) 1 1 [(ib : Int)] rfl (rd_one w46 3 .i64 (ib : Int)) (by have := HLN.out; simp only [maxLen]; omega) (by have := HLN.out; omega) (B5.out.alloc _).size ?_; intro v6 w6 ho6 hg6 hat6; have B6 := Lib.hid ((B5.out.alloc _).growL hg6 ho6 hat6)))
                go_roundw
                case rel => exact ⟨f', abStep T s, HRUN.out, HLN2.out, HIN.out, HNY.out _ _ _ B6.out⟩
                case measure => have := B6.out.oL.lenV; rw [List.length_append, HVL.out] at this; simp only [List.length_cons, List.length_nil] at this; show p + lenV _ < (p + 1) + (q + 1); rw [this]; omega
          · have hfin : s = abRun T l.length (abInit T l) := by rw [← hrun, abRun_stop (by omega)]
            have hts : tbC l = s.ts := by rw [HE2.out, ← hfin]
            have hTL : s.ts.length = k := by rw [hI.tn, hlen]
            obtain ⟨A1, d1, rfl, -, -⟩ := hB.oS.form
            obtain ⟨A2, d2, rfl, -, -⟩ := hB.oL.form
            have B7 := Lib.hid hB
            have HEND : Hid (∀ w', Blk w' (gH + 1) 44 (cellsA s.ts) → Below w.heap.size w w' → RetTab w (tbT l) (tbC l).length (tbC l) (tbE l) (.returned (.tuple #[.agg #[.int .u64 T, .slice (some ⟨gH + 1, 0, none⟩) k k], .int .i64 0])) w') := Lib.hid (fun w' h1 h2 => by
              rw [HE1.out, hts, HOK2.out, hTL]
              have h3 := RdPr.of_blk h1
              rw [hTL] at h3
              exact ⟨some ⟨gH + 1, 0, none⟩, k, rfl, h3, Nat.le_refl _, by simp only [maxLen]; omega, h2⟩)
            have HG2L : Hid (w.heap.size ≤ g2) := Lib.hid hB.le2
            obtain ⟨P, hP⟩ : ∃ P, s.sm.length = P := ⟨_, rfl⟩
            obtain ⟨Q, hQ⟩ : ∃ P, s.lg.length = P := ⟨_, rfl⟩
            rw [hP, hQ] at hgo ⊢
            have hPQ : P = 0 ∨ Q = 0 := by omega
            have hPQ2 := hI.nd_len
            rw [hP, hQ] at hPQ2
            have j0 : (P : Int) ≤ 1000 := by omega
            have j1 : (Q : Int) ≤ 1000 := by omega
            clear hfin hts hTL hrun hf hI hB hP hQ hgo hPQ2
            by_cases hP0 : P = 0
            · subst hP0
              clear hPQ
              go_wp2_with (first
                | (with_reducible refine at_any ?_; refine at_store 2 rfl ?_; refine wpList_store_any rfl 27 (.tmp 2) (.tmp 153) rfl g2 rfl 27 #[.int .u64 0, .slice none 0 0] #[.int .u64 T, .slice (some ⟨gH + 1, 0, none⟩) k k] B7.out.b2 rfl (size2T _ _ _ _) (size_tabB _ _) (tab_ones _ _ _ _) ?_; intro w9 hk9 hs9 hb9 ho9; have HB9 := Lib.hid (B7.out.bel.trans (hb9 _ HG2L.out)); have HC9 := Lib.hid (B7.out.bC.other ho9 (B7.out.bC.ne B7.out.b2 (by decide))))
                | (refine bodyPost_any2 2 3 27 rfl g2 rfl (.int .i64 0) rfl 27 #[.int .u64 T, .slice (some ⟨gH + 1, 0, none⟩) k k] hk9.out _ Try.underlying27 rfl (size_tabB _ _) rfl ?_))
              exact HEND.out _ HC9.out HB9.out
            · have hQ0 : Q = 0 := by omega
              subst hQ0
              have j2 : (0 : Int) < (P : Int) := by omega
              clear hPQ hP0
              go_wp2_with (first
                | (with_reducible refine at_any ?_; refine at_store 2 rfl ?_; refine wpList_store_any rfl 27 (.tmp 2) (.tmp 153) rfl g2 rfl 27 #[.int .u64 0, .slice none 0 0] #[.int .u64 T, .slice (some ⟨gH + 1, 0, none⟩) k k] B7.out.b2 rfl (size2T _ _ _ _) (size_tabB _ _) (tab_ones _ _ _ _) ?_; intro w9 hk9 hs9 hb9 ho9; have HB9 := Lib.hid (B7.out.bel.trans (hb9 _ HG2L.out)); have HC9 := Lib.hid (B7.out.bC.other ho9 (B7.out.bC.ne B7.out.b2 (by decide))))
                | (refine bodyPost_any2 2 3 27 rfl g2 rfl (.int .i64 0) rfl 27 #[.int .u64 T, .slice (some ⟨gH + 1, 0, none⟩) k k] hk9.out _ Try.underlying27 rfl (size_tabB _ _) rfl ?_))
              exact HEND.out _ HC9.out HB9.out
end Go.Proofs.Ytkgajcifanobnaa

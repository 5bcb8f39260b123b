/-
  What the landed alias's Build returns: the table of stakes, or why there is none; memory is left as it was.
  Conditions: the stakes lie in their type's range; there are at most 1000.
-/
import Derived.Test.YtkgajcifanobnaaAlsH
import Derived.Test.YtkgajcifanobnaaRefZd
import Derived.Test.YtkgajcifanobnaaSafA
set_option maxRecDepth 100000
set_option linter.unusedVariables false
set_option linter.unusedSimpArgs false
namespace Go.Proofs.Ytkgajcifanobnaa
open Go.ChangeShapes Go.WideShapes Go.ChangeAt Go.RowKit
theorem range_two {w : World} {b : Nat} {u v : Value} (h : w.cell? ⟨b, 0, none⟩ = some u) (h2 : w.cell? ⟨b, 1, none⟩ = some v) : w.rangeAt b 0 [u, v] := by
  intro j z hz
  match j, hz with
  | 0, hz => injection hz with hz; subst hz; exact h
  | 1, hz => injection hz with hz; subst hz; exact h2
  | j + 2, hz => simp at hz
theorem size_tabH (u v : Value) : (Try.prog.info? 27).map (·.size) = some [u, v].length := by kernel_rfl
set_option maxHeartbeats 8000000 in
theorem q14build_c (l : List Int) (hz : ∀ z ∈ l, 0 ≤ z ∧ z < 18446744073709551616) (A : Option Addr) (n c : Nat) (hn : n ≤ 1000) (w : World) (hrd : Rd .u64 w w.heap.size A n l) : Calls Try.prog 9 #[.slice A n c] w (RetTab w (tbT l) (tbC l).length (tbC l) (tbE l)) := by
  have HR := Lib.hid hrd
  have hlen := hrd.len
  have HTO := Lib.hid (fun W h => q9total_c l hz A n c (by simp only [maxLen]; omega) W h)
  have HEMP : Hid (∀ er w', tbE l = er → er ≠ 0 → Below w.heap.size w w' → RetTab w (tbT l) (tbC l).length (tbC l) (tbE l) (.returned (.tuple #[.agg #[.int .u64 0, .slice none 0 0], .int .i64 er])) w') := Lib.hid (fun er w' h h0 hb => by
    obtain ⟨e1, e2⟩ := tb_no (l := l) (by rw [h]; exact h0)
    rw [e1, e2, h]
    exact ⟨none, 0, rfl, RdPr.nil _ _ _ _ _, Nat.le_refl _, by simp [maxLen], hb⟩)
  have hz' : ∀ z ∈ l, 0 ≤ z := fun z h => (hz z h).1
  have hs0 := sumL_nn hz'
  by_cases h1 : sumL l < 9223372036854775808
  case neg =>
    obtain ⟨e1, e2⟩ := sumV_no h1
    have n0 : l.length ≠ 0 := fun h => h1 (by rw [List.eq_nil_of_length_eq_zero h]; decide)
    have HE := Lib.hid (tbE_big n0 h1)
    rw [e1, e2] at HTO
    clear hrd hz hlen hz' hs0 h1 e1 e2 n0
    go_enter Try.func9, Try.ntmps9
    go_wp2_with (first
      | (with_reducible refine at_any ?_; refine at_dst 2 rfl ?_; refine wpList_alloc_any rfl 27 rfl #[.int .u64 0, .slice none 0 0] zero_tab ?_; intro w1 hk1 hs1 hb1; have HB1 := Lib.hid hb1; have HK1 := Lib.hid hk1.out)
      | (go_at_call 24; (with_reducible refine (HTO.out _ ((HR.out.below HB1.out).mono HB1.out.size)).mono ?_); rintro e _ ⟨rfl, rfl⟩)
      | (with_reducible refine at_any ?_; refine at_dst 16 rfl ?_; refine wpList_val rfl (.agg #[.int .u64 0, .slice none 0 0]) (build_tab0 _ rfl) ?_)
      | (with_reducible refine at_any ?_; refine at_store 2 rfl ?_; refine wpList_store_any rfl 27 (.tmp 2) (.tmp 16) rfl w.heap.size rfl 27 #[.int .u64 0, .slice none 0 0] #[.int .u64 0, .slice none 0 0] hk1.out rfl (size2T _ _ _ _) (size_tabB _ _) (tab_ones _ _ _ _) ?_; intro w9 hk9 hs9 hb9 ho9; have HB9 := Lib.hid (HB1.out.trans (hb9 _ (Nat.le_refl _))))
      | (refine bodyPost_any2 2 3 27 rfl w.heap.size rfl (.int .i64 11) rfl 27 #[.int .u64 0, .slice none 0 0] hk9.out _ Try.underlying27 rfl (size_tabB _ _) rfl ?_))
    exact HEMP.out 11 _ HE.out (by decide) HB9.out
  obtain ⟨e1, e2⟩ := sumV_ok h1
  rw [e1, e2] at HTO
  by_cases h2 : sumL l = 0
  · have HE : Hid (tbE l = 10) := Lib.hid (by
      by_cases h : l.length = 0
      · rw [List.eq_nil_of_length_eq_zero h]; rfl
      · exact tbE_zero h h1 h2)
    rw [h2] at HTO
    clear hrd hz hlen hz' hs0 h1 e1 e2 h2
    go_enter Try.func9, Try.ntmps9
    go_wp2_with (first
      | (with_reducible refine at_any ?_; refine at_dst 2 rfl ?_; refine wpList_alloc_any rfl 27 rfl #[.int .u64 0, .slice none 0 0] zero_tab ?_; intro w1 hk1 hs1 hb1; have HB1 := Lib.hid hb1; have HK1 := Lib.hid hk1.out)
      | (go_at_call 24; (with_reducible refine (HTO.out _ ((HR.out.below HB1.out).mono HB1.out.size)).mono ?_); rintro e _ ⟨rfl, rfl⟩)
      | (with_reducible refine at_any ?_; refine at_dst 19 rfl ?_; refine wpList_val rfl (.agg #[.int .u64 0, .slice none 0 0]) (build_tab0 _ rfl) ?_)
      | (with_reducible refine at_any ?_; refine at_store 2 rfl ?_; refine wpList_store_any rfl 27 (.tmp 2) (.tmp 19) rfl w.heap.size rfl 27 #[.int .u64 0, .slice none 0 0] #[.int .u64 0, .slice none 0 0] hk1.out rfl (size2T _ _ _ _) (size_tabB _ _) (tab_ones _ _ _ _) ?_; intro w9 hk9 hs9 hb9 ho9; have HB9 := Lib.hid (HB1.out.trans (hb9 _ (Nat.le_refl _))))
      | (refine bodyPost_any2 2 3 27 rfl w.heap.size rfl (.int .i64 10) rfl 27 #[.int .u64 0, .slice none 0 0] hk9.out _ Try.underlying27 rfl (size_tabB _ _) rfl ?_))
    exact HEMP.out 10 _ HE.out (by decide) HB9.out
  have n0 : 0 < n := by
    rcases Nat.eq_zero_or_pos n with h | h
    · exact absurd (by rw [List.eq_nil_of_length_eq_zero (hlen.trans h)]; rfl) h2
    · exact h
  have HM := Lib.hid (fun W => q9mul_c (n : Int) (sumL l) (by omega) (by omega) hs0 (by omega) W)
  have tT : (sumL l == 0) = false := by rw [beq_eq_false_iff_ne]; exact h2
  have i2 : (n : Int) ≤ 1000 := by omega
  by_cases h3 : (n : Int) * sumL l < 9223372036854775808
  case neg =>
    obtain ⟨e3, e4⟩ := mulV_no h3
    rw [e3, e4] at HM
    have HE := Lib.hid (tbE_mul (by omega) h1 h2 (by rw [hlen]; exact h3))
    obtain ⟨T, hT⟩ : ∃ T, sumL l = T := ⟨_, rfl⟩
    rw [hT] at HTO HM hs0 h1 tT
    clear hrd hz hlen hz' e1 e2 e3 e4 h2 h3 hT
    go_enter Try.func9, Try.ntmps9
    go_wp2_with (first
      | (with_reducible refine at_any ?_; refine at_dst 2 rfl ?_; refine wpList_alloc_any rfl 27 rfl #[.int .u64 0, .slice none 0 0] zero_tab ?_; intro w1 hk1 hs1 hb1; have HB1 := Lib.hid hb1; have HK1 := Lib.hid hk1.out)
      | (go_at_call 24; (with_reducible refine (HTO.out _ ((HR.out.below HB1.out).mono HB1.out.size)).mono ?_); rintro e _ ⟨rfl, rfl⟩)
      | (go_at_call 25; (with_reducible refine (HM.out _).mono ?_); rintro e _ ⟨rfl, rfl⟩)
      | (with_reducible refine at_any ?_; refine at_dst 30 rfl ?_; refine wpList_val rfl (.agg #[.int .u64 0, .slice none 0 0]) (build_tab0 _ rfl) ?_)
      | (with_reducible refine at_any ?_; refine at_store 2 rfl ?_; refine wpList_store_any rfl 27 (.tmp 2) (.tmp 30) rfl w.heap.size rfl 27 #[.int .u64 0, .slice none 0 0] #[.int .u64 0, .slice none 0 0] hk1.out rfl (size2T _ _ _ _) (size_tabB _ _) (tab_ones _ _ _ _) ?_; intro w9 hk9 hs9 hb9 ho9; have HB9 := Lib.hid (HB1.out.trans (hb9 _ (Nat.le_refl _))))
      | (refine bodyPost_any2 2 3 27 rfl w.heap.size rfl (.int .i64 11) rfl 27 #[.int .u64 0, .slice none 0 0] hk9.out _ Try.underlying27 rfl (size_tabB _ _) rfl ?_))
    exact HEMP.out 11 _ HE.out (by decide) HB9.out
  · obtain ⟨e3, e4⟩ := mulV_ok h3
    rw [e3, e4] at HM
    have HOK := tbE_ok (l := l) (by omega) h1 h2 (by rw [hlen]; exact h3)
    obtain ⟨E1, EI, E2, EF⟩ := tb_abi hz' HOK
    have hI := ABI.init hz' (by omega) (by rw [hlen]; exact h3)
    have hZZ : ∀ k, k < n → 0 ≤ l.getD k 0 ∧ l.getD k 0 < 18446744073709551616 ∧ 0 ≤ (n : Int) * l.getD k 0 ∧ (n : Int) * l.getD k 0 < 9223372036854775808 := fun k hk => by
      have g1 := getD_le hz' (i := k) (by omega)
      have g2 := mul_le_of (n := (n : Int)) (by omega) g1.2
      have g3 := Int.mul_nonneg (show (0 : Int) ≤ (n : Int) by omega) g1.1
      exact ⟨g1.1, by omega, g3, by omega⟩
    obtain ⟨T, hT⟩ : ∃ T, sumL l = T := ⟨_, rfl⟩
    rw [hT] at HTO HM hs0 h1 tT h2 EI E1 E2 EF h3 hI
    have HLY := Lib.hid (fun W h => q14lay_c l T hs0 h1 A n c hn hZZ W h)
    have HPA := Lib.hid (fun (w0 : World) (g gH gC : Nat) (s : AB) hI h1' h2' vS vL W h => q14pair_c (w0 := w0) (g := g) (gH := gH) (gC := gC) l s hI hlen hn hs0 h1 h1' h2' vS vL W h)
    have HE2 := Lib.hid E2
    have HE1 := Lib.hid E1
    have HII := Lib.hid hI
    have HOK2 := Lib.hid HOK
    have i3 : (0 : Int) < (n : Int) := by omega
    obtain ⟨m, hm⟩ : ∃ m, (n : Int) * T = m := ⟨_, rfl⟩
    rw [hm] at HM h3
    clear hrd hz hz' e1 e2 e3 e4 hT EI E1 E2 EF hI HOK HEMP hZZ hm
    go_enter Try.func9, Try.ntmps9
    go_wp2_with (first
      | (with_reducible refine at_any ?_; refine at_dst 2 rfl ?_; refine wpList_alloc_any rfl 27 rfl #[.int .u64 0, .slice none 0 0] zero_tab ?_; intro w1 hk1 hs1 hb1; have HB1 := Lib.hid hb1; have HK1 := Lib.hid hk1.out)
      | (go_at_call 24; (with_reducible refine (HTO.out _ ((HR.out.below HB1.out).mono HB1.out.size)).mono ?_); rintro e _ ⟨rfl, rfl⟩)
      | (go_at_call 25; (with_reducible refine (HM.out _).mono ?_); rintro e _ ⟨rfl, rfl⟩)
      | (go_at_call 26; (with_reducible refine (HLY.out _ ((HR.out.below HB1.out).mono HB1.out.size)).mono ?_); rintro e w2 ⟨g, gH, gC, vS, vL, rfl, hB⟩; have HB2 := Lib.hid hB; clear hB))
    obtain ⟨g2, hg2⟩ : ∃ g, w.heap.size = g := ⟨_, rfl⟩
    have hg2le : w.heap.size ≤ g2 := Nat.le_of_eq hg2
    rw [hg2] at HK1 ⊢
    clear hk1 hs1 hb1 hg2
    go_loopw [] (fun wr => ∃ (f : Nat) (s : AB) (vS vL : Value), abRun T f s = abRun T l.length (abInit T l) ∧ s.sm.length + s.lg.length ≤ f ∧ ABI T l s ∧ LayS w1 g gH gC n T s.has s.ts vS vL s.sm s.lg wr) (fun wr => layM g wr)
    case atStart => exact ⟨l.length, abInit T l, _, _, rfl, Nat.le_of_eq (sl_len T (hasL l) l.length), HII.out, HB2.out⟩
    case round =>
      obtain ⟨f, s, vS, vL, hrun, hf, hI, hB⟩ := hrel
      have hme := hB.meas
      by_cases hgo : s.sm.length ≠ 0 ∧ s.lg.length ≠ 0
      · have hIN := hI.step hgo.1 hgo.2
        have hln := abStep_len (T := T) hgo.1 hgo.2
        obtain ⟨f', rfl⟩ : ∃ f', f = f' + 1 := ⟨f - 1, by omega⟩
        rw [abRun_go hgo.1 hgo.2] at hrun
        have HRUN := Lib.hid hrun
        have HIN := Lib.hid hIN
        have HLN2 : Hid ((abStep T s).sm.length + (abStep T s).lg.length ≤ f') := Lib.hid (by omega)
        have HME : Hid (∀ W vS vL, LayS w1 g gH gC n T (abStep T s).has (abStep T s).ts vS vL (abStep T s).sm (abStep T s).lg W → layM g W < layM g wr) := Lib.hid (fun W vS vL h => by rw [h.meas, hme]; omega)
        have HPR := Lib.hid (HPA.out w1 g gH gC s hI hgo.1 hgo.2 vS vL _ hB)
        obtain ⟨A1, d1, rfl, -, -⟩ := hB.oS.form
        obtain ⟨A2, d2, rfl, -, -⟩ := hB.oL.form
        have c3 := hB.c3
        have c4 := hB.c4
        have hnd := hI.nd_len
        obtain ⟨p, hp⟩ : ∃ p, s.sm.length = p := ⟨_, rfl⟩
        obtain ⟨q, hq⟩ : ∃ p, s.lg.length = p := ⟨_, rfl⟩
        rw [hp] at c3 hgo hnd
        rw [hq] at c4 hgo hnd
        have j0 : (0 : Int) < (p : Int) := by omega
        have j1 : (0 : Int) < (q : Int) := by omega
        have j2 : (p : Int) ≤ 1000 := by omega
        have j3 : (q : Int) ≤ 1000 := by omega
        clear hrun hIN hf hI hB hgo hln hme hp hq hnd
        go_wp2_with (first
          | (go_at_call 27; (with_reducible refine HPR.out.mono ?_); rintro e w4 ⟨rfl, hfin⟩; have HF := Lib.hid hfin; clear hfin))
        go_roundw
        case rel =>
          obtain ⟨v1, v2, hF⟩ := HF.out
          exact ⟨f', abStep T s, v1, v2, HRUN.out, HLN2.out, HIN.out, hF⟩
        case measure =>
          obtain ⟨v1, v2, hF⟩ := HF.out
          exact HME.out _ v1 v2 hF
      · have hfin : s = abRun T l.length (abInit T l) := by rw [← hrun, abRun_stop (by omega)]
        have hts : tbC l = s.ts := by rw [HE2.out, ← hfin]
        have hTL : s.ts.length = n := by rw [hI.tn, hlen]
        obtain ⟨A1, d1, rfl, -, -⟩ := hB.oS.form
        obtain ⟨A2, d2, rfl, -, -⟩ := hB.oL.form
        have B7 := Lib.hid hB
        have c3 := hB.c3
        have c4 := hB.c4
        have HEND : Hid (∀ w', Blk w' gC 44 (cellsA s.ts) → Below w.heap.size w w' → RetTab w (tbT l) (tbC l).length (tbC l) (tbE l) (.returned (.tuple #[.agg #[.int .u64 T, .slice (some ⟨gC, 0, none⟩) n n], .int .i64 0])) w') := Lib.hid (fun w' h1 h2 => by
          rw [HE1.out, hts, HOK2.out, hTL]
          have h3 := RdPr.of_blk h1
          rw [hTL] at h3
          exact ⟨some ⟨gC, 0, none⟩, n, rfl, h3, Nat.le_refl _, by simp only [maxLen]; omega, h2⟩)
        have HG2 := Lib.hid (HK1.out.below hB.bel HK1.out.lt)
        have HG2L := Lib.hid hg2le
        have HBW := Lib.hid (HB1.out.trans (hB.bel.mono HB1.out.size))
        have HRG := Lib.hid (range_two hB.c0 hB.c1)
        obtain ⟨P, hP⟩ : ∃ P, s.sm.length = P := ⟨_, rfl⟩
        obtain ⟨Q, hQ⟩ : ∃ P, s.lg.length = P := ⟨_, rfl⟩
        rw [hP] at c3 hgo
        rw [hQ] at c4 hgo
        have hPQ : P = 0 ∨ Q = 0 := by omega
        have hPQ2 := hI.nd_len
        rw [hP, hQ] at hPQ2
        have j0 : (P : Int) ≤ 1000 := by omega
        have j1 : (Q : Int) ≤ 1000 := by omega
        clear hfin hts hTL hrun hf hI hB hP hQ hgo hPQ2 hme
        by_cases hP0 : P = 0
        · subst hP0
          clear hPQ
          go_wp2_with (first
            | (with_reducible refine at_any ?_; refine at_dst 53 rfl ?_; refine wpList_load_any rfl 27 (.tmp 52) rfl g 0 rfl [.int .u64 T, .slice (some ⟨gC, 0, none⟩) n n] HRG.out _ Try.underlying27 rfl (size_tabH _ _) ?_)
            | (with_reducible refine at_any ?_; refine at_store 2 rfl ?_; refine wpList_store_any rfl 27 (.tmp 2) (.tmp 53) rfl g2 rfl 27 #[.int .u64 0, .slice none 0 0] #[.int .u64 T, .slice (some ⟨gC, 0, none⟩) n n] HG2.out rfl (size2T _ _ _ _) (size_tabB _ _) (tab_ones _ _ _ _) ?_; intro w9 hk9 hs9 hb9 ho9; have HB9 := Lib.hid (HBW.out.trans (hb9 _ HG2L.out)); have HC9 := Lib.hid (B7.out.bC.other ho9 (B7.out.bC.ne HG2.out (by decide))))
            | (refine bodyPost_any2 2 3 27 rfl g2 rfl (.int .i64 0) rfl 27 #[.int .u64 T, .slice (some ⟨gC, 0, none⟩) n n] hk9.out _ Try.underlying27 rfl (size_tabB _ _) rfl ?_))
          exact HEND.out _ HC9.out HB9.out
        · have hQ0 : Q = 0 := by omega
          subst hQ0
          have j2 : (0 : Int) < (P : Int) := by omega
          clear hPQ hP0
          go_wp2_with (first
            | (with_reducible refine at_any ?_; refine at_dst 53 rfl ?_; refine wpList_load_any rfl 27 (.tmp 52) rfl g 0 rfl [.int .u64 T, .slice (some ⟨gC, 0, none⟩) n n] HRG.out _ Try.underlying27 rfl (size_tabH _ _) ?_)
            | (with_reducible refine at_any ?_; refine at_store 2 rfl ?_; refine wpList_store_any rfl 27 (.tmp 2) (.tmp 53) rfl g2 rfl 27 #[.int .u64 0, .slice none 0 0] #[.int .u64 T, .slice (some ⟨gC, 0, none⟩) n n] HG2.out rfl (size2T _ _ _ _) (size_tabB _ _) (tab_ones _ _ _ _) ?_; intro w9 hk9 hs9 hb9 ho9; have HB9 := Lib.hid (HBW.out.trans (hb9 _ HG2L.out)); have HC9 := Lib.hid (B7.out.bC.other ho9 (B7.out.bC.ne HG2.out (by decide))))
            | (refine bodyPost_any2 2 3 27 rfl g2 rfl (.int .i64 0) rfl 27 #[.int .u64 T, .slice (some ⟨gC, 0, none⟩) n n] hk9.out _ Try.underlying27 rfl (size_tabB _ _) rfl ?_))
          exact HEND.out _ HC9.out HB9.out
end Go.Proofs.Ytkgajcifanobnaa

/-
  Texts of this claim, joined (what the claim does not need is left out): RefO, LedR, ScnR, RefCo, RefY, RefQ, RefR, RefS, ComG, TzK, CompK, NedA, PlanA, CompA, CompT.
-/
import Derived.Test.YtgnclifmfefbcaaGreatDoorJGb
import Derived.Test.YtgnclifmfefbcaaGreatDoorRows
import Derived.Lib.LaidTab
import Derived.Lib.TrailingZeros
import Derived.ProofKit
import Derived.LaidMore
import Derived.OpenShut
import Derived.Stop.Joined
import Derived.Deep.RegionHeld3
import Derived.Deep.RegionLaw
import Derived.KernelRfl
set_option maxRecDepth 100000
set_option linter.unusedVariables false
set_option linter.unusedSimpArgs false
set_option linter.unusedSectionVars false
namespace Go.Proofs.YtgnclifmfefbcaaGreatDoor
section
open Go.ChangeShapes Go.WideShapes Go.ChangeAt Go.RowKit
set_option maxHeartbeats 8000000 in
theorem r8draw_c (s : Src) (ok : s.Ok) (n : Int) (n0 : 0 ≤ n) (n1 : n < 18446744073709551616) (a : Int) (a0 : -9223372036854775808 ≤ a) (a1 : a < 9223372036854775808) (A0 : Option Addr) (c0 : Nat) (hc : s.tape.length ≤ c0) (hcm : c0 ≤ maxLen) (w : World) (hrd : Rd .u8 w w.heap.size A0 s.tape.length s.tape) : Calls Tryz.prog 61 #[.agg (srcV s A0 c0), .int .u64 n, .int .i64 a] w (RetDraw w s A0 (drawR s n a)) := by
  have HRT := Lib.hid (fun W => rsright_c s ok A0 c0 W)
  have HZ0 := Lib.hid zero_src
  have hRd := Lib.hid hrd
  have HZSS := Lib.hid (fun (t : Src) (h : t.seed.length = 32) A c => srcV_same Src.zero t rfl h none A 0 c)
  obtain ⟨Z, hZ⟩ : ∃ Z, srcV Src.zero none 0 = Z := ⟨_, rfl⟩
  rw [hZ] at HZ0 HZSS
  by_cases hbad : ¬ drawB s n a = true
  · have hE : drawR s n a = (0, s, 1) := by unfold drawR; rw [if_neg hbad]
    have HEND : Hid (∀ w', RdP A0 s.tape.length s.tape w' → Below w.heap.size w w' → RetDraw w s A0 (drawR s n a) (.returned (.tuple #[.int .u64 0, .agg (srcV s A0 c0), .int .i64 1])) w') := Lib.hid (fun w' hr hb => ⟨A0, c0, by rw [hE], hr, hc, hcm, .inl rfl, hb⟩)
    have hcase : (rightS s = false) ∨ (rightS s = true ∧ n < 1) ∨ (rightS s = true ∧ ¬ n < 1 ∧ 9223372036854775808 ≤ n) ∨ (rightS s = true ∧ ¬ n < 1 ∧ n < 9223372036854775808 ∧ a < 1) ∨ (rightS s = true ∧ ¬ n < 1 ∧ n < 9223372036854775808 ∧ ¬ a < 1 ∧ 64 < a) := by
      cases h : rightS s
      · exact .inl rfl
      · refine .inr ?_
        by_cases h1 : n < 1
        · exact .inl ⟨rfl, h1⟩
        · refine .inr ?_
          by_cases h2 : 9223372036854775808 ≤ n
          · exact .inl ⟨rfl, h1, h2⟩
          · refine .inr ?_
            by_cases h3 : a < 1
            · exact .inl ⟨rfl, h1, by omega, h3⟩
            · refine .inr ⟨rfl, h1, by omega, h3, Decidable.byContradiction fun h4 => hbad ?_⟩
              unfold drawB
              rw [h, Bool.true_and]
              exact decide_eq_true ⟨by omega, by omega, by omega, by omega⟩
    have SV := Lib.hid (sizedS s ok.sl A0 c0)
    have OV := Lib.hid (srcV_ones s A0 c0)
    have ZV := Lib.hid (HZSS.out s ok.sl A0 c0)
    obtain ⟨V, hV⟩ : ∃ V, srcV s A0 c0 = V := ⟨_, rfl⟩
    rw [hV] at HRT HEND SV OV ZV
    rw [hV]
    obtain ⟨rr, hrr⟩ : ∃ r, drawR s n a = r := ⟨_, rfl⟩
    rw [hrr] at HEND ⊢
    clear hZ hV hE hbad hrd hrr
    rcases hcase with hr | ⟨hr, h1⟩ | ⟨hr, h1, h2⟩ | ⟨hr, h1, h2, h3⟩ | ⟨hr, h1, h2, h3, h4⟩
    all_goals
      rw [hr] at HRT
      go_enter Tryz.func61, Tryz.ntmps61
      go_wp2_with (first
        | (with_reducible refine at_any ?_; refine at_dst 3 rfl ?_; refine wpList_box_any rfl 28 (.tmp 0) rfl V rfl ?_; intro w1 hk1 hs1 hb1)
        | (with_reducible refine at_any ?_; refine at_dst 7 rfl ?_; refine wpList_alloc_any rfl 28 rfl Z HZ0.out ?_; intro w2 hk2 hs2 hb2; have k2 := Lib.hid (hk1.out.below hb2 hk1.out.lt))
        | (with_reducible refine at_any ?_; refine at_dst 13 rfl ?_; refine wpList_load_blk rfl 28 (.tmp 3) rfl w.heap.size rfl 28 V k2.out _ Tryz.underlying28 rfl SV.out ?_)
        | (go_at_call 34; (with_reducible refine (HRT.out _).mono ?_); rintro e wz ⟨rfl, hbz⟩))
      have HS := DrS.mk2 hRd.out hk1.out hb1 hk2.out hb2 hbz
      have HZ : Fx [.blk w1.heap.size 28 Z] wz := ⟨hk2.out.below hbz hk2.out.lt, trivial⟩
      obtain ⟨g3, hg3⟩ : ∃ g, w.heap.size = g := ⟨_, rfl⟩
      obtain ⟨g7, hg7⟩ : ∃ g, w1.heap.size = g := ⟨_, rfl⟩
      obtain ⟨zs, hzs⟩ : ∃ zs, s.tape = zs := ⟨_, rfl⟩
      obtain ⟨L, hL⟩ : ∃ L, zs.length = L := ⟨_, rfl⟩
      rw [hzs, hL] at HEND
      rw [hg3, hg7, hzs, hL] at HS
      rw [hg7] at HZ
      rw [hg3, hg7]
      clear hg3 hg7 hzs hL hk1 hs1 hb1 hk2 hs2 hb2 k2 hbz
      have HZ7 := HZ.drew
      refine wp_region_held_drew (S := (DrS w g3 g7 V A0 L zs)) (by kernel_rfl) HS.drew (fun hH => ?_)
      refine wpAnyH_letter #[false, false, false, false] (by kernel_rfl) (fun _ _ d _ _ h => by cases d <;> exact h) (fun QL HQ1 HQ2 => ?_)
      refine held_row 0 (some 32) rfl (by kernel_rfl) (by kernel_rfl) (by kernel_rfl) (by kernel_rfl) (fun c a v w h => HQ2.out c a _ v w h) (by kernel_rfl) 28 (.tmp 3) rfl g3 (by kernel_rfl) 28 V (fun _ h => h.blk) _ Tryz.underlying28 rfl SV.out hH ?_
      try simp only [Act.put, List.setIfInBounds_toArray, List.set_cons_zero, List.set_cons_succ]
      refine held_v 1 (some 6) rfl (by kernel_rfl) (by kernel_rfl) (by kernel_rfl) (by kernel_rfl) (fun c a v w h => HQ2.out c a _ v w h) (by kernel_rfl) (.int .u64 0) (fun W h => by kernel_rfl) hH ?_
      try simp only [Act.put, List.setIfInBounds_toArray, List.set_cons_zero, List.set_cons_succ]
      refine wpAnyH_ready (rs := [2]) (by kernel_rfl) (by decide) ?_
      refine AllReadyH.cons rfl (fun K hK => ?_) AllReadyH.nil
      refine step_store none (by kernel_rfl) (by kernel_rfl) 28 (.tmp 7) (.tmp 32) rfl g7 (by kernel_rfl) 28 Z V HZ7.1 (by kernel_rfl) ZV.out SV.out OV.out ?_
      intro w41 hkw41 hsw41 hbw41 how41
      have ex42 : Fx [.blk g7 28 V] w41 := ⟨hkw41.out, trivial⟩
      refine hK.out _ _ (hH.store HZ7.1 hH.store7 hsw41.out hbw41 how41) (fun hw41 => ?_)
      clear hK K
      try simp only [Act.put, List.setIfInBounds_toArray, List.set_cons_zero, List.set_cons_succ]
      refine held_v 3 (some 8) rfl (by kernel_rfl) (by kernel_rfl) (by kernel_rfl) (by kernel_rfl) (fun c a v w h => HQ2.out c a _ v w h) (by kernel_rfl) (.int .i64 1) (fun W h => by kernel_rfl) hw41 ?_
      try simp only [Act.put, List.setIfInBounds_toArray, List.set_cons_zero, List.set_cons_succ]
      refine wpAnyH_done (by kernel_rfl) ?_ _
      refine HQ1.out _ _ ?_
      clear HQ1 HQ2
      go_wp2_with (refine bodyPost_mid 6 7 8 28 rfl g7 rfl (.int .u64 0) (.int .i64 1) rfl rfl 28 V ex42.1 _ Tryz.underlying28 rfl SV.out rfl ?_)
      exact HEND.out _ hw41.rd hw41.bel
  · have hgood : drawB s n a = true := Decidable.of_not_not hbad
    have hE : drawR s n a = drawGo (needN n) n a.toNat s := by unfold drawR; rw [if_pos hgood]
    obtain ⟨hr, hd⟩ : rightS s = true ∧ decide (1 ≤ n ∧ n < 9223372036854775808 ∧ 1 ≤ a ∧ a ≤ 64) = true := by unfold drawB at hgood; rwa [Bool.and_eq_true] at hgood
    obtain ⟨nn0, nn1, aa0, aa1⟩ := of_decide_eq_true hd
    have h1 : ¬ n < 1 := by omega
    have h3 : ¬ a < 1 := by omega
    have h4 : ¬ 64 < a := by omega
    have hk64 := needN_le n n0 n1
    have HND := Lib.hid (fun W => r8need_c n n0 n1 W)
    obtain ⟨k, hk⟩ : ∃ k, needN n = k := ⟨_, rfl⟩
    rw [hk] at hE hk64 HND
    rw [hE]
    obtain ⟨a, rfl⟩ := Int.eq_ofNat_of_zero_le (show 0 ≤ a by omega)
    rw [Int.toNat_natCast]
    rw [hr] at HRT
    have HTAKE := Lib.hid (fun (t : Src) (okt : t.Ok) (A : Option Addr) (c : Nat) (h1 : t.tape.length ≤ c) (h2 : c ≤ maxLen) (W : World) (h3 : Rd .u8 W W.heap.size A t.tape.length t.tape) => rstake_c t okt (k : Int) (by omega) (by omega) A c h1 h2 W h3)
    have SV := Lib.hid (sizedS s ok.sl A0 c0)
    have HL0 : Hid (∀ g3 g7 W, DrS w g3 g7 (srcV s A0 c0) A0 s.tape.length s.tape W → Fx [.blk g7 28 Z] W → DrL w g3 g7 s k n a A0 Z 0 W) := Lib.hid (fun g3 g7 W h1 h2 => ⟨s, A0, c0, rfl, ok, rfl, h1, h2, .inl rfl, hc, hcm⟩)
    obtain ⟨V, hV⟩ : ∃ V, srcV s A0 c0 = V := ⟨_, rfl⟩
    rw [hV] at HRT SV HL0
    rw [hV]
    obtain ⟨rr, hrr⟩ : ∃ r, drawGo k n a s = r := ⟨_, rfl⟩
    rw [hrr]
    have HRR := Lib.hid hrr
    clear hZ hV hE hbad hrd hrr hgood hd hr hk a0 a1 aa0 hc hcm
    have aa2 : a ≤ 64 := by omega
    clear aa1
    go_enter Tryz.func61, Tryz.ntmps61
    go_wp2_with (first
      | (with_reducible refine at_any ?_; refine at_dst 3 rfl ?_; refine wpList_box_any rfl 28 (.tmp 0) rfl V rfl ?_; intro w1 hk1 hs1 hb1)
      | (with_reducible refine at_any ?_; refine at_dst 7 rfl ?_; refine wpList_alloc_any rfl 28 rfl Z HZ0.out ?_; intro w2 hk2 hs2 hb2; have k2 := Lib.hid (hk1.out.below hb2 hk1.out.lt))
      | (with_reducible refine at_any ?_; refine at_dst 13 rfl ?_; refine wpList_load_blk rfl 28 (.tmp 3) rfl w.heap.size rfl 28 V k2.out _ Tryz.underlying28 rfl SV.out ?_)
      | (go_at_call 34; (with_reducible refine (HRT.out _).mono ?_); rintro e wz ⟨rfl, hbz⟩))
    have HS := DrS.mk2 hRd.out hk1.out hb1 hk2.out hb2 hbz
    have HZ : Fx [.blk w1.heap.size 28 Z] wz := ⟨hk2.out.below hbz hk2.out.lt, trivial⟩
    have HL := Lib.hid (HL0.out _ _ _ HS HZ)
    obtain ⟨g3, hg3⟩ : ∃ g, w.heap.size = g := ⟨_, rfl⟩
    obtain ⟨g7, hg7⟩ : ∃ g, w1.heap.size = g := ⟨_, rfl⟩
    rw [hg3, hg7] at HL
    rw [hg3, hg7]
    clear hg3 hg7 hk1 hs1 hb1 hk2 hs2 hb2 k2 hbz HS HZ HL0 HRT SV h1 h3 h4
    go_loopw [9] (fun cc wr => ∃ i : Nat, i ≤ a ∧ cc = .int .i64 i ∧ DrL w g3 g7 s k n a A0 Z i wr) (fun cc _ => a - (intOf cc).toNat)
    case atStart => exact ⟨0, by omega, rfl, HL.out⟩
    case round =>
      clear HL
      obtain ⟨i, hi, rfl, si, A, c, hgo, oki, htp, HS, HZ, hsp, hcl, hcm⟩ := hrel
      have SV := Lib.hid (sizedS si oki.sl A c)
      have OV := Lib.hid (srcV_ones si A c)
      have ZV := Lib.hid (HZSS.out si oki.sl A c)
      have HSP := Lib.hid hsp
      rw [HRR.out] at hgo
      by_cases hlt : i < a
      · have HTK := Lib.hid (fun (W : World) (h3 : RdP A s.tape.length s.tape W) => HTAKE.out si oki A c (by rw [htp]; exact hcl) hcm W (by rw [htp]; exact h3))
        have hst : a - i = a - i - 1 + 1 := by omega
        rw [hst] at hgo
        have hti := takeE_in si k
        have hvi := takeV_in si k
        have htok := takeS_ok oki k
        have http := takeS_tape si k
        rw [htp] at http
        have hgz : takeE si k ≠ 0 → rr = (0, si, takeE si k) := fun h => by rw [hgo, drawGo_err h]
        have hgh : takeE si k = 0 → takeV si k < n → rr = (takeV si k, takeS si k, 0) := fun h h2 => by rw [hgo, drawGo_hit h h2]
        have hgm : takeE si k = 0 → ¬ takeV si k < n → rr = drawGo k n (a - (i + 1)) (takeS si k) := fun h h2 => by rw [hgo, drawGo_miss h h2, show a - i - 1 = a - (i + 1) by omega]
        have hsi : takeE si k ≠ 0 → takeS si k = si := fun h => by unfold takeS; rw [if_neg h]
        unfold RetTake at HTK
        rw [htp] at HTK
        obtain ⟨X, hX⟩ : ∃ X, takeV si k = X := ⟨_, rfl⟩
        obtain ⟨E, hE⟩ : ∃ E, takeE si k = E := ⟨_, rfl⟩
        obtain ⟨t, ht⟩ : ∃ t, takeS si k = t := ⟨_, rfl⟩
        rw [hX, hE, ht] at HTK
        rw [hX] at hvi hgh hgm
        rw [hE] at hti hgz hgh hgm hsi
        rw [ht] at htok http hgh hgm hsi
        have ST := Lib.hid (fun A c => sizedS t htok.sl A c)
        have OT := Lib.hid (fun A c => srcV_ones t A c)
        have ZT := Lib.hid (fun A c => HZSS.out t htok.sl A c)
        obtain ⟨zs, hzs⟩ : ∃ zs, s.tape = zs := ⟨_, rfl⟩
        obtain ⟨L, hL⟩ : ∃ L, zs.length = L := ⟨_, rfl⟩
        have HG1 : Hid (∀ A2 c2 g11 W, DrS w g3 g7 (srcV si A c) A L zs W → Blk W g7 28 Z → Blk W g11 28 (srcV t A2 c2) → RdP A2 L zs W → Apt L A2 g3 → Apt L A2 g7 → Sep w A0 A2 → L ≤ c2 → c2 ≤ maxLen → g3 ≠ g11 → g7 ≠ g11 → True) := Lib.hid (fun _ _ _ _ _ _ _ _ _ _ _ _ _ _ _ => trivial)
        have HEZ : Hid (E ≠ 0 → ∀ w', RdP A L zs w' → Below w.heap.size w w' → RetDraw w s A0 rr (.returned (.tuple #[.int .u64 0, .agg (srcV si A c), .int .i64 E])) w') := Lib.hid (fun h w' hr hb => ⟨A, c, by rw [hgz h], by rw [hzs, hL]; exact hr, hcl, hcm, hsp, hb⟩)
        have HEH : Hid (E = 0 → X < n → ∀ A2 c2 w', Sep w A0 A2 → L ≤ c2 → c2 ≤ maxLen → RdP A2 L zs w' → Below w.heap.size w w' → RetDraw w s A0 rr (.returned (.tuple #[.int .u64 X, .agg (srcV t A2 c2), .int .i64 0])) w') := Lib.hid (fun h h2 A2 c2 w' h3 h4 h5 hr hb => ⟨A2, c2, by rw [hgh h h2], by rw [hzs, hL]; exact hr, by rw [hzs, hL]; exact h4, h5, h3, hb⟩)
        have HEM : Hid (E = 0 → ¬ X < n → ∀ A2 c2 W, DrS w g3 g7 (srcV t A2 c2) A2 L zs W → Fx [.blk g7 28 Z] W → Sep w A0 A2 → L ≤ c2 → c2 ≤ maxLen → DrL w g3 g7 s k n a A0 Z (i + 1) W) := Lib.hid (fun h h2 A2 c2 W h3 h4 h5 h6 h7 => ⟨t, A2, c2, by rw [HRR.out]; exact hgm h h2, htok, by rw [http, hzs], by rw [hzs, hL]; exact h3, h4, h5, by rw [hzs, hL]; exact h6, h7⟩)
        rw [hzs, hL] at HTK
        rw [hzs, hL] at HS hcl
        clear hgo oki htp hsp hst htok http hgz hgh hgm hsi hX hE ht hzs hL HG1
        obtain ⟨V, hV⟩ : ∃ V, srcV si A c = V := ⟨_, rfl⟩
        rw [hV] at SV OV ZV HS HTK HEZ
        clear hV HTAKE HZSS
        go_wp2_with fail
        have HZ7 := HZ.drew
        refine wp_region_held_drew (S := (DrS w g3 g7 V A L zs)) (by kernel_rfl) HS.drew (fun hH => ?_)
        refine wpAnyH_letter #[false, false, false, false, false, false, false, false, false, false, false, false] (by kernel_rfl) (fun _ _ d _ _ h => by cases d <;> exact h) (fun QL HQ1 HQ2 => ?_)
        refine held_row 0 (some 39) rfl (by kernel_rfl) (by kernel_rfl) (by kernel_rfl) (by kernel_rfl) (fun c a v w h => HQ2.out c a _ v w h) (by kernel_rfl) 28 (.tmp 3) rfl g3 (by kernel_rfl) 28 V (fun _ h => h.blk) _ Tryz.underlying28 rfl SV.out hH ?_
        try simp only [Act.put, List.setIfInBounds_toArray, List.set_cons_zero, List.set_cons_succ]
        refine held_v 1 (some 40) rfl (by kernel_rfl) (by kernel_rfl) (by kernel_rfl) (by kernel_rfl) (fun c a v w h => HQ2.out c a _ v w h) (by kernel_rfl) (.int .u64 n) (fun W h => by kernel_rfl) hH ?_
        try simp only [Act.put, List.setIfInBounds_toArray, List.set_cons_zero, List.set_cons_succ]
        refine wpAnyH_ready (rs := [2, 8]) (by kernel_rfl) (by decide) ?_
        refine AllReadyH.cons rfl (fun K hK => ?_) (AllReadyH.cons rfl (fun K hK => ?_) AllReadyH.nil)
        · refine step_call (some 41) (by kernel_rfl) (by kernel_rfl) _ _ (by kernel_rfl) _ (HND.out _) ?_
          rintro e _ ⟨rfl, rfl⟩
          refine ⟨_, rfl, ?_⟩
          refine hK.out _ _ hH (fun _ => ?_)
          clear hK K
          try simp only [Act.put, List.setIfInBounds_toArray, List.set_cons_zero, List.set_cons_succ]
          refine wpAnyH_ready (rs := [3, 8]) (by kernel_rfl) (by decide) ?_
          refine AllReadyH.cons rfl (fun K hK => ?_) (AllReadyH.cons rfl (fun K hK => ?_) AllReadyH.nil)
          · refine step_call (some 42) (by kernel_rfl) (by kernel_rfl) _ _ (by kernel_rfl) _ (HTK.out wr.drew hH.rd) ?_
            rintro e w42 ⟨A2, c2, rfl, hrd2, hc2, hm2, hsp2, hbw42⟩
            have hSP : Hid (Sep w A0 A2) := Lib.hid (Sep.trans HSP.out hsp2 hH.bel.size)
            have hA23 := Lib.hid (Apt.of_sep hsp2 hH.apt3 hH.lt3)
            have hA27 := Lib.hid (Apt.of_sep hsp2 hH.apt7 hH.lt7)
            have hC2 := Lib.hid hc2
            have hM2 := Lib.hid hm2
            have ex43 := HZ7.below hbw42
            have ex44 : RdP A2 L zs w42 := hrd2
            clear hrd2 hc2 hm2 hsp2
            refine ⟨_, rfl, ?_⟩
            refine hK.out _ _ (hH.below hbw42) (fun hw42 => ?_)
            clear hK K
            try simp only [Act.put, List.setIfInBounds_toArray, List.set_cons_zero, List.set_cons_succ]
            refine held_v 4 (some 38) rfl (by kernel_rfl) (by kernel_rfl) (by kernel_rfl) (by kernel_rfl) (fun c a v w h => HQ2.out c a _ v w h) (by kernel_rfl) (.tuple #[.int .u64 X, .agg (srcV t A2 c2), .int .i64 E]) (fun W h => by kernel_rfl) hw42 ?_
            try simp only [Act.put, List.setIfInBounds_toArray, List.set_cons_zero, List.set_cons_succ]
            refine held_v 5 (some 43) rfl (by kernel_rfl) (by kernel_rfl) (by kernel_rfl) (by kernel_rfl) (fun c a v w h => HQ2.out c a _ v w h) (by kernel_rfl) (.int .u64 X) (fun W h => by kernel_rfl) hw42 ?_
            try simp only [Act.put, List.setIfInBounds_toArray, List.set_cons_zero, List.set_cons_succ]
            refine held_v 6 (some 44) rfl (by kernel_rfl) (by kernel_rfl) (by kernel_rfl) (by kernel_rfl) (fun c a v w h => HQ2.out c a _ v w h) (by kernel_rfl) (.agg (srcV t A2 c2)) (fun W h => by kernel_rfl) hw42 ?_
            try simp only [Act.put, List.setIfInBounds_toArray, List.set_cons_zero, List.set_cons_succ]
            refine held_v 7 (some 45) rfl (by kernel_rfl) (by kernel_rfl) (by kernel_rfl) (by kernel_rfl) (fun c a v w h => HQ2.out c a _ v w h) (by kernel_rfl) (.int .i64 E) (fun W h => by kernel_rfl) hw42 ?_
            try simp only [Act.put, List.setIfInBounds_toArray, List.set_cons_zero, List.set_cons_succ]
            refine wpAnyH_ready (rs := [8]) (by kernel_rfl) (by decide) ?_
            refine AllReadyH.cons rfl (fun K hK => ?_) AllReadyH.nil
            refine step_alloc (some 11) (by kernel_rfl) (by kernel_rfl) 28 rfl Z HZ0.out ?_
            intro w45 hkw45 hsw45 hbw45
            obtain ⟨g11, hg11⟩ : ∃ g, w42.heap.size = g := ⟨_, rfl⟩
            have hAo11 := Apt.of_lt (g := g11) hw42.rd.rd (Nat.le_of_eq hg11)
            have hn3 : g3 ≠ g11 := by have := hw42.lt3; omega
            have hn7 : g7 ≠ g11 := by have := hw42.lt7; omega
            have hle11 : w.heap.size ≤ g11 := by have := hw42.bel.size; omega
            have hA11 := Apt.of_lt (g := g11) ex44.rd (Nat.le_of_eq hg11)
            rw [hg11] at hkw45
            rw [hg11]
            have ex46 := ex43.below hbw45
            have ex47 := ex44.below hbw45
            have ex48 : Fx [.blk g11 28 Z] w45 := ⟨hkw45.out, trivial⟩
            refine hK.out _ _ (hw42.below hbw45) (fun hw45 => ?_)
            clear hK K
            try simp only [Act.put, List.setIfInBounds_toArray, List.set_cons_zero, List.set_cons_succ]
            refine held_v 9 (some 10) rfl (by kernel_rfl) (by kernel_rfl) (by kernel_rfl) (by kernel_rfl) (fun c a v w h => HQ2.out c a _ v w h) (by kernel_rfl) (.int .u64 X) (fun W h => by kernel_rfl) hw45 ?_
            try simp only [Act.put, List.setIfInBounds_toArray, List.set_cons_zero, List.set_cons_succ]
            refine wpAnyH_ready (rs := [10]) (by kernel_rfl) (by decide) ?_
            refine AllReadyH.cons rfl (fun K hK => ?_) AllReadyH.nil
            refine step_store none (by kernel_rfl) (by kernel_rfl) 28 (.tmp 11) (.tmp 44) rfl g11 (by kernel_rfl) 28 Z (srcV t A2 c2) ex48.1 (by kernel_rfl) (ZT.out _ _) (ST.out _ _) (OT.out _ _) ?_
            intro w49 hkw49 hsw49 hbw49 how49
            have ex50 := ex46.store ex48.1 ⟨hn7, trivial⟩ hsw49.out hbw49 how49
            have ex51 := ex47.store ex48.1 hA11 hsw49.out hbw49 how49
            have ex52 : Fx [.blk g11 28 (srcV t A2 c2)] w49 := ⟨hkw49.out, trivial⟩
            refine hK.out _ _ (hw45.store ex48.1 ⟨hn3, hAo11, hle11⟩ hsw49.out hbw49 how49) (fun hw49 => ?_)
            clear hK K
            try simp only [Act.put, List.setIfInBounds_toArray, List.set_cons_zero, List.set_cons_succ]
            refine held_v 11 (some 12) rfl (by kernel_rfl) (by kernel_rfl) (by kernel_rfl) (by kernel_rfl) (fun c a v w h => HQ2.out c a _ v w h) (by kernel_rfl) (.int .i64 E) (fun W h => by kernel_rfl) hw49 ?_
            try simp only [Act.put, List.setIfInBounds_toArray, List.set_cons_zero, List.set_cons_succ]
            refine wpAnyH_done (by kernel_rfl) ?_ _
            refine HQ1.out _ _ ?_
            clear HQ1 HQ2
            have HS6 := Lib.hid hw49
            have HZ6 := Lib.hid ex50
            have H11 : Hid (Blk w49 g11 28 (srcV t A2 c2)) := Lib.hid ex52.1
            have HR2 := Lib.hid ex51
            have HOF : Hid (Fx.off g3 V [.blk g7 28 Z]) := Lib.hid ⟨Nat.ne_of_gt HS6.out.lt, trivial⟩
            have HV2 : Hid (∃ V2, srcV t A2 c2 = V2) := Lib.hid ⟨_, rfl⟩
            have SV2 := Lib.hid (ST.out A2 c2)
            have OV2 := Lib.hid (OT.out A2 c2)
            have ZV2 := Lib.hid (ZT.out A2 c2)
            have HM2 := Lib.hid (fun h h2 W h3 h4 => HEM.out h h2 A2 c2 W h3 h4 hSP.out hC2.out hM2.out)
            have HH2 := Lib.hid (fun h h2 w' h3 h4 => HEH.out h h2 A2 c2 w' hSP.out hC2.out hM2.out h3 h4)
            obtain ⟨V2, hV2⟩ := HV2.out
            rw [hV2] at H11 SV2 OV2 ZV2 HM2 HH2
            have A23 := Lib.hid hA23.out
            have A27 := Lib.hid hA27.out
            by_cases hE0 : E = 0
            · have t1 : (E == 0) = true := by rw [beq_iff_eq]; exact hE0
              have t2 : (E != 0) = false := by rw [bne, t1]; rfl
              by_cases hx : X < n
              · have VV2 := Lib.hid (show V.size = V2.size by rw [← ZV.out, ZV2.out])
                go_wp2_with (first
                  | (with_reducible refine at_any ?_; refine at_dst 50 rfl ?_; refine wpList_load_blk rfl 28 (.tmp 11) rfl g11 rfl 28 V2 H11.out _ Tryz.underlying28 rfl SV2.out ?_)
                  | (with_reducible refine at_any ?_; refine at_store 3 rfl ?_; refine wpList_store_any rfl 28 (.tmp 3) (.tmp 50) rfl g3 rfl 28 V V2 HS6.out.blk rfl VV2.out SV2.out OV2.out ?_; intro w9 hk9 hs9 hb9 ho9; have HS := HS6.out.put3 HR2.out A23.out A27.out hk9.out hs9.out hb9 ho9; have HZ := HZ6.out.store HS6.out.blk HOF.out hs9.out hb9 ho9))
                have HZ7 := HZ.drew
                refine wp_region_held_drew (S := (DrS w g3 g7 V2 A2 L zs)) (by kernel_rfl) HS.drew (fun hH => ?_)
                refine wpAnyH_letter #[false, false, false, false, false] (by kernel_rfl) (fun _ _ d _ _ h => by cases d <;> exact h) (fun QL HQ1 HQ2 => ?_)
                refine held_v 0 (some 54) rfl (by kernel_rfl) (by kernel_rfl) (by kernel_rfl) (by kernel_rfl) (fun c a v w h => HQ2.out c a _ v w h) (by kernel_rfl) (.int .u64 X) (fun W h => by kernel_rfl) hH ?_
                try simp only [Act.put, List.setIfInBounds_toArray, List.set_cons_zero, List.set_cons_succ]
                refine held_row 1 (some 55) rfl (by kernel_rfl) (by kernel_rfl) (by kernel_rfl) (by kernel_rfl) (fun c a v w h => HQ2.out c a _ v w h) (by kernel_rfl) 28 (.tmp 3) rfl g3 (by kernel_rfl) 28 V2 (fun _ h => h.blk) _ Tryz.underlying28 rfl SV2.out hH ?_
                try simp only [Act.put, List.setIfInBounds_toArray, List.set_cons_zero, List.set_cons_succ]
                refine held_v 2 (some 6) rfl (by kernel_rfl) (by kernel_rfl) (by kernel_rfl) (by kernel_rfl) (fun c a v w h => HQ2.out c a _ v w h) (by kernel_rfl) (.int .u64 X) (fun W h => by kernel_rfl) hH ?_
                try simp only [Act.put, List.setIfInBounds_toArray, List.set_cons_zero, List.set_cons_succ]
                refine wpAnyH_ready (rs := [3]) (by kernel_rfl) (by decide) ?_
                refine AllReadyH.cons rfl (fun K hK => ?_) AllReadyH.nil
                refine step_store none (by kernel_rfl) (by kernel_rfl) 28 (.tmp 7) (.tmp 55) rfl g7 (by kernel_rfl) 28 Z V2 HZ7.1 (by kernel_rfl) ZV2.out SV2.out OV2.out ?_
                intro w141 hkw141 hsw141 hbw141 how141
                have ex142 : Fx [.blk g7 28 V2] w141 := ⟨hkw141.out, trivial⟩
                refine hK.out _ _ (hH.store HZ7.1 hH.store7 hsw141.out hbw141 how141) (fun hw141 => ?_)
                clear hK K
                try simp only [Act.put, List.setIfInBounds_toArray, List.set_cons_zero, List.set_cons_succ]
                refine held_v 4 (some 8) rfl (by kernel_rfl) (by kernel_rfl) (by kernel_rfl) (by kernel_rfl) (fun c a v w h => HQ2.out c a _ v w h) (by kernel_rfl) (.int .i64 0) (fun W h => by kernel_rfl) hw141 ?_
                try simp only [Act.put, List.setIfInBounds_toArray, List.set_cons_zero, List.set_cons_succ]
                refine wpAnyH_done (by kernel_rfl) ?_ _
                refine HQ1.out _ _ ?_
                clear HQ1 HQ2
                go_wp2_with (refine bodyPost_mid 6 7 8 28 rfl g7 rfl (.int .u64 X) (.int .i64 0) rfl rfl 28 V2 ex142.1 _ Tryz.underlying28 rfl SV2.out rfl ?_)
                exact HH2.out hE0 hx _ hw141.rd.rd hw141.bel
              · have hx2 : n ≤ X := by omega
                have VV2 := Lib.hid (show V.size = V2.size by rw [← ZV.out, ZV2.out])
                go_wp2_with (first
                  | (with_reducible refine at_any ?_; refine at_dst 50 rfl ?_; refine wpList_load_blk rfl 28 (.tmp 11) rfl g11 rfl 28 V2 H11.out _ Tryz.underlying28 rfl SV2.out ?_)
                  | (with_reducible refine at_any ?_; refine at_store 3 rfl ?_; refine wpList_store_any rfl 28 (.tmp 3) (.tmp 50) rfl g3 rfl 28 V V2 HS6.out.blk rfl VV2.out SV2.out OV2.out ?_; intro w9 hk9 hs9 hb9 ho9; have HS := HS6.out.put3 HR2.out A23.out A27.out hk9.out hs9.out hb9 ho9; have HZ := HZ6.out.store HS6.out.blk HOF.out hs9.out hb9 ho9))
                have HF := Lib.hid (HM2.out hE0 (by first | exact hx2 | exact Int.not_lt.2 hx2) _ HS HZ)
                clear HS HZ
                go_roundw
                case rel => exact ⟨i + 1, by omega, by go_num, HF.out⟩
                case measure => simp [intOf]; omega
            · have t1 : (E == 0) = false := by rw [beq_eq_false_iff_ne]; exact hE0
              have t2 : (E != 0) = true := by rw [bne, t1]; rfl
              go_wp2_with fail
              have HZ7 := HZ6.out.drew
              refine wp_region_held_drew (S := (DrS w g3 g7 V A L zs)) (by kernel_rfl) HS6.out.drew (fun hH => ?_)
              refine wpAnyH_letter #[false, false, false, false, false] (by kernel_rfl) (fun _ _ d _ _ h => by cases d <;> exact h) (fun QL HQ1 HQ2 => ?_)
              refine held_row 0 (some 48) rfl (by kernel_rfl) (by kernel_rfl) (by kernel_rfl) (by kernel_rfl) (fun c a v w h => HQ2.out c a _ v w h) (by kernel_rfl) 28 (.tmp 3) rfl g3 (by kernel_rfl) 28 V (fun _ h => h.blk) _ Tryz.underlying28 rfl SV.out hH ?_
              try simp only [Act.put, List.setIfInBounds_toArray, List.set_cons_zero, List.set_cons_succ]
              refine held_v 1 (some 49) rfl (by kernel_rfl) (by kernel_rfl) (by kernel_rfl) (by kernel_rfl) (fun c a v w h => HQ2.out c a _ v w h) (by kernel_rfl) (.int .i64 E) (fun W h => by kernel_rfl) hH ?_
              try simp only [Act.put, List.setIfInBounds_toArray, List.set_cons_zero, List.set_cons_succ]
              refine held_v 2 (some 6) rfl (by kernel_rfl) (by kernel_rfl) (by kernel_rfl) (by kernel_rfl) (fun c a v w h => HQ2.out c a _ v w h) (by kernel_rfl) (.int .u64 0) (fun W h => by kernel_rfl) hH ?_
              try simp only [Act.put, List.setIfInBounds_toArray, List.set_cons_zero, List.set_cons_succ]
              refine wpAnyH_ready (rs := [3]) (by kernel_rfl) (by decide) ?_
              refine AllReadyH.cons rfl (fun K hK => ?_) AllReadyH.nil
              refine step_store none (by kernel_rfl) (by kernel_rfl) 28 (.tmp 7) (.tmp 48) rfl g7 (by kernel_rfl) 28 Z V HZ7.1 (by kernel_rfl) ZV.out SV.out OV.out ?_
              intro w141 hkw141 hsw141 hbw141 how141
              have ex142 : Fx [.blk g7 28 V] w141 := ⟨hkw141.out, trivial⟩
              refine hK.out _ _ (hH.store HZ7.1 hH.store7 hsw141.out hbw141 how141) (fun hw141 => ?_)
              clear hK K
              try simp only [Act.put, List.setIfInBounds_toArray, List.set_cons_zero, List.set_cons_succ]
              refine held_v 4 (some 8) rfl (by kernel_rfl) (by kernel_rfl) (by kernel_rfl) (by kernel_rfl) (fun c a v w h => HQ2.out c a _ v w h) (by kernel_rfl) (.int .i64 E) (fun W h => by kernel_rfl) hw141 ?_
              try simp only [Act.put, List.setIfInBounds_toArray, List.set_cons_zero, List.set_cons_succ]
              refine wpAnyH_done (by kernel_rfl) ?_ _
              refine HQ1.out _ _ ?_
              clear HQ1 HQ2
              go_wp2_with (refine bodyPost_mid 6 7 8 28 rfl g7 rfl (.int .u64 0) (.int .i64 E) rfl rfl 28 V ex142.1 _ Tryz.underlying28 rfl SV.out rfl ?_)
              exact HEZ.out hE0 _ hw141.rd.rd hw141.bel
          · refine step_alloc (some 11) (by kernel_rfl) (by kernel_rfl) 28 rfl Z HZ0.out ?_
            intro w53 hkw53 hsw53 hbw53
            obtain ⟨g11, hg11⟩ : ∃ g, wr.drew.heap.size = g := ⟨_, rfl⟩
            have hAo11 := Apt.of_lt (g := g11) hH.rd.rd (Nat.le_of_eq hg11)
            have hn3 : g3 ≠ g11 := by have := hH.lt3; omega
            have hn7 : g7 ≠ g11 := by have := hH.lt7; omega
            have hle11 : w.heap.size ≤ g11 := by have := hH.bel.size; omega
            rw [hg11] at hkw53
            rw [hg11]
            have ex54 := HZ7.below hbw53
            have ex55 : Fx [.blk g11 28 Z] w53 := ⟨hkw53.out, trivial⟩
            refine hK.out _ _ (hH.below hbw53) (fun hw53 => ?_)
            clear hK K
            try simp only [Act.put, List.setIfInBounds_toArray, List.set_cons_zero, List.set_cons_succ]
            refine wpAnyH_ready (rs := [3]) (by kernel_rfl) (by decide) ?_
            refine AllReadyH.cons rfl (fun K hK => ?_) AllReadyH.nil
            refine step_call (some 42) (by kernel_rfl) (by kernel_rfl) _ _ (by kernel_rfl) _ (HTK.out w53 hw53.rd) ?_
            rintro e w56 ⟨A2, c2, rfl, hrd2, hc2, hm2, hsp2, hbw56⟩
            have hSP : Hid (Sep w A0 A2) := Lib.hid (Sep.trans HSP.out hsp2 hw53.bel.size)
            have hA23 := Lib.hid (Apt.of_sep hsp2 hw53.apt3 hw53.lt3)
            have hA27 := Lib.hid (Apt.of_sep hsp2 hw53.apt7 hw53.lt7)
            have hC2 := Lib.hid hc2
            have hM2 := Lib.hid hm2
            have hA11 := Apt.of_sep hsp2 hAo11 ex55.1.lt
            have ex57 := ex54.below hbw56
            have ex58 := ex55.below hbw56
            have ex59 : RdP A2 L zs w56 := hrd2
            clear hrd2 hc2 hm2 hsp2
            refine ⟨_, rfl, ?_⟩
            refine hK.out _ _ (hw53.below hbw56) (fun hw56 => ?_)
            clear hK K
            try simp only [Act.put, List.setIfInBounds_toArray, List.set_cons_zero, List.set_cons_succ]
            refine held_v 4 (some 38) rfl (by kernel_rfl) (by kernel_rfl) (by kernel_rfl) (by kernel_rfl) (fun c a v w h => HQ2.out c a _ v w h) (by kernel_rfl) (.tuple #[.int .u64 X, .agg (srcV t A2 c2), .int .i64 E]) (fun W h => by kernel_rfl) hw56 ?_
            try simp only [Act.put, List.setIfInBounds_toArray, List.set_cons_zero, List.set_cons_succ]
            refine held_v 5 (some 43) rfl (by kernel_rfl) (by kernel_rfl) (by kernel_rfl) (by kernel_rfl) (fun c a v w h => HQ2.out c a _ v w h) (by kernel_rfl) (.int .u64 X) (fun W h => by kernel_rfl) hw56 ?_
            try simp only [Act.put, List.setIfInBounds_toArray, List.set_cons_zero, List.set_cons_succ]
            refine held_v 6 (some 44) rfl (by kernel_rfl) (by kernel_rfl) (by kernel_rfl) (by kernel_rfl) (fun c a v w h => HQ2.out c a _ v w h) (by kernel_rfl) (.agg (srcV t A2 c2)) (fun W h => by kernel_rfl) hw56 ?_
            try simp only [Act.put, List.setIfInBounds_toArray, List.set_cons_zero, List.set_cons_succ]
            refine held_v 7 (some 45) rfl (by kernel_rfl) (by kernel_rfl) (by kernel_rfl) (by kernel_rfl) (fun c a v w h => HQ2.out c a _ v w h) (by kernel_rfl) (.int .i64 E) (fun W h => by kernel_rfl) hw56 ?_
            try simp only [Act.put, List.setIfInBounds_toArray, List.set_cons_zero, List.set_cons_succ]
            refine held_v 9 (some 10) rfl (by kernel_rfl) (by kernel_rfl) (by kernel_rfl) (by kernel_rfl) (fun c a v w h => HQ2.out c a _ v w h) (by kernel_rfl) (.int .u64 X) (fun W h => by kernel_rfl) hw56 ?_
            try simp only [Act.put, List.setIfInBounds_toArray, List.set_cons_zero, List.set_cons_succ]
            refine wpAnyH_ready (rs := [10]) (by kernel_rfl) (by decide) ?_
            refine AllReadyH.cons rfl (fun K hK => ?_) AllReadyH.nil
            refine step_store none (by kernel_rfl) (by kernel_rfl) 28 (.tmp 11) (.tmp 44) rfl g11 (by kernel_rfl) 28 Z (srcV t A2 c2) ex58.1 (by kernel_rfl) (ZT.out _ _) (ST.out _ _) (OT.out _ _) ?_
            intro w60 hkw60 hsw60 hbw60 how60
            have ex61 := ex57.store ex58.1 ⟨hn7, trivial⟩ hsw60.out hbw60 how60
            have ex62 := ex59.store ex58.1 hA11 hsw60.out hbw60 how60
            have ex63 : Fx [.blk g11 28 (srcV t A2 c2)] w60 := ⟨hkw60.out, trivial⟩
            refine hK.out _ _ (hw56.store ex58.1 ⟨hn3, hAo11, hle11⟩ hsw60.out hbw60 how60) (fun hw60 => ?_)
            clear hK K
            try simp only [Act.put, List.setIfInBounds_toArray, List.set_cons_zero, List.set_cons_succ]
            refine held_v 11 (some 12) rfl (by kernel_rfl) (by kernel_rfl) (by kernel_rfl) (by kernel_rfl) (fun c a v w h => HQ2.out c a _ v w h) (by kernel_rfl) (.int .i64 E) (fun W h => by kernel_rfl) hw60 ?_
            try simp only [Act.put, List.setIfInBounds_toArray, List.set_cons_zero, List.set_cons_succ]
            refine wpAnyH_done (by kernel_rfl) ?_ _
            refine HQ1.out _ _ ?_
            clear HQ1 HQ2
            have HS6 := Lib.hid hw60
            have HZ6 := Lib.hid ex61
            have H11 : Hid (Blk w60 g11 28 (srcV t A2 c2)) := Lib.hid ex63.1
            have HR2 := Lib.hid ex62
            have HOF : Hid (Fx.off g3 V [.blk g7 28 Z]) := Lib.hid ⟨Nat.ne_of_gt HS6.out.lt, trivial⟩
            have HV2 : Hid (∃ V2, srcV t A2 c2 = V2) := Lib.hid ⟨_, rfl⟩
            have SV2 := Lib.hid (ST.out A2 c2)
            have OV2 := Lib.hid (OT.out A2 c2)
            have ZV2 := Lib.hid (ZT.out A2 c2)
            have HM2 := Lib.hid (fun h h2 W h3 h4 => HEM.out h h2 A2 c2 W h3 h4 hSP.out hC2.out hM2.out)
            have HH2 := Lib.hid (fun h h2 w' h3 h4 => HEH.out h h2 A2 c2 w' hSP.out hC2.out hM2.out h3 h4)
            obtain ⟨V2, hV2⟩ := HV2.out
            rw [hV2] at H11 SV2 OV2 ZV2 HM2 HH2
            have A23 := Lib.hid hA23.out
            have A27 := Lib.hid hA27.out
            by_cases hE0 : E = 0
            · have t1 : (E == 0) = true := by rw [beq_iff_eq]; exact hE0
              have t2 : (E != 0) = false := by rw [bne, t1]; rfl
              by_cases hx : X < n
              · have VV2 := Lib.hid (show V.size = V2.size by rw [← ZV.out, ZV2.out])
                go_wp2_with (first
                  | (with_reducible refine at_any ?_; refine at_dst 50 rfl ?_; refine wpList_load_blk rfl 28 (.tmp 11) rfl g11 rfl 28 V2 H11.out _ Tryz.underlying28 rfl SV2.out ?_)
                  | (with_reducible refine at_any ?_; refine at_store 3 rfl ?_; refine wpList_store_any rfl 28 (.tmp 3) (.tmp 50) rfl g3 rfl 28 V V2 HS6.out.blk rfl VV2.out SV2.out OV2.out ?_; intro w9 hk9 hs9 hb9 ho9; have HS := HS6.out.put3 HR2.out A23.out A27.out hk9.out hs9.out hb9 ho9; have HZ := HZ6.out.store HS6.out.blk HOF.out hs9.out hb9 ho9))
                have HZ7 := HZ.drew
                refine wp_region_held_drew (S := (DrS w g3 g7 V2 A2 L zs)) (by kernel_rfl) HS.drew (fun hH => ?_)
                refine wpAnyH_letter #[false, false, false, false, false] (by kernel_rfl) (fun _ _ d _ _ h => by cases d <;> exact h) (fun QL HQ1 HQ2 => ?_)
                refine held_v 0 (some 54) rfl (by kernel_rfl) (by kernel_rfl) (by kernel_rfl) (by kernel_rfl) (fun c a v w h => HQ2.out c a _ v w h) (by kernel_rfl) (.int .u64 X) (fun W h => by kernel_rfl) hH ?_
                try simp only [Act.put, List.setIfInBounds_toArray, List.set_cons_zero, List.set_cons_succ]
                refine held_row 1 (some 55) rfl (by kernel_rfl) (by kernel_rfl) (by kernel_rfl) (by kernel_rfl) (fun c a v w h => HQ2.out c a _ v w h) (by kernel_rfl) 28 (.tmp 3) rfl g3 (by kernel_rfl) 28 V2 (fun _ h => h.blk) _ Tryz.underlying28 rfl SV2.out hH ?_
                try simp only [Act.put, List.setIfInBounds_toArray, List.set_cons_zero, List.set_cons_succ]
                refine held_v 2 (some 6) rfl (by kernel_rfl) (by kernel_rfl) (by kernel_rfl) (by kernel_rfl) (fun c a v w h => HQ2.out c a _ v w h) (by kernel_rfl) (.int .u64 X) (fun W h => by kernel_rfl) hH ?_
                try simp only [Act.put, List.setIfInBounds_toArray, List.set_cons_zero, List.set_cons_succ]
                refine wpAnyH_ready (rs := [3]) (by kernel_rfl) (by decide) ?_
                refine AllReadyH.cons rfl (fun K hK => ?_) AllReadyH.nil
                refine step_store none (by kernel_rfl) (by kernel_rfl) 28 (.tmp 7) (.tmp 55) rfl g7 (by kernel_rfl) 28 Z V2 HZ7.1 (by kernel_rfl) ZV2.out SV2.out OV2.out ?_
                intro w141 hkw141 hsw141 hbw141 how141
                have ex142 : Fx [.blk g7 28 V2] w141 := ⟨hkw141.out, trivial⟩
                refine hK.out _ _ (hH.store HZ7.1 hH.store7 hsw141.out hbw141 how141) (fun hw141 => ?_)
                clear hK K
                try simp only [Act.put, List.setIfInBounds_toArray, List.set_cons_zero, List.set_cons_succ]
                refine held_v 4 (some 8) rfl (by kernel_rfl) (by kernel_rfl) (by kernel_rfl) (by kernel_rfl) (fun c a v w h => HQ2.out c a _ v w h) (by kernel_rfl) (.int .i64 0) (fun W h => by kernel_rfl) hw141 ?_
                try simp only [Act.put, List.setIfInBounds_toArray, List.set_cons_zero, List.set_cons_succ]
                refine wpAnyH_done (by kernel_rfl) ?_ _
                refine HQ1.out _ _ ?_
                clear HQ1 HQ2
                go_wp2_with (refine bodyPost_mid 6 7 8 28 rfl g7 rfl (.int .u64 X) (.int .i64 0) rfl rfl 28 V2 ex142.1 _ Tryz.underlying28 rfl SV2.out rfl ?_)
                exact HH2.out hE0 hx _ hw141.rd.rd hw141.bel
              · have hx2 : n ≤ X := by omega
                have VV2 := Lib.hid (show V.size = V2.size by rw [← ZV.out, ZV2.out])
                go_wp2_with (first
                  | (with_reducible refine at_any ?_; refine at_dst 50 rfl ?_; refine wpList_load_blk rfl 28 (.tmp 11) rfl g11 rfl 28 V2 H11.out _ Tryz.underlying28 rfl SV2.out ?_)
                  | (with_reducible refine at_any ?_; refine at_store 3 rfl ?_; refine wpList_store_any rfl 28 (.tmp 3) (.tmp 50) rfl g3 rfl 28 V V2 HS6.out.blk rfl VV2.out SV2.out OV2.out ?_; intro w9 hk9 hs9 hb9 ho9; have HS := HS6.out.put3 HR2.out A23.out A27.out hk9.out hs9.out hb9 ho9; have HZ := HZ6.out.store HS6.out.blk HOF.out hs9.out hb9 ho9))
                have HF := Lib.hid (HM2.out hE0 (by first | exact hx2 | exact Int.not_lt.2 hx2) _ HS HZ)
                clear HS HZ
                go_roundw
                case rel => exact ⟨i + 1, by omega, by go_num, HF.out⟩
                case measure => simp [intOf]; omega
            · have t1 : (E == 0) = false := by rw [beq_eq_false_iff_ne]; exact hE0
              have t2 : (E != 0) = true := by rw [bne, t1]; rfl
              go_wp2_with fail
              have HZ7 := HZ6.out.drew
              refine wp_region_held_drew (S := (DrS w g3 g7 V A L zs)) (by kernel_rfl) HS6.out.drew (fun hH => ?_)
              refine wpAnyH_letter #[false, false, false, false, false] (by kernel_rfl) (fun _ _ d _ _ h => by cases d <;> exact h) (fun QL HQ1 HQ2 => ?_)
              refine held_row 0 (some 48) rfl (by kernel_rfl) (by kernel_rfl) (by kernel_rfl) (by kernel_rfl) (fun c a v w h => HQ2.out c a _ v w h) (by kernel_rfl) 28 (.tmp 3) rfl g3 (by kernel_rfl) 28 V (fun _ h => h.blk) _ Tryz.underlying28 rfl SV.out hH ?_
              try simp only [Act.put, List.setIfInBounds_toArray, List.set_cons_zero, List.set_cons_succ]
              refine held_v 1 (some 49) rfl (by kernel_rfl) (by kernel_rfl) (by kernel_rfl) (by kernel_rfl) (fun c a v w h => HQ2.out c a _ v w h) (by kernel_rfl) (.int .i64 E) (fun W h => by kernel_rfl) hH ?_
              try simp only [Act.put, List.setIfInBounds_toArray, List.set_cons_zero, List.set_cons_succ]
              refine held_v 2 (some 6) rfl (by kernel_rfl) (by kernel_rfl) (by kernel_rfl) (by kernel_rfl) (fun c a v w h => HQ2.out c a _ v w h) (by kernel_rfl) (.int .u64 0) (fun W h => by kernel_rfl) hH ?_
              try simp only [Act.put, List.setIfInBounds_toArray, List.set_cons_zero, List.set_cons_succ]
              refine wpAnyH_ready (rs := [3]) (by kernel_rfl) (by decide) ?_
              refine AllReadyH.cons rfl (fun K hK => ?_) AllReadyH.nil
              refine step_store none (by kernel_rfl) (by kernel_rfl) 28 (.tmp 7) (.tmp 48) rfl g7 (by kernel_rfl) 28 Z V HZ7.1 (by kernel_rfl) ZV.out SV.out OV.out ?_
              intro w141 hkw141 hsw141 hbw141 how141
              have ex142 : Fx [.blk g7 28 V] w141 := ⟨hkw141.out, trivial⟩
              refine hK.out _ _ (hH.store HZ7.1 hH.store7 hsw141.out hbw141 how141) (fun hw141 => ?_)
              clear hK K
              try simp only [Act.put, List.setIfInBounds_toArray, List.set_cons_zero, List.set_cons_succ]
              refine held_v 4 (some 8) rfl (by kernel_rfl) (by kernel_rfl) (by kernel_rfl) (by kernel_rfl) (fun c a v w h => HQ2.out c a _ v w h) (by kernel_rfl) (.int .i64 E) (fun W h => by kernel_rfl) hw141 ?_
              try simp only [Act.put, List.setIfInBounds_toArray, List.set_cons_zero, List.set_cons_succ]
              refine wpAnyH_done (by kernel_rfl) ?_ _
              refine HQ1.out _ _ ?_
              clear HQ1 HQ2
              go_wp2_with (refine bodyPost_mid 6 7 8 28 rfl g7 rfl (.int .u64 0) (.int .i64 E) rfl rfl 28 V ex142.1 _ Tryz.underlying28 rfl SV.out rfl ?_)
              exact HEZ.out hE0 _ hw141.rd.rd hw141.bel
        · refine step_alloc (some 11) (by kernel_rfl) (by kernel_rfl) 28 rfl Z HZ0.out ?_
          intro w64 hkw64 hsw64 hbw64
          obtain ⟨g11, hg11⟩ : ∃ g, wr.drew.heap.size = g := ⟨_, rfl⟩
          have hAo11 := Apt.of_lt (g := g11) hH.rd.rd (Nat.le_of_eq hg11)
          have hn3 : g3 ≠ g11 := by have := hH.lt3; omega
          have hn7 : g7 ≠ g11 := by have := hH.lt7; omega
          have hle11 : w.heap.size ≤ g11 := by have := hH.bel.size; omega
          rw [hg11] at hkw64
          rw [hg11]
          have ex65 := HZ7.below hbw64
          have ex66 : Fx [.blk g11 28 Z] w64 := ⟨hkw64.out, trivial⟩
          refine hK.out _ _ (hH.below hbw64) (fun hw64 => ?_)
          clear hK K
          try simp only [Act.put, List.setIfInBounds_toArray, List.set_cons_zero, List.set_cons_succ]
          refine wpAnyH_ready (rs := [2]) (by kernel_rfl) (by decide) ?_
          refine AllReadyH.cons rfl (fun K hK => ?_) AllReadyH.nil
          refine step_call (some 41) (by kernel_rfl) (by kernel_rfl) _ _ (by kernel_rfl) _ (HND.out _) ?_
          rintro e _ ⟨rfl, rfl⟩
          refine ⟨_, rfl, ?_⟩
          refine hK.out _ _ hw64 (fun _ => ?_)
          clear hK K
          try simp only [Act.put, List.setIfInBounds_toArray, List.set_cons_zero, List.set_cons_succ]
          refine wpAnyH_ready (rs := [3]) (by kernel_rfl) (by decide) ?_
          refine AllReadyH.cons rfl (fun K hK => ?_) AllReadyH.nil
          refine step_call (some 42) (by kernel_rfl) (by kernel_rfl) _ _ (by kernel_rfl) _ (HTK.out w64 hw64.rd) ?_
          rintro e w68 ⟨A2, c2, rfl, hrd2, hc2, hm2, hsp2, hbw68⟩
          have hSP : Hid (Sep w A0 A2) := Lib.hid (Sep.trans HSP.out hsp2 hw64.bel.size)
          have hA23 := Lib.hid (Apt.of_sep hsp2 hw64.apt3 hw64.lt3)
          have hA27 := Lib.hid (Apt.of_sep hsp2 hw64.apt7 hw64.lt7)
          have hC2 := Lib.hid hc2
          have hM2 := Lib.hid hm2
          have hA11 := Apt.of_sep hsp2 hAo11 ex66.1.lt
          have ex69 := ex65.below hbw68
          have ex70 := ex66.below hbw68
          have ex71 : RdP A2 L zs w68 := hrd2
          clear hrd2 hc2 hm2 hsp2
          refine ⟨_, rfl, ?_⟩
          refine hK.out _ _ (hw64.below hbw68) (fun hw68 => ?_)
          clear hK K
          try simp only [Act.put, List.setIfInBounds_toArray, List.set_cons_zero, List.set_cons_succ]
          refine held_v 4 (some 38) rfl (by kernel_rfl) (by kernel_rfl) (by kernel_rfl) (by kernel_rfl) (fun c a v w h => HQ2.out c a _ v w h) (by kernel_rfl) (.tuple #[.int .u64 X, .agg (srcV t A2 c2), .int .i64 E]) (fun W h => by kernel_rfl) hw68 ?_
          try simp only [Act.put, List.setIfInBounds_toArray, List.set_cons_zero, List.set_cons_succ]
          refine held_v 5 (some 43) rfl (by kernel_rfl) (by kernel_rfl) (by kernel_rfl) (by kernel_rfl) (fun c a v w h => HQ2.out c a _ v w h) (by kernel_rfl) (.int .u64 X) (fun W h => by kernel_rfl) hw68 ?_
          try simp only [Act.put, List.setIfInBounds_toArray, List.set_cons_zero, List.set_cons_succ]
          refine held_v 6 (some 44) rfl (by kernel_rfl) (by kernel_rfl) (by kernel_rfl) (by kernel_rfl) (fun c a v w h => HQ2.out c a _ v w h) (by kernel_rfl) (.agg (srcV t A2 c2)) (fun W h => by kernel_rfl) hw68 ?_
          try simp only [Act.put, List.setIfInBounds_toArray, List.set_cons_zero, List.set_cons_succ]
          refine held_v 7 (some 45) rfl (by kernel_rfl) (by kernel_rfl) (by kernel_rfl) (by kernel_rfl) (fun c a v w h => HQ2.out c a _ v w h) (by kernel_rfl) (.int .i64 E) (fun W h => by kernel_rfl) hw68 ?_
          try simp only [Act.put, List.setIfInBounds_toArray, List.set_cons_zero, List.set_cons_succ]
          refine held_v 9 (some 10) rfl (by kernel_rfl) (by kernel_rfl) (by kernel_rfl) (by kernel_rfl) (fun c a v w h => HQ2.out c a _ v w h) (by kernel_rfl) (.int .u64 X) (fun W h => by kernel_rfl) hw68 ?_
          try simp only [Act.put, List.setIfInBounds_toArray, List.set_cons_zero, List.set_cons_succ]
          refine wpAnyH_ready (rs := [10]) (by kernel_rfl) (by decide) ?_
          refine AllReadyH.cons rfl (fun K hK => ?_) AllReadyH.nil
          refine step_store none (by kernel_rfl) (by kernel_rfl) 28 (.tmp 11) (.tmp 44) rfl g11 (by kernel_rfl) 28 Z (srcV t A2 c2) ex70.1 (by kernel_rfl) (ZT.out _ _) (ST.out _ _) (OT.out _ _) ?_
          intro w72 hkw72 hsw72 hbw72 how72
          have ex73 := ex69.store ex70.1 ⟨hn7, trivial⟩ hsw72.out hbw72 how72
          have ex74 := ex71.store ex70.1 hA11 hsw72.out hbw72 how72
          have ex75 : Fx [.blk g11 28 (srcV t A2 c2)] w72 := ⟨hkw72.out, trivial⟩
          refine hK.out _ _ (hw68.store ex70.1 ⟨hn3, hAo11, hle11⟩ hsw72.out hbw72 how72) (fun hw72 => ?_)
          clear hK K
          try simp only [Act.put, List.setIfInBounds_toArray, List.set_cons_zero, List.set_cons_succ]
          refine held_v 11 (some 12) rfl (by kernel_rfl) (by kernel_rfl) (by kernel_rfl) (by kernel_rfl) (fun c a v w h => HQ2.out c a _ v w h) (by kernel_rfl) (.int .i64 E) (fun W h => by kernel_rfl) hw72 ?_
          try simp only [Act.put, List.setIfInBounds_toArray, List.set_cons_zero, List.set_cons_succ]
          refine wpAnyH_done (by kernel_rfl) ?_ _
          refine HQ1.out _ _ ?_
          clear HQ1 HQ2
          have HS6 := Lib.hid hw72
          have HZ6 := Lib.hid ex73
          have H11 : Hid (Blk w72 g11 28 (srcV t A2 c2)) := Lib.hid ex75.1
          have HR2 := Lib.hid ex74
          have HOF : Hid (Fx.off g3 V [.blk g7 28 Z]) := Lib.hid ⟨Nat.ne_of_gt HS6.out.lt, trivial⟩
          have HV2 : Hid (∃ V2, srcV t A2 c2 = V2) := Lib.hid ⟨_, rfl⟩
          have SV2 := Lib.hid (ST.out A2 c2)
          have OV2 := Lib.hid (OT.out A2 c2)
          have ZV2 := Lib.hid (ZT.out A2 c2)
          have HM2 := Lib.hid (fun h h2 W h3 h4 => HEM.out h h2 A2 c2 W h3 h4 hSP.out hC2.out hM2.out)
          have HH2 := Lib.hid (fun h h2 w' h3 h4 => HEH.out h h2 A2 c2 w' hSP.out hC2.out hM2.out h3 h4)
          obtain ⟨V2, hV2⟩ := HV2.out
          rw [hV2] at H11 SV2 OV2 ZV2 HM2 HH2
          have A23 := Lib.hid hA23.out
          have A27 := Lib.hid hA27.out
          by_cases hE0 : E = 0
          · have t1 : (E == 0) = true := by rw [beq_iff_eq]; exact hE0
            have t2 : (E != 0) = false := by rw [bne, t1]; rfl
            by_cases hx : X < n
            · have VV2 := Lib.hid (show V.size = V2.size by rw [← ZV.out, ZV2.out])
              go_wp2_with (first
                | (with_reducible refine at_any ?_; refine at_dst 50 rfl ?_; refine wpList_load_blk rfl 28 (.tmp 11) rfl g11 rfl 28 V2 H11.out _ Tryz.underlying28 rfl SV2.out ?_)
                | (with_reducible refine at_any ?_; refine at_store 3 rfl ?_; refine wpList_store_any rfl 28 (.tmp 3) (.tmp 50) rfl g3 rfl 28 V V2 HS6.out.blk rfl VV2.out SV2.out OV2.out ?_; intro w9 hk9 hs9 hb9 ho9; have HS := HS6.out.put3 HR2.out A23.out A27.out hk9.out hs9.out hb9 ho9; have HZ := HZ6.out.store HS6.out.blk HOF.out hs9.out hb9 ho9))
              have HZ7 := HZ.drew
              refine wp_region_held_drew (S := (DrS w g3 g7 V2 A2 L zs)) (by kernel_rfl) HS.drew (fun hH => ?_)
              refine wpAnyH_letter #[false, false, false, false, false] (by kernel_rfl) (fun _ _ d _ _ h => by cases d <;> exact h) (fun QL HQ1 HQ2 => ?_)
              refine held_v 0 (some 54) rfl (by kernel_rfl) (by kernel_rfl) (by kernel_rfl) (by kernel_rfl) (fun c a v w h => HQ2.out c a _ v w h) (by kernel_rfl) (.int .u64 X) (fun W h => by kernel_rfl) hH ?_
              try simp only [Act.put, List.setIfInBounds_toArray, List.set_cons_zero, List.set_cons_succ]
              refine held_row 1 (some 55) rfl (by kernel_rfl) (by kernel_rfl) (by kernel_rfl) (by kernel_rfl) (fun c a v w h => HQ2.out c a _ v w h) (by kernel_rfl) 28 (.tmp 3) rfl g3 (by kernel_rfl) 28 V2 (fun _ h => h.blk) _ Tryz.underlying28 rfl SV2.out hH ?_
              try simp only [Act.put, List.setIfInBounds_toArray, List.set_cons_zero, List.set_cons_succ]
              refine held_v 2 (some 6) rfl (by kernel_rfl) (by kernel_rfl) (by kernel_rfl) (by kernel_rfl) (fun c a v w h => HQ2.out c a _ v w h) (by kernel_rfl) (.int .u64 X) (fun W h => by kernel_rfl) hH ?_
              try simp only [Act.put, List.setIfInBounds_toArray, List.set_cons_zero, List.set_cons_succ]
              refine wpAnyH_ready (rs := [3]) (by kernel_rfl) (by decide) ?_
              refine AllReadyH.cons rfl (fun K hK => ?_) AllReadyH.nil
              refine step_store none (by kernel_rfl) (by kernel_rfl) 28 (.tmp 7) (.tmp 55) rfl g7 (by kernel_rfl) 28 Z V2 HZ7.1 (by kernel_rfl) ZV2.out SV2.out OV2.out ?_
              intro w141 hkw141 hsw141 hbw141 how141
              have ex142 : Fx [.blk g7 28 V2] w141 := ⟨hkw141.out, trivial⟩
              refine hK.out _ _ (hH.store HZ7.1 hH.store7 hsw141.out hbw141 how141) (fun hw141 => ?_)
              clear hK K
              try simp only [Act.put, List.setIfInBounds_toArray, List.set_cons_zero, List.set_cons_succ]
              refine held_v 4 (some 8) rfl (by kernel_rfl) (by kernel_rfl) (by kernel_rfl) (by kernel_rfl) (fun c a v w h => HQ2.out c a _ v w h) (by kernel_rfl) (.int .i64 0) (fun W h => by kernel_rfl) hw141 ?_
              try simp only [Act.put, List.setIfInBounds_toArray, List.set_cons_zero, List.set_cons_succ]
              refine wpAnyH_done (by kernel_rfl) ?_ _
              refine HQ1.out _ _ ?_
              clear HQ1 HQ2
              go_wp2_with (refine bodyPost_mid 6 7 8 28 rfl g7 rfl (.int .u64 X) (.int .i64 0) rfl rfl 28 V2 ex142.1 _ Tryz.underlying28 rfl SV2.out rfl ?_)
              exact HH2.out hE0 hx _ hw141.rd.rd hw141.bel
            · have hx2 : n ≤ X := by omega
              have VV2 := Lib.hid (show V.size = V2.size by rw [← ZV.out, ZV2.out])
              go_wp2_with (first
                | (with_reducible refine at_any ?_; refine at_dst 50 rfl ?_; refine wpList_load_blk rfl 28 (.tmp 11) rfl g11 rfl 28 V2 H11.out _ Tryz.underlying28 rfl SV2.out ?_)
                | (with_reducible refine at_any ?_; refine at_store 3 rfl ?_; refine wpList_store_any rfl 28 (.tmp 3) (.tmp 50) rfl g3 rfl 28 V V2 HS6.out.blk rfl VV2.out SV2.out OV2.out ?_; intro w9 hk9 hs9 hb9 ho9; have HS := HS6.out.put3 HR2.out A23.out A27.out hk9.out hs9.out hb9 ho9; have HZ := HZ6.out.store HS6.out.blk HOF.out hs9.out hb9 ho9))
              have HF := Lib.hid (HM2.out hE0 (by first | exact hx2 | exact Int.not_lt.2 hx2) _ HS HZ)
              clear HS HZ
              go_roundw
              case rel => exact ⟨i + 1, by omega, by go_num, HF.out⟩
              case measure => simp [intOf]; omega
          · have t1 : (E == 0) = false := by rw [beq_eq_false_iff_ne]; exact hE0
            have t2 : (E != 0) = true := by rw [bne, t1]; rfl
            go_wp2_with fail
            have HZ7 := HZ6.out.drew
            refine wp_region_held_drew (S := (DrS w g3 g7 V A L zs)) (by kernel_rfl) HS6.out.drew (fun hH => ?_)
            refine wpAnyH_letter #[false, false, false, false, false] (by kernel_rfl) (fun _ _ d _ _ h => by cases d <;> exact h) (fun QL HQ1 HQ2 => ?_)
            refine held_row 0 (some 48) rfl (by kernel_rfl) (by kernel_rfl) (by kernel_rfl) (by kernel_rfl) (fun c a v w h => HQ2.out c a _ v w h) (by kernel_rfl) 28 (.tmp 3) rfl g3 (by kernel_rfl) 28 V (fun _ h => h.blk) _ Tryz.underlying28 rfl SV.out hH ?_
            try simp only [Act.put, List.setIfInBounds_toArray, List.set_cons_zero, List.set_cons_succ]
            refine held_v 1 (some 49) rfl (by kernel_rfl) (by kernel_rfl) (by kernel_rfl) (by kernel_rfl) (fun c a v w h => HQ2.out c a _ v w h) (by kernel_rfl) (.int .i64 E) (fun W h => by kernel_rfl) hH ?_
            try simp only [Act.put, List.setIfInBounds_toArray, List.set_cons_zero, List.set_cons_succ]
            refine held_v 2 (some 6) rfl (by kernel_rfl) (by kernel_rfl) (by kernel_rfl) (by kernel_rfl) (fun c a v w h => HQ2.out c a _ v w h) (by kernel_rfl) (.int .u64 0) (fun W h => by kernel_rfl) hH ?_
            try simp only [Act.put, List.setIfInBounds_toArray, List.set_cons_zero, List.set_cons_succ]
            refine wpAnyH_ready (rs := [3]) (by kernel_rfl) (by decide) ?_
            refine AllReadyH.cons rfl (fun K hK => ?_) AllReadyH.nil
            refine step_store none (by kernel_rfl) (by kernel_rfl) 28 (.tmp 7) (.tmp 48) rfl g7 (by kernel_rfl) 28 Z V HZ7.1 (by kernel_rfl) ZV.out SV.out OV.out ?_
            intro w141 hkw141 hsw141 hbw141 how141
            have ex142 : Fx [.blk g7 28 V] w141 := ⟨hkw141.out, trivial⟩
            refine hK.out _ _ (hH.store HZ7.1 hH.store7 hsw141.out hbw141 how141) (fun hw141 => ?_)
            clear hK K
            try simp only [Act.put, List.setIfInBounds_toArray, List.set_cons_zero, List.set_cons_succ]
            refine held_v 4 (some 8) rfl (by kernel_rfl) (by kernel_rfl) (by kernel_rfl) (by kernel_rfl) (fun c a v w h => HQ2.out c a _ v w h) (by kernel_rfl) (.int .i64 E) (fun W h => by kernel_rfl) hw141 ?_
            try simp only [Act.put, List.setIfInBounds_toArray, List.set_cons_zero, List.set_cons_succ]
            refine wpAnyH_done (by kernel_rfl) ?_ _
            refine HQ1.out _ _ ?_
            clear HQ1 HQ2
            go_wp2_with (refine bodyPost_mid 6 7 8 28 rfl g7 rfl (.int .u64 0) (.int .i64 E) rfl rfl 28 V ex142.1 _ Tryz.underlying28 rfl SV.out rfl ?_)
            exact HEZ.out hE0 _ hw141.rd.rd hw141.bel
      · obtain rfl : i = a := by omega
        rw [Nat.sub_self, drawGo_zero] at hgo
        have HEND : Hid (∀ w', RdP A s.tape.length s.tape w' → Below w.heap.size w w' → RetDraw w s A0 rr (.returned (.tuple #[.int .u64 0, .agg (srcV si A c), .int .i64 9])) w') := Lib.hid (fun w' hr hb => ⟨A, c, by rw [hgo], hr, hcl, hcm, hsp, hb⟩)
        obtain ⟨zs, hzs⟩ : ∃ zs, s.tape = zs := ⟨_, rfl⟩
        obtain ⟨L, hL⟩ : ∃ L, zs.length = L := ⟨_, rfl⟩
        rw [hzs, hL] at HEND HS
        obtain ⟨V, hV⟩ : ∃ V, srcV si A c = V := ⟨_, rfl⟩
        rw [hV] at SV OV ZV HEND HS
        clear hgo oki htp hsp hcl hcm hzs hL hV HTAKE HND HZSS
        go_wp2_with fail
        have HZ7 := HZ.drew
        refine wp_region_held_drew (S := (DrS w g3 g7 V A L zs)) (by kernel_rfl) HS.drew (fun hH => ?_)
        refine wpAnyH_letter #[false, false, false, false] (by kernel_rfl) (fun _ _ d _ _ h => by cases d <;> exact h) (fun QL HQ1 HQ2 => ?_)
        refine held_row 0 (some 56) rfl (by kernel_rfl) (by kernel_rfl) (by kernel_rfl) (by kernel_rfl) (fun c a v w h => HQ2.out c a _ v w h) (by kernel_rfl) 28 (.tmp 3) rfl g3 (by kernel_rfl) 28 V (fun _ h => h.blk) _ Tryz.underlying28 rfl SV.out hH ?_
        try simp only [Act.put, List.setIfInBounds_toArray, List.set_cons_zero, List.set_cons_succ]
        refine held_v 1 (some 6) rfl (by kernel_rfl) (by kernel_rfl) (by kernel_rfl) (by kernel_rfl) (fun c a v w h => HQ2.out c a _ v w h) (by kernel_rfl) (.int .u64 0) (fun W h => by kernel_rfl) hH ?_
        try simp only [Act.put, List.setIfInBounds_toArray, List.set_cons_zero, List.set_cons_succ]
        refine wpAnyH_ready (rs := [2]) (by kernel_rfl) (by decide) ?_
        refine AllReadyH.cons rfl (fun K hK => ?_) AllReadyH.nil
        refine step_store none (by kernel_rfl) (by kernel_rfl) 28 (.tmp 7) (.tmp 56) rfl g7 (by kernel_rfl) 28 Z V HZ7.1 (by kernel_rfl) ZV.out SV.out OV.out ?_
        intro w41 hkw41 hsw41 hbw41 how41
        have ex42 : Fx [.blk g7 28 V] w41 := ⟨hkw41.out, trivial⟩
        refine hK.out _ _ (hH.store HZ7.1 hH.store7 hsw41.out hbw41 how41) (fun hw41 => ?_)
        clear hK K
        try simp only [Act.put, List.setIfInBounds_toArray, List.set_cons_zero, List.set_cons_succ]
        refine held_v 3 (some 8) rfl (by kernel_rfl) (by kernel_rfl) (by kernel_rfl) (by kernel_rfl) (fun c a v w h => HQ2.out c a _ v w h) (by kernel_rfl) (.int .i64 9) (fun W h => by kernel_rfl) hw41 ?_
        try simp only [Act.put, List.setIfInBounds_toArray, List.set_cons_zero, List.set_cons_succ]
        refine wpAnyH_done (by kernel_rfl) ?_ _
        refine HQ1.out _ _ ?_
        clear HQ1 HQ2
        go_wp2_with (refine bodyPost_mid 6 7 8 28 rfl g7 rfl (.int .u64 0) (.int .i64 9) rfl rfl 28 V ex42.1 _ Tryz.underlying28 rfl SV.out rfl ?_)
        exact HEND.out _ hw41.rd hw41.bel
end
section
open Go.ChangeShapes Go.WideShapes Go.ChangeAt Go.RowKit
set_option maxHeartbeats 8000000 in
theorem r13draw_c (l : List Int) (hz : ∀ z ∈ l, 0 ≤ z ∧ z < 18446744073709551616) (s : Src) (ok : s.Ok) (a : Int) (a0 : -9223372036854775808 ≤ a) (a1 : a < 9223372036854775808) (AL : Option Addr) (n c : Nat) (hn : n ≤ maxLen) (A0 : Option Addr) (c0 : Nat) (hc : s.tape.length ≤ c0) (hcm : c0 ≤ maxLen) (w : World) (hrl : Rd .u64 w w.heap.size AL n l) (hrd : Rd .u8 w w.heap.size A0 s.tape.length s.tape) :
    Calls Tryz.prog 36 #[.slice AL n c, .agg (srcV s A0 c0), .int .i64 a] w (RetLead w s A0 (ledR l s a)) := by
  have HZ0 := Lib.hid zero_src
  have hRd := Lib.hid hrd
  have HZSS := Lib.hid (fun (t : Src) (h : t.seed.length = 32) A c => srcV_same Src.zero t rfl h none A 0 c)
  have HRL : ∀ {W : World}, Below w.heap.size w W → Rd .u64 W W.heap.size AL n l := fun hb => (hrl.below hb).mono hb.size
  have hto := fun W h => r9total_c l hz AL n c hn W h
  have hz0 : ∀ z ∈ l, 0 ≤ z := fun z h => (hz z h).1
  have hs0 := sumL_nn hz0
  obtain ⟨Z, hZ⟩ : ∃ Z, srcV Src.zero none 0 = Z := ⟨_, rfl⟩
  rw [hZ] at HZ0 HZSS
  have SV := Lib.hid (sizedS s ok.sl A0 c0)
  have OV := Lib.hid (srcV_ones s A0 c0)
  have ZV := Lib.hid (HZSS.out s ok.sl A0 c0)
  by_cases hs : sumL l < 9223372036854775808
  · rw [led_ok s a hs]
    rw [(sumV_ok hs).1, (sumV_ok hs).2] at hto
    by_cases hnz : sumL l = 0
    · rw [ledT_zero s a hnz]
      rw [hnz] at hto
      have HTO := Lib.hid hto
      have HEND0 : Hid (∀ w', RdP A0 s.tape.length s.tape w' → Below w.heap.size w w' → RetLead w s A0 (0, s, 10) (.returned (.tuple #[.int .i64 0, .agg (srcV s A0 c0), .int .i64 10])) w') := Lib.hid (fun w' hr hb => ⟨A0, c0, rfl, hr, hc, hcm, .inl rfl, hb⟩)
      obtain ⟨rr, hrr⟩ : ∃ r : Int × Src × Int, (0, s, 10) = r := ⟨_, rfl⟩
      rw [hrr] at HEND0 ⊢
      obtain ⟨V, hV⟩ : ∃ V, srcV s A0 c0 = V := ⟨_, rfl⟩
      rw [hV] at SV OV ZV HEND0 ⊢
      obtain ⟨zs, hzs⟩ : ∃ zs, s.tape = zs := ⟨_, rfl⟩
      obtain ⟨L, hL⟩ : ∃ L, zs.length = L := ⟨_, rfl⟩
      rw [hzs, hL] at HEND0
      rw [hzs, hL] at hRd
      have HEND := HEND0
      clear HEND0 hrr hV hzs hL hto hz hz0 hs0 hrd hrl hc hcm hZ hn a0 a1 hs HZSS
      go_enter Tryz.func36, Tryz.ntmps36
      go_wp2_with (first
        | (with_reducible refine at_any ?_; refine at_dst 4 rfl ?_; refine wpList_box_any rfl 28 (.tmp 1) rfl V rfl ?_; intro w1 hk1 hs1 hb1)
        | (with_reducible refine at_any ?_; refine at_dst 7 rfl ?_; refine wpList_alloc_any rfl 28 rfl Z HZ0.out ?_; intro w2 hk2 hs2 hb2; have HS := DrS.mk2 hRd.out hk1.out hb1 hk2.out hb2 (Below.refl _ _); have HZ := fx1 hk2.out; have HR2 := Lib.hid (HRL (hb1.trans (hb2.mono hb1.size))); clear hs1 hb1 hs2 hb2)
        | (go_at_call 28; (with_reducible refine (HTO.out _ HR2.out).mono ?_); rintro e _ ⟨rfl, rfl⟩))
      obtain ⟨g3, hg3⟩ : ∃ g, w.heap.size = g := ⟨_, rfl⟩
      obtain ⟨g7, hg7⟩ : ∃ g, w1.heap.size = g := ⟨_, rfl⟩
      rw [hg3, hg7] at HS
      rw [hg7] at HZ
      rw [hg3, hg7]
      clear hg3 hg7 hk1 hk2
      have HZ7 := HZ.drew
      refine wp_region_held_drew (S := (DrS w g3 g7 V A0 L zs)) (by kernel_rfl) HS.drew (fun hH => ?_)
      refine wpAnyH_letter #[false, false, false, false] (by kernel_rfl) (fun _ _ d _ _ h => by cases d <;> exact h) (fun QL HQ1 HQ2 => ?_)
      refine held_row 0 (some 26) rfl (by kernel_rfl) (by kernel_rfl) (by kernel_rfl) (by kernel_rfl) (fun c a v w h => HQ2.out c a _ v w h) (by kernel_rfl) 28 (.tmp 4) rfl g3 (by kernel_rfl) 28 V (fun _ h => h.blk) _ Tryz.underlying28 rfl SV.out hH ?_
      try simp only [Act.put, List.setIfInBounds_toArray, List.set_cons_zero, List.set_cons_succ]
      refine held_v 1 (some 6) rfl (by kernel_rfl) (by kernel_rfl) (by kernel_rfl) (by kernel_rfl) (fun c a v w h => HQ2.out c a _ v w h) (by kernel_rfl) (.int .i64 0) (fun W h => by kernel_rfl) hH ?_
      try simp only [Act.put, List.setIfInBounds_toArray, List.set_cons_zero, List.set_cons_succ]
      refine wpAnyH_ready (rs := [2]) (by kernel_rfl) (by decide) ?_
      refine AllReadyH.cons rfl (fun K hK => ?_) AllReadyH.nil
      refine step_store none (by kernel_rfl) (by kernel_rfl) 28 (.tmp 7) (.tmp 26) rfl g7 (by kernel_rfl) 28 Z V HZ7.1 (by kernel_rfl) ZV.out SV.out OV.out ?_
      intro w41 hkw41 hsw41 hbw41 how41
      have ex42 : Fx [.blk g7 28 V] w41 := ⟨hkw41.out, trivial⟩
      refine hK.out _ _ (hH.store HZ7.1 hH.store7 hsw41.out hbw41 how41) (fun hw41 => ?_)
      clear hK K
      try simp only [Act.put, List.setIfInBounds_toArray, List.set_cons_zero, List.set_cons_succ]
      refine held_v 3 (some 8) rfl (by kernel_rfl) (by kernel_rfl) (by kernel_rfl) (by kernel_rfl) (fun c a v w h => HQ2.out c a _ v w h) (by kernel_rfl) (.int .i64 10) (fun W h => by kernel_rfl) hw41 ?_
      try simp only [Act.put, List.setIfInBounds_toArray, List.set_cons_zero, List.set_cons_succ]
      refine wpAnyH_done (by kernel_rfl) ?_ _
      refine HQ1.out _ _ ?_
      clear HQ1 HQ2
      go_wp2_with (refine bodyPost_mid 6 7 8 28 rfl g7 rfl (.int .i64 0) (.int .i64 10) rfl rfl 28 V ex42.1 _ Tryz.underlying28 rfl SV.out rfl ?_)
      exact HEND.out _ hw41.rd hw41.bel
    · rw [ledT_go s a hnz]
      have hdr := fun W h => r8draw_c s ok (sumL l) (by omega) (by omega) a a0 a1 A0 c0 hc hcm W h
      have okt : (drawT s (sumL l) a).Ok := drawT_ok s (sumL l) a ok
      have HEND0 : Hid (∀ A2 c2 w', Sep w A0 A2 → s.tape.length ≤ c2 → c2 ≤ maxLen → RdP A2 s.tape.length s.tape w' → Below w.heap.size w w' → RetLead w s A0 (ledGo l (drawR s (sumL l) a)) (.returned (.tuple #[.int .i64 (ledGo l (drawR s (sumL l) a)).1, .agg (srcV (ledGo l (drawR s (sumL l) a)).2.1 A2 c2), .int .i64 (ledGo l (drawR s (sumL l) a)).2.2])) w') := Lib.hid (fun A2 c2 w' h1 h2 h3 h4 h5 => ⟨A2, c2, rfl, h4, h2, h3, h1, h5⟩)
      have how := fun W h => r11owner_c l hz AL n c hn (drawR s (sumL l) a).1 (draw_in s (sumL l) a).1 (draw_in s (sumL l) a).2 W h
      have hgo : (drawR s (sumL l) a).2.2 = 0 → ledGo l (drawR s (sumL l) a) = (ownV l (drawR s (sumL l) a).1, (drawR s (sumL l) a).2.1, 0) := fun h => if_pos h
      have hgn : (drawR s (sumL l) a).2.2 ≠ 0 → ledGo l (drawR s (sumL l) a) = (0, (drawR s (sumL l) a).2.1, (drawR s (sumL l) a).2.2) := fun h => if_neg h
      obtain ⟨S, hS⟩ : ∃ x, sumL l = x := ⟨_, rfl⟩
      rw [hS] at hto hnz hdr okt HEND0 how hgo hgn ⊢
      obtain ⟨t, ht⟩ : ∃ x, drawT s S a = x := ⟨_, rfl⟩
      have ht2 : (drawR s S a).2.1 = t := ht
      obtain ⟨x, hx⟩ : ∃ x, (drawR s S a).1 = x := ⟨_, rfl⟩
      obtain ⟨E, hE⟩ : ∃ x, (drawR s S a).2.2 = x := ⟨_, rfl⟩
      rw [ht] at okt
      unfold RetDraw at hdr
      rw [ht2, hx, hE] at hdr hgo
      rw [ht2, hE] at hgn
      rw [hx] at how
      have t1 : (S == 0) = false := by rw [beq_eq_false_iff_ne]; exact hnz
      have HTO := Lib.hid hto
      have HDR0 := Lib.hid hdr
      have ST := Lib.hid (fun A c => sizedS t okt.sl A c)
      have OT := Lib.hid (fun A c => srcV_ones t A c)
      have ZT := Lib.hid (fun A c => HZSS.out t okt.sl A c)
      obtain ⟨ov, hov⟩ : ∃ y, ownV l x = y := ⟨_, rfl⟩
      obtain ⟨oe, hoe⟩ : ∃ y, ownE l x = y := ⟨_, rfl⟩
      rw [hov, hoe] at how
      rw [hov] at hgo
      have HOW := Lib.hid how
      by_cases hE0 : E = 0
      · have e1 := hgo hE0
        rw [e1] at HEND0 ⊢
        have t2 : (E == 0) = true := by rw [beq_iff_eq]; exact hE0
        have t3 : (E != 0) = false := by rw [bne, t2]; rfl
        obtain ⟨rr, hrr⟩ : ∃ r : Int × Src × Int, (ov, t, 0) = r := ⟨_, rfl⟩
        have HEND1 : Hid (∀ A2 c2 w', Sep w A0 A2 → s.tape.length ≤ c2 → c2 ≤ maxLen → RdP A2 s.tape.length s.tape w' → Below w.heap.size w w' → RetLead w s A0 rr (.returned (.tuple #[.int .i64 ov, .agg (srcV t A2 c2), .int .i64 0])) w') := by rw [← hrr]; exact HEND0
        rw [hrr]
        obtain ⟨V, hV⟩ : ∃ V, srcV s A0 c0 = V := ⟨_, rfl⟩
        have HDR := HDR0
        rw [hV] at SV OV ZV HDR ⊢
        obtain ⟨zs, hzs⟩ : ∃ zs, s.tape = zs := ⟨_, rfl⟩
        obtain ⟨L, hL⟩ : ∃ L, zs.length = L := ⟨_, rfl⟩
        rw [hzs, hL] at HEND1 hRd HDR
        have HEND := HEND1
        clear HEND1 HEND0 HDR0 hrr hV hzs hL hto hdr how hgo hgn e1 hov hoe hx hE ht ht2 hS okt hz hz0 hs0 hrd hrl hc hcm hZ hn a0 a1 hs HZSS hnz hE0
        go_enter Tryz.func36, Tryz.ntmps36
        go_wp2_with (first
          | (with_reducible refine at_any ?_; refine at_dst 4 rfl ?_; refine wpList_box_any rfl 28 (.tmp 1) rfl V rfl ?_; intro w1 hk1 hs1 hb1)
          | (with_reducible refine at_any ?_; refine at_dst 7 rfl ?_; refine wpList_alloc_any rfl 28 rfl Z HZ0.out ?_; intro w2 hk2 hs2 hb2; have HS := DrS.mk2 hRd.out hk1.out hb1 hk2.out hb2 (Below.refl _ _); have HZ := fx1 hk2.out; have HR2 := Lib.hid (HRL (hb1.trans (hb2.mono hb1.size))); clear hs1 hb1 hs2 hb2)
          | (go_at_call 28; (with_reducible refine (HTO.out _ HR2.out).mono ?_); rintro e _ ⟨rfl, rfl⟩)
          | (with_reducible refine at_any ?_; refine at_dst 28 rfl ?_; refine wpList_load_blk rfl 28 (.tmp 4) rfl w.heap.size rfl 28 V HS.blk _ Tryz.underlying28 rfl SV.out ?_)
          | (go_at_call 61; (with_reducible refine (HDR.out _ HS.rd.rd).mono ?_); rintro e w5 ⟨A2, c2, rfl, hrd2, hc2, hm2, hsp2, hb5⟩; obtain ⟨V2, hV2⟩ : ∃ V2, srcV t A2 c2 = V2 := ⟨_, rfl⟩; have SV2 := Lib.hid (ST.out A2 c2); have OV2 := Lib.hid (OT.out A2 c2); have ZV2 := Lib.hid (ZT.out A2 c2); have HH2 := Lib.hid (fun w' h3 h4 => HEND.out A2 c2 w' (sep_from hsp2 HS.bel.size) hc2 hm2 h3 h4); rw [hV2] at SV2 OV2 ZV2 HH2 ⊢; clear hV2 hc2 hm2)
          | (with_reducible refine at_any ?_; refine at_dst 12 rfl ?_; refine wpList_alloc_any rfl 28 rfl Z HZ0.out ?_; intro w6 hk6 hs6 hb6)
          | (with_reducible refine at_any ?_; refine at_store 12 rfl ?_; refine wpList_store_any rfl 28 (.tmp 12) (.tmp 33) rfl w5.heap.size rfl 28 Z V2 hk6.out rfl ZV2.out SV2.out OV2.out ?_; intro w7 hk7 hs7 hb7 ho7; have T := Lib.hid (HS.took HZ hrd2 hsp2 hb5 hb6 hk6.out hk7.out hs7.out hb7 ho7))
          | (go_at_call 62; (with_reducible refine (HOW.out _ (HRL T.out.2.2.2.2.2.bel)).mono ?_); rintro e _ ⟨rfl, rfl⟩))
        obtain ⟨-, HZ9, -, -, -, HD⟩ := T.out
        obtain ⟨g7, hg7⟩ : ∃ g, w1.heap.size = g := ⟨_, rfl⟩
        obtain ⟨g11, hg11⟩ : ∃ g, w5.heap.size = g := ⟨_, rfl⟩
        rw [hg7] at HZ9 HD
        rw [hg11] at HD
        rw [hg7, hg11]
        clear hg7 hg11 T
        have HZ7 := HZ9.drew
        refine wp_region_held_drew (S := (DrH w g7 g11 V2 A2 L zs)) (by kernel_rfl) HD.drew (fun hH => ?_)
        refine wpAnyH_letter #[false, false, false, false, false] (by kernel_rfl) (fun _ _ d _ _ h => by cases d <;> exact h) (fun QL HQ1 HQ2 => ?_)
        refine held_v 0 (some 45) rfl (by kernel_rfl) (by kernel_rfl) (by kernel_rfl) (by kernel_rfl) (fun c a v w h => HQ2.out c a _ v w h) (by kernel_rfl) (.int .i64 ov) (fun W h => by kernel_rfl) hH ?_
        try simp only [Act.put, List.setIfInBounds_toArray, List.set_cons_zero, List.set_cons_succ]
        refine held_row 1 (some 46) rfl (by kernel_rfl) (by kernel_rfl) (by kernel_rfl) (by kernel_rfl) (fun c a v w h => HQ2.out c a _ v w h) (by kernel_rfl) 28 (.tmp 12) rfl g11 (by kernel_rfl) 28 V2 (fun _ h => h.blk) _ Tryz.underlying28 rfl SV2.out hH ?_
        try simp only [Act.put, List.setIfInBounds_toArray, List.set_cons_zero, List.set_cons_succ]
        refine held_v 2 (some 6) rfl (by kernel_rfl) (by kernel_rfl) (by kernel_rfl) (by kernel_rfl) (fun c a v w h => HQ2.out c a _ v w h) (by kernel_rfl) (.int .i64 ov) (fun W h => by kernel_rfl) hH ?_
        try simp only [Act.put, List.setIfInBounds_toArray, List.set_cons_zero, List.set_cons_succ]
        refine wpAnyH_ready (rs := [3]) (by kernel_rfl) (by decide) ?_
        refine AllReadyH.cons rfl (fun K hK => ?_) AllReadyH.nil
        refine step_store none (by kernel_rfl) (by kernel_rfl) 28 (.tmp 7) (.tmp 46) rfl g7 (by kernel_rfl) 28 Z V2 HZ7.1 (by kernel_rfl) ZV2.out SV2.out OV2.out ?_
        intro w141 hkw141 hsw141 hbw141 how141
        have ex142 : Fx [.blk g7 28 V2] w141 := ⟨hkw141.out, trivial⟩
        refine hK.out _ _ (hH.store HZ7.1 hH.store7 hsw141.out hbw141 how141) (fun hw141 => ?_)
        clear hK K
        try simp only [Act.put, List.setIfInBounds_toArray, List.set_cons_zero, List.set_cons_succ]
        refine held_v 4 (some 8) rfl (by kernel_rfl) (by kernel_rfl) (by kernel_rfl) (by kernel_rfl) (fun c a v w h => HQ2.out c a _ v w h) (by kernel_rfl) (.int .i64 0) (fun W h => by kernel_rfl) hw141 ?_
        try simp only [Act.put, List.setIfInBounds_toArray, List.set_cons_zero, List.set_cons_succ]
        refine wpAnyH_done (by kernel_rfl) ?_ _
        refine HQ1.out _ _ ?_
        clear HQ1 HQ2
        go_wp2_with (refine bodyPost_mid 6 7 8 28 rfl g7 rfl (.int .i64 ov) (.int .i64 0) rfl rfl 28 V2 ex142.1 _ Tryz.underlying28 rfl SV2.out rfl ?_)
        exact HH2.out _ hw141.rd.rd hw141.bel
      · have e1 := hgn hE0
        rw [e1] at HEND0 ⊢
        have t2 : (E == 0) = false := by rw [beq_eq_false_iff_ne]; exact hE0
        have t3 : (E != 0) = true := by rw [bne, t2]; rfl
        obtain ⟨rr, hrr⟩ : ∃ r : Int × Src × Int, (0, t, E) = r := ⟨_, rfl⟩
        have HEND1 : Hid (∀ A2 c2 w', Sep w A0 A2 → s.tape.length ≤ c2 → c2 ≤ maxLen → RdP A2 s.tape.length s.tape w' → Below w.heap.size w w' → RetLead w s A0 rr (.returned (.tuple #[.int .i64 0, .agg (srcV t A2 c2), .int .i64 E])) w') := by rw [← hrr]; exact HEND0
        rw [hrr]
        obtain ⟨V, hV⟩ : ∃ V, srcV s A0 c0 = V := ⟨_, rfl⟩
        have HDR := HDR0
        rw [hV] at SV OV ZV HDR ⊢
        obtain ⟨zs, hzs⟩ : ∃ zs, s.tape = zs := ⟨_, rfl⟩
        obtain ⟨L, hL⟩ : ∃ L, zs.length = L := ⟨_, rfl⟩
        rw [hzs, hL] at HEND1 hRd HDR
        have HEND := HEND1
        clear HEND1 HEND0 HDR0 hrr hV hzs hL hto hdr how hgo hgn e1 hov hoe hx hE ht ht2 hS okt hz hz0 hs0 hrd hrl hc hcm hZ hn a0 a1 hs HZSS hnz hE0
        go_enter Tryz.func36, Tryz.ntmps36
        go_wp2_with (first
          | (with_reducible refine at_any ?_; refine at_dst 4 rfl ?_; refine wpList_box_any rfl 28 (.tmp 1) rfl V rfl ?_; intro w1 hk1 hs1 hb1)
          | (with_reducible refine at_any ?_; refine at_dst 7 rfl ?_; refine wpList_alloc_any rfl 28 rfl Z HZ0.out ?_; intro w2 hk2 hs2 hb2; have HS := DrS.mk2 hRd.out hk1.out hb1 hk2.out hb2 (Below.refl _ _); have HZ := fx1 hk2.out; have HR2 := Lib.hid (HRL (hb1.trans (hb2.mono hb1.size))); clear hs1 hb1 hs2 hb2)
          | (go_at_call 28; (with_reducible refine (HTO.out _ HR2.out).mono ?_); rintro e _ ⟨rfl, rfl⟩)
          | (with_reducible refine at_any ?_; refine at_dst 28 rfl ?_; refine wpList_load_blk rfl 28 (.tmp 4) rfl w.heap.size rfl 28 V HS.blk _ Tryz.underlying28 rfl SV.out ?_)
          | (go_at_call 61; (with_reducible refine (HDR.out _ HS.rd.rd).mono ?_); rintro e w5 ⟨A2, c2, rfl, hrd2, hc2, hm2, hsp2, hb5⟩; obtain ⟨V2, hV2⟩ : ∃ V2, srcV t A2 c2 = V2 := ⟨_, rfl⟩; have SV2 := Lib.hid (ST.out A2 c2); have OV2 := Lib.hid (OT.out A2 c2); have ZV2 := Lib.hid (ZT.out A2 c2); have HH2 := Lib.hid (fun w' h3 h4 => HEND.out A2 c2 w' (sep_from hsp2 HS.bel.size) hc2 hm2 h3 h4); rw [hV2] at SV2 OV2 ZV2 HH2 ⊢; clear hV2 hc2 hm2)
          | (with_reducible refine at_any ?_; refine at_dst 12 rfl ?_; refine wpList_alloc_any rfl 28 rfl Z HZ0.out ?_; intro w6 hk6 hs6 hb6)
          | (with_reducible refine at_any ?_; refine at_store 12 rfl ?_; refine wpList_store_any rfl 28 (.tmp 12) (.tmp 33) rfl w5.heap.size rfl 28 Z V2 hk6.out rfl ZV2.out SV2.out OV2.out ?_; intro w7 hk7 hs7 hb7 ho7; have T := Lib.hid (HS.took HZ hrd2 hsp2 hb5 hb6 hk6.out hk7.out hs7.out hb7 ho7)))
        obtain ⟨-, HZ9, -, -, -, HD⟩ := T.out
        obtain ⟨g7, hg7⟩ : ∃ g, w1.heap.size = g := ⟨_, rfl⟩
        obtain ⟨g11, hg11⟩ : ∃ g, w5.heap.size = g := ⟨_, rfl⟩
        rw [hg7] at HZ9 HD
        rw [hg11] at HD
        rw [hg7, hg11]
        clear hg7 hg11 T
        have HZ7 := HZ9.drew
        refine wp_region_held_drew (S := (DrH w g7 g11 V2 A2 L zs)) (by kernel_rfl) HD.drew (fun hH => ?_)
        refine wpAnyH_letter #[false, false, false, false, false] (by kernel_rfl) (fun _ _ d _ _ h => by cases d <;> exact h) (fun QL HQ1 HQ2 => ?_)
        refine held_row 0 (some 37) rfl (by kernel_rfl) (by kernel_rfl) (by kernel_rfl) (by kernel_rfl) (fun c a v w h => HQ2.out c a _ v w h) (by kernel_rfl) 28 (.tmp 12) rfl g11 (by kernel_rfl) 28 V2 (fun _ h => h.blk) _ Tryz.underlying28 rfl SV2.out hH ?_
        try simp only [Act.put, List.setIfInBounds_toArray, List.set_cons_zero, List.set_cons_succ]
        refine held_v 1 (some 38) rfl (by kernel_rfl) (by kernel_rfl) (by kernel_rfl) (by kernel_rfl) (fun c a v w h => HQ2.out c a _ v w h) (by kernel_rfl) (.int .i64 E) (fun W h => by kernel_rfl) hH ?_
        try simp only [Act.put, List.setIfInBounds_toArray, List.set_cons_zero, List.set_cons_succ]
        refine held_v 2 (some 6) rfl (by kernel_rfl) (by kernel_rfl) (by kernel_rfl) (by kernel_rfl) (fun c a v w h => HQ2.out c a _ v w h) (by kernel_rfl) (.int .i64 0) (fun W h => by kernel_rfl) hH ?_
        try simp only [Act.put, List.setIfInBounds_toArray, List.set_cons_zero, List.set_cons_succ]
        refine wpAnyH_ready (rs := [3]) (by kernel_rfl) (by decide) ?_
        refine AllReadyH.cons rfl (fun K hK => ?_) AllReadyH.nil
        refine step_store none (by kernel_rfl) (by kernel_rfl) 28 (.tmp 7) (.tmp 37) rfl g7 (by kernel_rfl) 28 Z V2 HZ7.1 (by kernel_rfl) ZV2.out SV2.out OV2.out ?_
        intro w141 hkw141 hsw141 hbw141 how141
        have ex142 : Fx [.blk g7 28 V2] w141 := ⟨hkw141.out, trivial⟩
        refine hK.out _ _ (hH.store HZ7.1 hH.store7 hsw141.out hbw141 how141) (fun hw141 => ?_)
        clear hK K
        try simp only [Act.put, List.setIfInBounds_toArray, List.set_cons_zero, List.set_cons_succ]
        refine held_v 4 (some 8) rfl (by kernel_rfl) (by kernel_rfl) (by kernel_rfl) (by kernel_rfl) (fun c a v w h => HQ2.out c a _ v w h) (by kernel_rfl) (.int .i64 E) (fun W h => by kernel_rfl) hw141 ?_
        try simp only [Act.put, List.setIfInBounds_toArray, List.set_cons_zero, List.set_cons_succ]
        refine wpAnyH_done (by kernel_rfl) ?_ _
        refine HQ1.out _ _ ?_
        clear HQ1 HQ2
        go_wp2_with (refine bodyPost_mid 6 7 8 28 rfl g7 rfl (.int .i64 0) (.int .i64 E) rfl rfl 28 V2 ex142.1 _ Tryz.underlying28 rfl SV2.out rfl ?_)
        exact HH2.out _ hw141.rd.rd hw141.bel
  · rw [led_big s a hs]
    rw [(sumV_no hs).1, (sumV_no hs).2] at hto
    have HTO := Lib.hid hto
    have HEND0 : Hid (∀ w', RdP A0 s.tape.length s.tape w' → Below w.heap.size w w' → RetLead w s A0 (0, s, 11) (.returned (.tuple #[.int .i64 0, .agg (srcV s A0 c0), .int .i64 11])) w') := Lib.hid (fun w' hr hb => ⟨A0, c0, rfl, hr, hc, hcm, .inl rfl, hb⟩)
    obtain ⟨rr, hrr⟩ : ∃ r : Int × Src × Int, (0, s, 11) = r := ⟨_, rfl⟩
    rw [hrr] at HEND0 ⊢
    obtain ⟨V, hV⟩ : ∃ V, srcV s A0 c0 = V := ⟨_, rfl⟩
    rw [hV] at SV OV ZV HEND0 ⊢
    obtain ⟨zs, hzs⟩ : ∃ zs, s.tape = zs := ⟨_, rfl⟩
    obtain ⟨L, hL⟩ : ∃ L, zs.length = L := ⟨_, rfl⟩
    rw [hzs, hL] at HEND0
    rw [hzs, hL] at hRd
    have HEND := HEND0
    clear HEND0 hrr hV hzs hL hto hz hz0 hs0 hrd hrl hc hcm hZ hn a0 a1 hs HZSS
    go_enter Tryz.func36, Tryz.ntmps36
    go_wp2_with (first
      | (with_reducible refine at_any ?_; refine at_dst 4 rfl ?_; refine wpList_box_any rfl 28 (.tmp 1) rfl V rfl ?_; intro w1 hk1 hs1 hb1)
      | (with_reducible refine at_any ?_; refine at_dst 7 rfl ?_; refine wpList_alloc_any rfl 28 rfl Z HZ0.out ?_; intro w2 hk2 hs2 hb2; have HS := DrS.mk2 hRd.out hk1.out hb1 hk2.out hb2 (Below.refl _ _); have HZ := fx1 hk2.out; have HR2 := Lib.hid (HRL (hb1.trans (hb2.mono hb1.size))); clear hs1 hb1 hs2 hb2)
      | (go_at_call 28; (with_reducible refine (HTO.out _ HR2.out).mono ?_); rintro e _ ⟨rfl, rfl⟩))
    obtain ⟨g3, hg3⟩ : ∃ g, w.heap.size = g := ⟨_, rfl⟩
    obtain ⟨g7, hg7⟩ : ∃ g, w1.heap.size = g := ⟨_, rfl⟩
    rw [hg3, hg7] at HS
    rw [hg7] at HZ
    rw [hg3, hg7]
    clear hg3 hg7 hk1 hk2
    have HZ7 := HZ.drew
    refine wp_region_held_drew (S := (DrS w g3 g7 V A0 L zs)) (by kernel_rfl) HS.drew (fun hH => ?_)
    refine wpAnyH_letter #[false, false, false, false] (by kernel_rfl) (fun _ _ d _ _ h => by cases d <;> exact h) (fun QL HQ1 HQ2 => ?_)
    refine held_row 0 (some 23) rfl (by kernel_rfl) (by kernel_rfl) (by kernel_rfl) (by kernel_rfl) (fun c a v w h => HQ2.out c a _ v w h) (by kernel_rfl) 28 (.tmp 4) rfl g3 (by kernel_rfl) 28 V (fun _ h => h.blk) _ Tryz.underlying28 rfl SV.out hH ?_
    try simp only [Act.put, List.setIfInBounds_toArray, List.set_cons_zero, List.set_cons_succ]
    refine held_v 1 (some 6) rfl (by kernel_rfl) (by kernel_rfl) (by kernel_rfl) (by kernel_rfl) (fun c a v w h => HQ2.out c a _ v w h) (by kernel_rfl) (.int .i64 0) (fun W h => by kernel_rfl) hH ?_
    try simp only [Act.put, List.setIfInBounds_toArray, List.set_cons_zero, List.set_cons_succ]
    refine wpAnyH_ready (rs := [2]) (by kernel_rfl) (by decide) ?_
    refine AllReadyH.cons rfl (fun K hK => ?_) AllReadyH.nil
    refine step_store none (by kernel_rfl) (by kernel_rfl) 28 (.tmp 7) (.tmp 23) rfl g7 (by kernel_rfl) 28 Z V HZ7.1 (by kernel_rfl) ZV.out SV.out OV.out ?_
    intro w41 hkw41 hsw41 hbw41 how41
    have ex42 : Fx [.blk g7 28 V] w41 := ⟨hkw41.out, trivial⟩
    refine hK.out _ _ (hH.store HZ7.1 hH.store7 hsw41.out hbw41 how41) (fun hw41 => ?_)
    clear hK K
    try simp only [Act.put, List.setIfInBounds_toArray, List.set_cons_zero, List.set_cons_succ]
    refine held_v 3 (some 8) rfl (by kernel_rfl) (by kernel_rfl) (by kernel_rfl) (by kernel_rfl) (fun c a v w h => HQ2.out c a _ v w h) (by kernel_rfl) (.int .i64 11) (fun W h => by kernel_rfl) hw41 ?_
    try simp only [Act.put, List.setIfInBounds_toArray, List.set_cons_zero, List.set_cons_succ]
    refine wpAnyH_done (by kernel_rfl) ?_ _
    refine HQ1.out _ _ ?_
    clear HQ1 HQ2
    go_wp2_with (refine bodyPost_mid 6 7 8 28 rfl g7 rfl (.int .i64 0) (.int .i64 11) rfl rfl 28 V ex42.1 _ Tryz.underlying28 rfl SV.out rfl ?_)
    exact HEND.out _ hw41.rd hw41.bel
end
section
open Go.ChangeShapes Go.WideShapes Go.ChangeAt Go.RowKit
theorem r12total_c (l : List Int) (hz : ∀ z ∈ l, 0 ≤ z ∧ z < 18446744073709551616) (A : Option Addr) (n c : Nat) (hn : n ≤ maxLen) (w : World) (hrd : Rd .u64 w w.heap.size A n l) : Calls Tryz.prog 27 #[.slice A n c] w fun e w' => e = .returned (.tuple #[.int .u64 (sumV l), .int .i64 (totE l)]) ∧ w = w' := by
  have HR := Lib.hid hrd
  have hto := fun W h => r9total_c l hz A n c hn W h
  by_cases hs : sumL l < 9223372036854775808
  · have e := tot_ok hs
    rw [(sumV_ok hs).2] at hto
    rw [e.1]
    obtain ⟨x, hx⟩ : ∃ x, sumV l = x := ⟨_, rfl⟩
    rw [hx] at hto ⊢
    have HTO := Lib.hid hto
    clear hrd hz hto hs e hx hn
    go_enter Tryz.func27, Tryz.ntmps27
    go_wp2_with (go_at_call 28; (with_reducible refine (HTO.out _ HR.out).mono ?_); rintro e _ ⟨rfl, rfl⟩)
    go_ret2
    exact ⟨rfl, rfl⟩
  · have e := tot_no hs
    rw [(sumV_no hs).1, (sumV_no hs).2] at hto
    rw [e.1, e.2]
    have HTO := Lib.hid hto
    clear hrd hz hto hs e hn
    go_enter Tryz.func27, Tryz.ntmps27
    go_wp2_with (go_at_call 28; (with_reducible refine (HTO.out _ HR.out).mono ?_); rintro e _ ⟨rfl, rfl⟩)
    go_ret2
    exact ⟨rfl, rfl⟩
theorem r12pos_c (l : List Int) (hz : ∀ z ∈ l, 0 ≤ z ∧ z < 18446744073709551616) (A : Option Addr) (n c : Nat) (hn : n ≤ maxLen) (w : World) (hrd : Rd .u64 w w.heap.size A n l) : Calls Tryz.prog 35 #[.slice A n c] w fun e w' => e = .returned (.int .i64 (posL l : Nat)) ∧ w = w' := by
  have HR := Lib.hid hrd
  have hlen := hrd.len
  have hnm : (n : Int) ≤ 9223372036854775807 := by unfold maxLen at hn; omega
  have HZ : Hid (∀ k, k < n → 0 ≤ l.getD k 0 ∧ l.getD k 0 < 18446744073709551616) := Lib.hid (fun k h => hz _ (getD_in (l := l) (k := k) (by omega)))
  have HTK := Lib.hid (fun k (h : k < n) => posL_take (l := l) (k := k) (by omega))
  have HAL : Hid (l.take n = l) := Lib.hid (List.take_of_length_le (by omega))
  have HLE : Hid (∀ k, k ≤ n → posL (l.take k) ≤ k) := Lib.hid (fun k h => by have := posL_le (l.take k); rw [List.length_take] at this; omega)
  clear hrd hz hn hlen
  go_enter Tryz.func35, Tryz.ntmps35
  go_wp2
  go_loopw [3, 4] (fun pp ii wr => ∃ k : Nat, k ≤ n ∧ ii = .int .i64 (k : Int) ∧ pp = .int .i64 (posL (l.take k) : Nat) ∧ w = wr) (fun _ ii _ => n - (intOf ii).toNat)
  case atStart => exact ⟨0, by omega, rfl, rfl, by first | rfl | trivial⟩
  case round =>
    obtain ⟨k, hk, rfl, rfl, rfl⟩ := hrel
    by_cases hlt : k < n
    · obtain ⟨g, off, rfl, -, hc⟩ := HR.out.at_ (by omega)
      have hck := hc k hlt
      have hzk := HZ.out k hlt
      have htk := HTK.out k hlt
      have hle := HLE.out k hk
      have hlt2 : (k : Int) < (n : Int) := by omega
      obtain ⟨z, hzz⟩ : ∃ z, l.getD k 0 = z := ⟨_, rfl⟩
      rw [hzz] at hck hzk htk
      obtain ⟨p, hp⟩ : ∃ p, posL (l.take k) = p := ⟨_, rfl⟩
      rw [hp] at htk hle ⊢
      obtain ⟨z0, z1⟩ := hzk
      have hpk : (p : Int) ≤ (k : Int) := by omega
      by_cases hpos : 0 < z
      · rw [if_pos hpos] at htk
        have HNP := Lib.hid htk
        clear hc hzz hp htk hle
        go_wp2
        go_roundw
        case rel => exact ⟨k + 1, by omega, by go_num, by rw [HNP.out]; go_num, by first | rfl | trivial⟩
        case measure => simp [intOf]; omega
      · rw [if_neg hpos] at htk
        have HNP := Lib.hid htk
        clear hc hzz hp htk hle
        go_wp2
        go_roundw
        case rel => exact ⟨k + 1, by omega, by go_num, by rw [HNP.out]; rfl, by first | rfl | trivial⟩
        case measure => simp [intOf]; omega
    · obtain rfl : k = n := by omega
      rw [HAL.out]
      go_wp2
      go_ret
      exact ⟨rfl, by first | rfl | trivial⟩
end
section
open Go.ChangeShapes Go.WideShapes Go.ChangeAt Go.RowKit
theorem ledR_src (l : List Int) (s : Src) (a : Int) (ok : s.Ok) : (ledR l s a).2.1.Ok ∧ (ledR l s a).2.1.tape = s.tape := by
  unfold ledR
  split
  · exact ledT_in l s a ok
  · exact ⟨ok, rfl⟩
theorem set_in {l : List Int} (h : ∀ z ∈ l, 0 ≤ z ∧ z < 18446744073709551616) (k : Nat) : ∀ z ∈ l.set k 0, 0 ≤ z ∧ z < 18446744073709551616 := fun z hz => by
  rcases List.mem_or_eq_of_mem_set hz with hz | hz
  · exact h z hz
  · rw [hz]; exact ⟨Int.le_refl _, by omega⟩
theorem com_same {Vj V2 Z : Array Value} (h1 : Z.size = Vj.size) (h2 : Z.size = V2.size) : Vj.size = V2.size := h1.symm.trans h2
theorem com_row {w w3 w4 : World} {g3 g7 L n : Nat} {V : Array Value} {A : Option Addr} {zs l : List Int} {v : Value} (h : DrS w g3 g7 V A L zs w3) (hb : Below w3.heap.size w3 w4) (ho : OwnI w4 w3.heap.size 24 .u64 v l) (hn : l.length = n) (h0 : 0 < n) :
    ∃ gr cr, v = .slice (some ⟨gr, 0, none⟩) n cr ∧ Hid (OwnI w4 w.heap.size 24 .u64 (.slice (some ⟨gr, 0, none⟩) n cr) l) ∧ Hid (w.heap.size ≤ gr) ∧ Hid (Apt L A gr) := by
  obtain ⟨A', c, rfl, -, -⟩ := ho.form
  obtain ⟨g, cur, rfl, h3, -⟩ := ho.whole (by omega)
  rw [hn] at ho
  have hs := h.bel.size
  refine ⟨g, c, by rw [hn], Lib.hid ?_, Lib.hid (by omega), Lib.hid (Apt.of_lt h.rd.rd h3)⟩
  refine ⟨ho.1, ?_⟩
  rcases ho.2 with h1 | ⟨g', cap, cu, h1, h2, h4⟩
  · exact .inl h1
  · exact .inr ⟨g', cap, cu, h1, by omega, h4⟩
theorem com_lt {w0 w : World} {g3 g7 gr n cr L : Nat} {V Z : Array Value} {A : Option Addr} {zs l os : List Int} {ov : Value} (h : ComS w0 g3 g7 V Z A L zs gr n cr l ov os w) (hn : 0 < n) : gr < w.heap.size := by
  obtain ⟨cur, hk, -⟩ := h.row hn
  exact hk.out.lt
theorem com_sep {w0 w : World} {g3 g7 gr n cr L : Nat} {V Z : Array Value} {A0 A A2 : Option Addr} {zs l os : List Int} {ov : Value} (h1 : Sep w0 A0 A) (h2 : Sep w A A2) (h : ComS w0 g3 g7 V Z A L zs gr n cr l ov os w) : Sep w0 A0 A2 := Sep.trans h1 h2 h.reslt
theorem com_len {w0 w : World} {g3 g7 gr n cr L : Nat} {V Z : Array Value} {A : Option Addr} {zs l os : List Int} {ov : Value} {x : Int} {j : Nat} (h : ComS w0 g3 g7 V Z A L zs gr n cr l ov (os ++ [x]) w) (ho : os.length = j) : lenOf ov = j + 1 := by
  obtain ⟨AO, cO, rfl, -, -⟩ := h.out.form
  show (os ++ [x]).length = j + 1
  rw [List.length_append, ho]
  rfl
theorem wpList_bldI {ops : Array Oper} {rest : List Oper} {o : Oper} {a : Act} {w : World} {Q : Exit → Act → World → Prop} (hw : Region.wanted o (yielded ops a.tmps) = true) (p : Operand) (ho : o.op = .buildSlice 31 1 #[(0, p)]) (x : Int) (hp : a.eval p = .int .i64 x)
    (h : ∀ g w', Rd .i64 w' w'.heap.size (some ⟨g, 0, none⟩) 1 [x] → Below w.heap.size w w' → wpList Tryz.prog ops Q rest (a.put o.dst (.slice (some ⟨g, 0, none⟩) 1 1)) w') : wpList Tryz.prog ops Q (o :: rest) a w := by
  refine wpList_run_gd hw (.slice (some ⟨w.heap.size, 0, none⟩) 1 1) (w.alloc (.cells #[.int .i64 x] 3)) ?_ (h _ _ (rdi_one w _ x) ((Below.refl _ _).alloc (Nat.le_refl _) _))
  have hr1 : (Instr.buildSlice 31 1 #[(0, .int .i64 x)]).run Tryz.prog w = .ok (.slice (some ⟨w.heap.size, 0, none⟩) 1 1) (w.alloc (.cells #[.int .i64 x] 3)) := by go_simp
  unfold execOp
  simp only [ho, List.map_toArray, List.map_cons, List.map_nil, hp]
  change ((Instr.buildSlice 31 1 #[(0, .int .i64 x)]) >>= fun v => pure (Next.value v)).run Tryz.prog w = _
  simp only [Sem.run_bind, hr1, Result.andThen_ok, Sem.run_pure]
def MemR (w w' : World) (os : List Int) (AM : Option Addr) (k cM : Nat) : Prop := os.length = k ∧ Rd .i64 w' w'.heap.size AM k os ∧ k ≤ cM ∧ cM ≤ maxLen ∧ Frs w AM
theorem com_nil (w w' : World) : MemR w w' [] none 0 0 := ⟨rfl, rd_nil _ _ _ _, Nat.le_refl _, by simp [maxLen], Frs.none w⟩
theorem com_ret {w w' : World} {s t : Src} {A0 A2 AM : Option Addr} {L c2 k cM : Nat} {V2 : Array Value} {zs os : List Int} {E : Int} {rr : List Int × Src × Int} (h0 : rr = (os, t, E)) (hV : srcV t A2 c2 = V2) (hsp : Sep w A0 A2) (hc : L ≤ c2) (hcm : c2 ≤ maxLen) (hr : Rd .u8 w' w'.heap.size A2 L zs) (hb : Below w.heap.size w w') (hm : MemR w w' os AM k cM) (hz : s.tape = zs) (hl : zs.length = L) :
    RetComm w s A0 rr (.returned (.tuple #[.slice AM k cM, .agg V2, .int .i64 E])) w' := by
  obtain ⟨m1, m2, m3, m4, m5⟩ := hm
  subst h0 m1 hV
  refine ⟨A2, c2, AM, cM, rfl, m2, m3, m4, m5, ?_, ?_, hcm, hsp, hb⟩
  · rw [hz, hl]; exact hr
  · rw [hz, hl]; exact hc
set_option maxHeartbeats 16000000 in
theorem r17draw_c (l : List Int) (hz : ∀ z ∈ l, 0 ≤ z ∧ z < 18446744073709551616) (Ci : Int) (C0 : -9223372036854775808 ≤ Ci) (C1 : Ci < 9223372036854775808) (s : Src) (ok : s.Ok) (a : Int) (a0 : -9223372036854775808 ≤ a) (a1 : a < 9223372036854775808) (AL : Option Addr) (n c : Nat) (hn : n ≤ 1000000) (A0 : Option Addr) (c0 : Nat) (hc : s.tape.length ≤ c0) (hcm : c0 ≤ maxLen) (w : World) (hrl : Rd .u64 w w.heap.size AL n l) (hrd : Rd .u8 w w.heap.size A0 s.tape.length s.tape) :
    Calls Tryz.prog 16 #[.slice AL n c, .int .i64 Ci, .agg (srcV s A0 c0), .int .i64 a] w (RetComm w s A0 (comR l Ci s a)) := by
  have HZ0 := Lib.hid zero_src
  have HRL := Lib.hid hrl
  have hlen := hrl.len
  have HLN := Lib.hid hlen
  have HN8 : Hid (n ≤ 100000000) := Lib.hid (by omega)
  have HNM : Hid (n ≤ maxLen) := Lib.hid (by unfold maxLen; omega)
  have HZSS := Lib.hid (fun (t : Src) (h : t.seed.length = 32) A c => srcV_same Src.zero t rfl h none A 0 c)
  obtain ⟨Z, hZ⟩ : ∃ Z, srcV Src.zero none 0 = Z := ⟨_, rfl⟩
  rw [hZ] at HZ0 HZSS
  have SV := Lib.hid (sizedS s ok.sl A0 c0)
  have OV := Lib.hid (srcV_ones s A0 c0)
  have ZV := Lib.hid (HZSS.out s ok.sl A0 c0)
  have hrt := fun W => rsright_c s ok A0 c0 W
  have HPO := Lib.hid (fun W h => r12pos_c l hz AL n c HNM.out W h)
  have HRET : Hid (∀ E (w' : World), RdP A0 s.tape.length s.tape w' → Below w.heap.size w w' → RetComm w s A0 ([], s, E) (.returned (.tuple #[.slice none 0 0, .agg (srcV s A0 c0), .int .i64 E])) w') := Lib.hid (fun E w' h1 h2 => ⟨A0, c0, none, 0, rfl, rd_nil _ _ _ _, Nat.le_refl _, by simp [maxLen], Frs.none w, h1, hc, hcm, .inl rfl, h2⟩)
  have HZL := Lib.hid hz
  have OK := Lib.hid ok
  have hcb := hc
  have HCM := Lib.hid hcm
  obtain ⟨V, hV⟩ : ∃ V, srcV s A0 c0 = V := ⟨_, rfl⟩
  have HV := Lib.hid hV
  rw [hV] at SV OV ZV HRET hrt ⊢
  obtain ⟨zs, hzs⟩ : ∃ zs, s.tape = zs := ⟨_, rfl⟩
  obtain ⟨L, hL⟩ : ∃ L, zs.length = L := ⟨_, rfl⟩
  have HZS := Lib.hid hzs
  have HLZ := Lib.hid hL
  rw [hzs, hL] at HRET hrd hcb
  have HCB := Lib.hid hcb
  have hRd := Lib.hid hrd
  clear hz hZ ok hc hcm hcb hV hrl hrd hzs hL hlen
  by_cases hb : comB Ci s a = true
  · have hb2 := hb
    unfold comB at hb2
    rw [Bool.and_eq_true] at hb2
    obtain ⟨hr, hb3⟩ := hb2
    obtain ⟨b1, b2, b3, b4⟩ := of_decide_eq_true hb3
    rw [hr] at hrt
    have HRT := Lib.hid hrt
    obtain ⟨C, rfl⟩ := Int.eq_ofNat_of_zero_le b1
    have b5 : (C : Int) ≤ 256 := b2
    have b6 : ¬ (C : Int) < 0 := by omega
    have dA : decide ((C : Int) < 0) = false := decide_eq_false b6
    have dB : decide (256 < (C : Int)) = false := decide_eq_false (by omega)
    have dC : decide (a < 1) = false := decide_eq_false (by omega)
    have dD : decide (64 < a) = false := decide_eq_false (by omega)
    have hR : comR l (C : Int) s a = if (posL l : Int) < (C : Int) then ([], s, 12) else comGo a C l s := by
      unfold comR
      rw [if_pos hb, Int.toNat_natCast]
    rw [hR]
    clear hb hb3 hr hrt hR C0 C1
    by_cases hlow : (posL l : Int) < (C : Int)
    · rw [if_pos hlow]
      have HLOW := Lib.hid (fun w' h1 h2 => HRET.out 12 w' h1 h2)
      go_enter Tryz.func16, Tryz.ntmps16
      go_wp2_with (first
        | (with_reducible refine at_any ?_; refine at_dst 6 rfl ?_; refine wpList_box_any rfl 28 (.tmp 2) rfl V rfl ?_; intro w1 hk1 hs1 hb1)
        | (with_reducible refine at_any ?_; refine at_dst 9 rfl ?_; refine wpList_alloc_any rfl 28 rfl Z HZ0.out ?_; intro w2 hk2 hs2 hb2; have HS2 := Lib.hid (DrS.mk2 hRd.out hk1.out hb1 hk2.out hb2 (Below.refl _ _)); have HZ2 := Lib.hid (fx1 hk2.out); clear hs1 hb1 hs2 hb2)
        | (with_reducible refine at_any ?_; refine at_dst 23 rfl ?_; refine wpList_load_gdb (by kernel_rfl) 28 (.tmp 6) rfl w.heap.size rfl 28 V HS2.out.blk _ Tryz.underlying28 rfl SV.out ?_)
        | (go_at_call 34; (with_reducible refine (HRT.out _).mono ?_); rintro e w3 ⟨rfl, hb3⟩; have HS3 := Lib.hid (DrS.below HS2.out hb3); have HZ3 := Lib.hid (Fx.below HZ2.out hb3); clear hb3)
        | (go_at_call 35; (with_reducible refine (HPO.out _ (HR1 HRL.out HS3.out.bel)).mono ?_); rintro e _ ⟨rfl, rfl⟩))
      obtain ⟨g3, hg3⟩ : ∃ g, w.heap.size = g := ⟨_, rfl⟩
      obtain ⟨g7, hg7⟩ : ∃ g, w1.heap.size = g := ⟨_, rfl⟩
      have HS9 := HS3.out
      have HZ9 := HZ3.out
      rw [hg3, hg7] at HS9
      rw [hg7] at HZ9
      rw [hg3, hg7]
      clear hg3 hg7 hk1 hk2
      have HZ7 := HZ9.drew
      refine wp_region_held_drew (S := (DrS w g3 g7 V A0 L zs)) (by kernel_rfl) HS9.drew (fun hH => ?_)
      refine wpAnyH_letter #[false, false, false, false] (by kernel_rfl) (fun _ _ d _ _ h => by cases d <;> exact h) (fun QL HQ1 HQ2 => ?_)
      refine held_row 0 (some 40) rfl (by kernel_rfl) (by kernel_rfl) (by kernel_rfl) (by kernel_rfl) (fun c a v w h => HQ2.out c a _ v w h) (by kernel_rfl) 28 (.tmp 6) rfl g3 (by kernel_rfl) 28 V (fun _ h => h.blk) _ Tryz.underlying28 rfl SV.out hH ?_
      try simp only [Act.put, List.setIfInBounds_toArray, List.set_cons_zero, List.set_cons_succ]
      refine held_v 1 (some 8) rfl (by kernel_rfl) (by kernel_rfl) (by kernel_rfl) (by kernel_rfl) (fun c a v w h => HQ2.out c a _ v w h) (by kernel_rfl) (.slice none 0 0) (fun W h => by kernel_rfl) hH ?_
      try simp only [Act.put, List.setIfInBounds_toArray, List.set_cons_zero, List.set_cons_succ]
      refine wpAnyH_ready (rs := [2]) (by kernel_rfl) (by decide) ?_
      refine AllReadyH.cons rfl (fun K hK => ?_) AllReadyH.nil
      refine step_store none (by kernel_rfl) (by kernel_rfl) 28 (.tmp 9) (.tmp 40) rfl g7 (by kernel_rfl) 28 Z V HZ7.1 (by kernel_rfl) ZV.out SV.out OV.out ?_
      intro w41 hkw41 hsw41 hbw41 how41
      have ex42 : Fx [.blk g7 28 V] w41 := ⟨hkw41.out, trivial⟩
      refine hK.out _ _ (hH.store HZ7.1 hH.store7 hsw41.out hbw41 how41) (fun hw41 => ?_)
      clear hK K
      try simp only [Act.put, List.setIfInBounds_toArray, List.set_cons_zero, List.set_cons_succ]
      refine held_v 3 (some 10) rfl (by kernel_rfl) (by kernel_rfl) (by kernel_rfl) (by kernel_rfl) (fun c a v w h => HQ2.out c a _ v w h) (by kernel_rfl) (.int .i64 12) (fun W h => by kernel_rfl) hw41 ?_
      try simp only [Act.put, List.setIfInBounds_toArray, List.set_cons_zero, List.set_cons_succ]
      refine wpAnyH_done (by kernel_rfl) ?_ _
      refine HQ1.out _ _ ?_
      clear HQ1 HQ2
      go_wp2_with (refine bodyPost_mid 8 9 10 28 rfl g7 rfl (.slice none 0 0) (.int .i64 12) rfl rfl 28 V ex42.1 _ Tryz.underlying28 rfl SV.out rfl ?_)
      exact HLOW.out _ hw41.rd hw41.bel
    · rw [if_neg hlow]
      have hlow2 : (C : Int) ≤ (posL l : Int) := by omega
      by_cases h0 : n = 0
      · subst h0
        obtain rfl : l = [] := List.length_eq_zero_iff.1 HLN.out
        obtain rfl : C = 0 := by have : (C : Int) ≤ ((0 : Nat) : Int) := hlow2; omega
        have HNON := Lib.hid (fun w' h1 h2 => HRET.out 0 w' h1 h2)
        rw [comGo_zero]
        go_enter Tryz.func16, Tryz.ntmps16
        go_wp2_with (first
          | (with_reducible refine at_any ?_; refine at_dst 6 rfl ?_; refine wpList_box_any rfl 28 (.tmp 2) rfl V rfl ?_; intro w1 hk1 hs1 hb1)
          | (with_reducible refine at_any ?_; refine at_dst 9 rfl ?_; refine wpList_alloc_any rfl 28 rfl Z HZ0.out ?_; intro w2 hk2 hs2 hb2; have HS2 := Lib.hid (DrS.mk2 hRd.out hk1.out hb1 hk2.out hb2 (Below.refl _ _)); have HZ2 := Lib.hid (fx1 hk2.out); clear hs1 hb1 hs2 hb2)
          | (with_reducible refine at_any ?_; refine at_dst 23 rfl ?_; refine wpList_load_gdb (by kernel_rfl) 28 (.tmp 6) rfl w.heap.size rfl 28 V HS2.out.blk _ Tryz.underlying28 rfl SV.out ?_)
          | (go_at_call 34; (with_reducible refine (HRT.out _).mono ?_); rintro e w3 ⟨rfl, hb3⟩; have HS3 := Lib.hid (DrS.below HS2.out hb3); have HZ3 := Lib.hid (Fx.below HZ2.out hb3); clear hb3)
          | (go_at_call 35; (with_reducible refine (HPO.out _ (HR1 HRL.out HS3.out.bel)).mono ?_); rintro e _ ⟨rfl, rfl⟩)
          | (with_reducible refine at_any ?_; refine at_dst 43 rfl ?_; refine wpList_own_copy8o w3 rfl (.tmp 41) (.tmp 42) rfl rfl AL 0 c [] rfl (HR1 HRL.out HS3.out.bel) HN8.out ?_; intro v11 w4 hb4 ho4; have HS4 := Lib.hid (DrS.below HS3.out hb4); have HZ4 := Lib.hid (Fx.below HZ3.out hb4); clear hb4 ho4))
        obtain ⟨g3, hg3⟩ : ∃ g, w.heap.size = g := ⟨_, rfl⟩
        obtain ⟨g7, hg7⟩ : ∃ g, w1.heap.size = g := ⟨_, rfl⟩
        have HS9 := HS4.out
        have HZ9 := HZ4.out
        rw [hg3, hg7] at HS9
        rw [hg7] at HZ9
        rw [hg3, hg7]
        clear hg3 hg7 hk1 hk2
        go_loopw [12] (fun oo wr => oo = .slice none 0 0 ∧ w4 = wr) (fun _ _ => 0)
        case atStart => exact ⟨rfl, by first | rfl | trivial⟩
        case round =>
          obtain ⟨rfl, rfl⟩ := hrel
          go_wp2
          have HZ7 := HZ9.drew
          refine wp_region_held_drew (S := (DrS w g3 g7 V A0 L zs)) (by kernel_rfl) HS9.drew (fun hH => ?_)
          refine wpAnyH_letter #[false, false, false, false, false] (by kernel_rfl) (fun _ _ d _ _ h => by cases d <;> exact h) (fun QL HQ1 HQ2 => ?_)
          refine held_v 0 (some 68) rfl (by kernel_rfl) (by kernel_rfl) (by kernel_rfl) (by kernel_rfl) (fun c a v w h => HQ2.out c a _ v w h) (by kernel_rfl) (.slice none 0 0) (fun W h => by kernel_rfl) hH ?_
          try simp only [Act.put, List.setIfInBounds_toArray, List.set_cons_zero, List.set_cons_succ]
          refine held_row 1 (some 69) rfl (by kernel_rfl) (by kernel_rfl) (by kernel_rfl) (by kernel_rfl) (fun c a v w h => HQ2.out c a _ v w h) (by kernel_rfl) 28 (.tmp 6) rfl g3 (by kernel_rfl) 28 V (fun _ h => h.blk) _ Tryz.underlying28 rfl SV.out hH ?_
          try simp only [Act.put, List.setIfInBounds_toArray, List.set_cons_zero, List.set_cons_succ]
          refine held_v 2 (some 8) rfl (by kernel_rfl) (by kernel_rfl) (by kernel_rfl) (by kernel_rfl) (fun c a v w h => HQ2.out c a _ v w h) (by kernel_rfl) (.slice none 0 0) (fun W h => by kernel_rfl) hH ?_
          try simp only [Act.put, List.setIfInBounds_toArray, List.set_cons_zero, List.set_cons_succ]
          refine wpAnyH_ready (rs := [3]) (by kernel_rfl) (by decide) ?_
          refine AllReadyH.cons rfl (fun K hK => ?_) AllReadyH.nil
          refine step_store none (by kernel_rfl) (by kernel_rfl) 28 (.tmp 9) (.tmp 69) rfl g7 (by kernel_rfl) 28 Z V HZ7.1 (by kernel_rfl) ZV.out SV.out OV.out ?_
          intro w41 hkw41 hsw41 hbw41 how41
          have ex42 : Fx [.blk g7 28 V] w41 := ⟨hkw41.out, trivial⟩
          refine hK.out _ _ (hH.store HZ7.1 hH.store7 hsw41.out hbw41 how41) (fun hw41 => ?_)
          clear hK K
          try simp only [Act.put, List.setIfInBounds_toArray, List.set_cons_zero, List.set_cons_succ]
          refine held_v 4 (some 10) rfl (by kernel_rfl) (by kernel_rfl) (by kernel_rfl) (by kernel_rfl) (fun c a v w h => HQ2.out c a _ v w h) (by kernel_rfl) (.int .i64 0) (fun W h => by kernel_rfl) hw41 ?_
          try simp only [Act.put, List.setIfInBounds_toArray, List.set_cons_zero, List.set_cons_succ]
          refine wpAnyH_done (by kernel_rfl) ?_ _
          refine HQ1.out _ _ ?_
          clear HQ1 HQ2
          go_wp2_with (refine bodyPost_mid 8 9 10 28 rfl g7 rfl (.slice none 0 0) (.int .i64 0) rfl rfl 28 V ex42.1 _ Tryz.underlying28 rfl SV.out rfl ?_)
          exact HNON.out _ hw41.rd hw41.bel
      · have HPOS : Hid (0 < n) := Lib.hid (by omega)
        have HCC : Hid (C ≤ 256) := Lib.hid (by omega)
        obtain ⟨ii, hii, hiz0, hiz1, hizb⟩ := info_parts info_intd
        obtain ⟨rr, hrr⟩ : ∃ r, comGo a C l s = r := ⟨_, rfl⟩
        have HACC : Hid (rr = comAcc [] (comGo a (C - 0) l s)) := Lib.hid (by rw [Nat.sub_zero, comAcc_nil, hrr])
        rw [hrr]
        clear hrr h0 hn HRET
        go_enter Tryz.func16, Tryz.ntmps16
        go_wp2_with (first
          | (with_reducible refine at_any ?_; refine at_dst 6 rfl ?_; refine wpList_box_any rfl 28 (.tmp 2) rfl V rfl ?_; intro w1 hk1 hs1 hb1)
          | (with_reducible refine at_any ?_; refine at_dst 9 rfl ?_; refine wpList_alloc_any rfl 28 rfl Z HZ0.out ?_; intro w2 hk2 hs2 hb2; have HS2 := Lib.hid (DrS.mk2 hRd.out hk1.out hb1 hk2.out hb2 (Below.refl _ _)); have HZ2 := Lib.hid (fx1 hk2.out); clear hs1 hb1 hs2 hb2)
          | (with_reducible refine at_any ?_; refine at_dst 23 rfl ?_; refine wpList_load_gdb (by kernel_rfl) 28 (.tmp 6) rfl w.heap.size rfl 28 V HS2.out.blk _ Tryz.underlying28 rfl SV.out ?_)
          | (go_at_call 34; (with_reducible refine (HRT.out _).mono ?_); rintro e w3 ⟨rfl, hb3⟩; have HS3 := Lib.hid (DrS.below HS2.out hb3); have HZ3 := Lib.hid (Fx.below HZ2.out hb3); clear hb3)
          | (go_at_call 35; (with_reducible refine (HPO.out _ (HR1 HRL.out HS3.out.bel)).mono ?_); rintro e _ ⟨rfl, rfl⟩)
          | (with_reducible refine at_any ?_; refine at_dst 43 rfl ?_; refine wpList_own_copy8o w3 rfl (.tmp 41) (.tmp 42) rfl rfl AL n c l rfl (HR1 HRL.out HS3.out.bel) HN8.out ?_; intro v11 w4 hb4 ho4; obtain ⟨gr, cr, rfl, HO4, HGR4, HLR4⟩ := com_row HS3.out hb4 ho4 HLN.out HPOS.out; have HS4 := Lib.hid (DrS.below HS3.out hb4); have HZ4 := Lib.hid (Fx.below HZ3.out hb4); clear hb4 ho4))
        obtain ⟨g3, hg3⟩ : ∃ g, w.heap.size = g := ⟨_, rfl⟩
        obtain ⟨g7, hg7⟩ : ∃ g, w1.heap.size = g := ⟨_, rfl⟩
        have HS9 := HS4.out
        have HZ9 := HZ4.out
        rw [hg3, hg7] at HS9
        rw [hg7] at HZ9
        rw [hg3, hg7]
        clear hg3 hg7 hk1 hk2
        have HC4 : Hid (ComS w g3 g7 V Z A0 L zs gr n cr l (.slice none 0 0) [] w4) := Lib.hid ⟨HS9, HZ9.1, HO4.out, OwnI.empty _ _ _ _, HLN.out, HGR4.out, HLR4.out, fun g h => by cases h⟩
        clear HS4 HZ4 HS9 HZ9 HO4 HGR4 HLR4 HS3 HZ3 HS2 HZ2
        go_loopw [12] (fun oo wr => ∃ (j : Nat) (sj : Src) (Aj : Option Addr) (cj : Nat) (lj os : List Int), j ≤ C ∧ os.length = j ∧ ComS w g3 g7 (srcV sj Aj cj) Z Aj L zs gr n cr lj oo os wr ∧ sj.Ok ∧ sj.tape = zs ∧ L ≤ cj ∧ cj ≤ maxLen ∧ Sep w A0 Aj ∧ lj.length = n ∧ (∀ z ∈ lj, 0 ≤ z ∧ z < 18446744073709551616) ∧ rr = comAcc os (comGo a (C - j) lj sj)) (fun oo _ => C - lenOf oo)
        case atStart => exact ⟨0, s, A0, c0, l, [], Nat.zero_le _, rfl, by rw [HV.out]; exact HC4.out, OK.out, HZS.out, HCB.out, HCM.out, .inl rfl, HLN.out, HZL.out, HACC.out⟩
        case round =>
          clear HC4 HACC
          obtain ⟨j, sj, Aj, cj, lj, os, hj, hos, hC, okj, htj, hcj, hcmj, hsp, hlj, hzj, hacc⟩ := hrel
          obtain ⟨AO, cO, rfl, hO1, hO2⟩ := hC.out.form
          rw [hos] at hC hO1 ⊢
          obtain ⟨Vj, hVj⟩ : ∃ V, srcV sj Aj cj = V := ⟨_, rfl⟩
          have SVj := Lib.hid (sizedS sj okj.sl Aj cj)
          have OVj := Lib.hid (srcV_ones sj Aj cj)
          have ZVj := Lib.hid (HZSS.out sj okj.sl Aj cj)
          rw [hVj] at hC SVj OVj ZVj
          have HC := Lib.hid hC
          clear hC
          have hjI : (j : Int) ≤ (C : Int) := by omega
          by_cases hlt : j < C
          · have hltI : (j : Int) < (C : Int) := by omega
            have hdr := fun W h1 h2 => r13draw_c lj hzj sj okj a a0 a1 (some ⟨gr, 0, none⟩) n cr HNM.out Aj cj (by rw [htj, HLZ.out]; exact hcj) hcmj W h1 h2
            obtain ⟨okt, htt⟩ := ledR_src lj sj a okj
            have hin := ledR_ok (l := lj) (fun z h => (hzj z h).1) (s := sj) (a := a)
            have hno := comAcc_no (c := C - j - 1) (l := lj) (s := sj) (a := a) os
            have hon := comAcc_on (c := C - j - 1) (l := lj) (s := sj) (a := a) os
            rw [show C - j - 1 + 1 = C - j by omega, ← hacc] at hno hon
            unfold RetLead at hdr
            rw [hVj, htj, HLZ.out] at hdr
            rw [htj] at htt
            obtain ⟨lr, hlr⟩ : ∃ r, ledR lj sj a = r := ⟨_, rfl⟩
            rw [hlr] at hdr okt htt hin hno hon
            obtain ⟨x, t, E⟩ := lr
            simp only at hdr okt htt hin hno hon
            have HDR := Lib.hid hdr
            have ST := Lib.hid (fun A c => sizedS t okt.sl A c)
            have OT := Lib.hid (fun A c => srcV_ones t A c)
            have ZT := Lib.hid (fun A c => HZSS.out t okt.sl A c)
            have HSP := Lib.hid hsp
            have HLT := Lib.hid hlt
            have HGL := Lib.hid (com_lt HC.out HPOS.out)
            by_cases hE : E = 0
            · subst hE
              obtain ⟨k, hk, hxk, hkp, -⟩ := hin rfl
              subst hxk
              have hon2 := hon rfl
              rw [Int.toNat_natCast] at hon2
              have HON := Lib.hid hon2
              have hkI : (k : Int) < (n : Int) := by omega
              have hk0 : (0 : Int) ≤ (k : Int) := by omega
              have HKN : Hid (k < n) := Lib.hid (by omega)
              have HZJ := Lib.hid hzj
              have HOS := Lib.hid hos
              have HLJ := Lib.hid hlj
              have HOKT := Lib.hid okt
              have HTT := Lib.hid htt
              clear hon hon2 hno hin hdr hlr hacc hzj hlj okt htt hsp hos okj htj hcj hcmj hVj hk hkp hj
              go_wp2_with (first
                | (with_reducible refine at_any ?_; refine at_dst 50 rfl ?_; refine wpList_load_blk rfl 28 (.tmp 6) rfl g3 rfl 28 Vj HC.out.src.blk _ Tryz.underlying28 rfl SVj.out ?_)
                | (go_at_call 36; (with_reducible refine (HDR.out _ HC.out.rd HC.out.src.rd.rd).mono ?_); rintro e w5 ⟨A2, c2, rfl, hrd2, hc2, hm2, hsp2, hb5⟩; obtain ⟨V2, hV2⟩ : ∃ V2, srcV t A2 c2 = V2 := ⟨_, rfl⟩; have SV2 := Lib.hid (ST.out A2 c2); have OV2 := Lib.hid (OT.out A2 c2); have ZV2 := Lib.hid (ZT.out A2 c2); have HV2 := Lib.hid hV2; rw [hV2] at SV2 OV2 ZV2 ⊢; clear hV2)
                | (with_reducible refine at_any ?_; refine at_dst 14 rfl ?_; refine wpList_alloc_any rfl 28 rfl Z HZ0.out ?_; intro w6 hk6 hs6 hb6)
                | (with_reducible refine at_any ?_; refine at_store 14 rfl ?_; refine wpList_store_any rfl 28 (.tmp 14) (.tmp 54) rfl w5.heap.size rfl 28 Z V2 hk6.out rfl ZV2.out SV2.out OV2.out ?_; intro w7 hk7 hs7 hb7 ho7; have TT := Lib.hid (ComS.took HC.out HGL.out hrd2 hsp2 hb5 hb6 hk6.out hk7.out hs7.out hb7 ho7); have HS5 := Lib.hid (com_sep HSP.out hsp2 HC.out); have HC2 := Lib.hid hc2; have HM2 := Lib.hid hm2; clear hrd2 hsp2 hb5 hb6 hk6 hs6 hk7 hs7 hb7 ho7 hc2 hm2)
                | (with_reducible refine at_any ?_; refine at_dst 62 rfl ?_; refine wpList_load_blk rfl 28 (.tmp 14) rfl w5.heap.size rfl 28 V2 TT.out.2.hand.blk _ Tryz.underlying28 rfl SV2.out ?_)
                | (with_reducible refine at_any ?_; refine at_store 6 rfl ?_; refine wpList_store_any rfl 28 (.tmp 6) (.tmp 62) rfl g3 rfl 28 Vj V2 TT.out.1.src.blk rfl (com_same ZVj.out ZV2.out) SV2.out OV2.out ?_; intro w8 hk8 hs8 hb8 ho8; have HC8 := Lib.hid (ComS.put TT.out.1 TT.out.2 hk8.out hs8.out hb8 ho8); obtain ⟨cur, HKC, HSC⟩ := ComS.row HC8.out HPOS.out; clear hk8 hs8 hb8 ho8)
                | (with_reducible refine at_any ?_; refine at_store 63 rfl ?_; refine wpList_store_cell_any rfl 24 (.tmp 63) (.const (.int .u64 0)) rfl gr k rfl 24 cur HKC.out (.int .u64 0) rfl (HSC.out _ HKN.out) size_u64f rfl rfl ?_; intro w9 hk9 hs9 hb9 ho9; have HC9 := Lib.hid (ComS.setr HC8.out HKC.out HKN.out hk9.out hs9.out hb9 ho9); clear hk9 hs9 hb9 ho9)
                | (with_reducible refine at_any ?_; refine at_dst 66 rfl ?_; refine wpList_bldI (by kernel_rfl) (.tmp 65) rfl (k : Int) rfl ?_; intro b w10 hr10 hb10; have HC10 := Lib.hid (ComS.below HC9.out hb10); have HR10 := Lib.hid hr10; clear hr10 hb10)
                | (at_builtin; refine wpList_append_ints _ rfl (.tmp 64) (.tmp 66) 31 rfl w.heap.size 3 ii _ 8 .i64 Tryz.underlying31 hii hiz0 hiz1 hizb rfl _ os rfl HC10.out.out w10.heap.size (some ⟨b, 0, none⟩) 1 1 [(k : Int)] rfl HR10.out (by have h1 := HOS.out; have h2 := HLT.out; have h3 := HCC.out; simp only [maxLen]; omega) (by have h1 := HOS.out; have h2 := HLT.out; have h3 := HCC.out; omega) HC10.out.reslt ?_; intro v11 w11 ho11 hg11 hat11; have HC11 := Lib.hid (ComS.app HC10.out ho11 hg11 hat11); clear ho11 hg11 hat11))
              go_roundw
              case rel => exact ⟨j + 1, t, A2, c2, lj.set k 0, os ++ [(k : Int)], by have := HLT.out; omega, by rw [List.length_append, HOS.out]; rfl, by rw [HV2.out]; exact HC11.out, HOKT.out, HTT.out, HC2.out, HM2.out, HS5.out, by rw [List.length_set]; exact HLJ.out, set_in HZJ.out k, by rw [HON.out, Nat.sub_sub]⟩
              case measure => have h1 := HLT.out; have h2 := com_len HC11.out HOS.out; simp only [lenOf] at *; omega
            · have hno2 := hno hE
              have HNO := Lib.hid hno2
              have t2 : (E == 0) = false := by rw [beq_eq_false_iff_ne]; exact hE
              have t3 : (E != 0) = true := by rw [bne, t2]; rfl
              clear hon hno hno2 hin hdr hlr hacc hzj hlj okt htt hsp hos okj htj hcj hcmj hVj hj hE
              go_wp2_with (first
                | (with_reducible refine at_any ?_; refine at_dst 50 rfl ?_; refine wpList_load_blk rfl 28 (.tmp 6) rfl g3 rfl 28 Vj HC.out.src.blk _ Tryz.underlying28 rfl SVj.out ?_)
                | (go_at_call 36; (with_reducible refine (HDR.out _ HC.out.rd HC.out.src.rd.rd).mono ?_); rintro e w5 ⟨A2, c2, rfl, hrd2, hc2, hm2, hsp2, hb5⟩; obtain ⟨V2, hV2⟩ : ∃ V2, srcV t A2 c2 = V2 := ⟨_, rfl⟩; have SV2 := Lib.hid (ST.out A2 c2); have OV2 := Lib.hid (OT.out A2 c2); have ZV2 := Lib.hid (ZT.out A2 c2); have HV2 := Lib.hid hV2; rw [hV2] at SV2 OV2 ZV2 ⊢; clear hV2)
                | (with_reducible refine at_any ?_; refine at_dst 14 rfl ?_; refine wpList_alloc_any rfl 28 rfl Z HZ0.out ?_; intro w6 hk6 hs6 hb6)
                | (with_reducible refine at_any ?_; refine at_store 14 rfl ?_; refine wpList_store_any rfl 28 (.tmp 14) (.tmp 54) rfl w5.heap.size rfl 28 Z V2 hk6.out rfl ZV2.out SV2.out OV2.out ?_; intro w7 hk7 hs7 hb7 ho7; have TT := Lib.hid (ComS.took HC.out HGL.out hrd2 hsp2 hb5 hb6 hk6.out hk7.out hs7.out hb7 ho7); have HS5 := Lib.hid (com_sep HSP.out hsp2 HC.out); have HC2 := Lib.hid hc2; have HM2 := Lib.hid hm2; clear hrd2 hsp2 hb5 hb6 hk6 hs6 hk7 hs7 hb7 ho7 hc2 hm2))
              obtain ⟨g14, hg14⟩ : ∃ g, w5.heap.size = g := ⟨_, rfl⟩
              have HC9 := TT.out.1
              have HN9 := TT.out.2
              rw [hg14] at HN9
              rw [hg14]
              have HZ9 := HC9.fx
              have HD9 := HN9.hand
              clear hg14
              have HZ7 := HZ9.drew
              refine wp_region_held_drew (S := (DrH w g7 g14 V2 A2 L zs)) (by kernel_rfl) HD9.drew (fun hH => ?_)
              refine wpAnyH_letter #[false, false, false, false, false] (by kernel_rfl) (fun _ _ d _ _ h => by cases d <;> exact h) (fun QL HQ1 HQ2 => ?_)
              refine held_row 0 (some 58) rfl (by kernel_rfl) (by kernel_rfl) (by kernel_rfl) (by kernel_rfl) (fun c a v w h => HQ2.out c a _ v w h) (by kernel_rfl) 28 (.tmp 14) rfl g14 (by kernel_rfl) 28 V2 (fun _ h => h.blk) _ Tryz.underlying28 rfl SV2.out hH ?_
              try simp only [Act.put, List.setIfInBounds_toArray, List.set_cons_zero, List.set_cons_succ]
              refine held_v 1 (some 59) rfl (by kernel_rfl) (by kernel_rfl) (by kernel_rfl) (by kernel_rfl) (fun c a v w h => HQ2.out c a _ v w h) (by kernel_rfl) (.int .i64 E) (fun W h => by kernel_rfl) hH ?_
              try simp only [Act.put, List.setIfInBounds_toArray, List.set_cons_zero, List.set_cons_succ]
              refine held_v 2 (some 8) rfl (by kernel_rfl) (by kernel_rfl) (by kernel_rfl) (by kernel_rfl) (fun c a v w h => HQ2.out c a _ v w h) (by kernel_rfl) (.slice none 0 0) (fun W h => by kernel_rfl) hH ?_
              try simp only [Act.put, List.setIfInBounds_toArray, List.set_cons_zero, List.set_cons_succ]
              refine wpAnyH_ready (rs := [3]) (by kernel_rfl) (by decide) ?_
              refine AllReadyH.cons rfl (fun K hK => ?_) AllReadyH.nil
              refine step_store none (by kernel_rfl) (by kernel_rfl) 28 (.tmp 9) (.tmp 58) rfl g7 (by kernel_rfl) 28 Z V2 HZ7.1 (by kernel_rfl) ZV2.out SV2.out OV2.out ?_
              intro w141 hkw141 hsw141 hbw141 how141
              have ex142 : Fx [.blk g7 28 V2] w141 := ⟨hkw141.out, trivial⟩
              refine hK.out _ _ (hH.store HZ7.1 hH.store7 hsw141.out hbw141 how141) (fun hw141 => ?_)
              clear hK K
              try simp only [Act.put, List.setIfInBounds_toArray, List.set_cons_zero, List.set_cons_succ]
              refine held_v 4 (some 10) rfl (by kernel_rfl) (by kernel_rfl) (by kernel_rfl) (by kernel_rfl) (fun c a v w h => HQ2.out c a _ v w h) (by kernel_rfl) (.int .i64 E) (fun W h => by kernel_rfl) hw141 ?_
              try simp only [Act.put, List.setIfInBounds_toArray, List.set_cons_zero, List.set_cons_succ]
              refine wpAnyH_done (by kernel_rfl) ?_ _
              refine HQ1.out _ _ ?_
              clear HQ1 HQ2
              go_wp2_with (refine bodyPost_mid 8 9 10 28 rfl g7 rfl (.slice none 0 0) (.int .i64 E) rfl rfl 28 V2 ex142.1 _ Tryz.underlying28 rfl SV2.out rfl ?_)
              exact com_ret HNO.out HV2.out HS5.out HC2.out HM2.out hw141.rd.rd hw141.bel (com_nil _ _) HZS.out HLZ.out
          · obtain rfl : j = C := by omega
            have hend := hacc
            rw [Nat.sub_self, comAcc_end] at hend
            have HEND := Lib.hid hend
            have HSP := Lib.hid hsp
            have HCJ := Lib.hid hcj
            have HCMJ := Lib.hid hcmj
            have HVJ := Lib.hid hVj
            have HOS := Lib.hid hos
            have HO1 := Lib.hid hO1
            have HO2 := Lib.hid hO2
            have hF : FinS w g3 g7 Vj Aj L zs (.slice AO j cO) os wr := ⟨HC.out.src, HC.out.out⟩
            have HZ9 := HC.out.fx
            clear hend hacc hsp hcj hcmj hVj hos hO1 hO2 hzj hlj okj htj hj hlt
            go_wp2
            have HZ7 := HZ9.drew
            refine wp_region_held_drew (S := (FinS w g3 g7 Vj Aj L zs (.slice AO j cO) os)) (by kernel_rfl) hF.drew (fun hH => ?_)
            refine wpAnyH_letter #[false, false, false, false, false] (by kernel_rfl) (fun _ _ d _ _ h => by cases d <;> exact h) (fun QL HQ1 HQ2 => ?_)
            refine held_v 0 (some 68) rfl (by kernel_rfl) (by kernel_rfl) (by kernel_rfl) (by kernel_rfl) (fun c a v w h => HQ2.out c a _ v w h) (by kernel_rfl) (.slice AO j cO) (fun W h => by kernel_rfl) hH ?_
            try simp only [Act.put, List.setIfInBounds_toArray, List.set_cons_zero, List.set_cons_succ]
            refine held_row 1 (some 69) rfl (by kernel_rfl) (by kernel_rfl) (by kernel_rfl) (by kernel_rfl) (fun c a v w h => HQ2.out c a _ v w h) (by kernel_rfl) 28 (.tmp 6) rfl g3 (by kernel_rfl) 28 Vj (fun _ h => h.blk) _ Tryz.underlying28 rfl SVj.out hH ?_
            try simp only [Act.put, List.setIfInBounds_toArray, List.set_cons_zero, List.set_cons_succ]
            refine held_v 2 (some 8) rfl (by kernel_rfl) (by kernel_rfl) (by kernel_rfl) (by kernel_rfl) (fun c a v w h => HQ2.out c a _ v w h) (by kernel_rfl) (.slice AO j cO) (fun W h => by kernel_rfl) hH ?_
            try simp only [Act.put, List.setIfInBounds_toArray, List.set_cons_zero, List.set_cons_succ]
            refine wpAnyH_ready (rs := [3]) (by kernel_rfl) (by decide) ?_
            refine AllReadyH.cons rfl (fun K hK => ?_) AllReadyH.nil
            refine step_store none (by kernel_rfl) (by kernel_rfl) 28 (.tmp 9) (.tmp 69) rfl g7 (by kernel_rfl) 28 Z Vj HZ7.1 (by kernel_rfl) ZVj.out SVj.out OVj.out ?_
            intro w241 hkw241 hsw241 hbw241 how241
            have ex242 : Fx [.blk g7 28 Vj] w241 := ⟨hkw241.out, trivial⟩
            refine hK.out _ _ (hH.store HZ7.1 hH.store7 hsw241.out hbw241 how241) (fun hw241 => ?_)
            clear hK K
            try simp only [Act.put, List.setIfInBounds_toArray, List.set_cons_zero, List.set_cons_succ]
            refine held_v 4 (some 10) rfl (by kernel_rfl) (by kernel_rfl) (by kernel_rfl) (by kernel_rfl) (fun c a v w h => HQ2.out c a _ v w h) (by kernel_rfl) (.int .i64 0) (fun W h => by kernel_rfl) hw241 ?_
            try simp only [Act.put, List.setIfInBounds_toArray, List.set_cons_zero, List.set_cons_succ]
            refine wpAnyH_done (by kernel_rfl) ?_ _
            refine HQ1.out _ _ ?_
            clear HQ1 HQ2
            go_wp2_with (refine bodyPost_mid 8 9 10 28 rfl g7 rfl (.slice AO j cO) (.int .i64 0) rfl rfl 28 Vj ex242.1 _ Tryz.underlying28 rfl SVj.out rfl ?_)
            exact com_ret HEND.out HVJ.out HSP.out HCJ.out HCMJ.out hw241.src.rd.rd hw241.src.bel ⟨HOS.out, OwnI.rd hw241.out HOS.out, HO1.out, HO2.out, Frs.of_own hw241.out⟩ HZS.out HLZ.out
  · have hR : comR l Ci s a = ([], s, 1) := by
      unfold comR
      rw [if_neg hb]
    rw [hR]
    have HBAD := Lib.hid (fun w' h1 h2 => HRET.out 1 w' h1 h2)
    clear hR HRET
    by_cases h1 : Ci < 0
    · clear hb hrt
      go_enter Tryz.func16, Tryz.ntmps16
      go_wp2_with (first
        | (with_reducible refine at_any ?_; refine at_dst 6 rfl ?_; refine wpList_box_any rfl 28 (.tmp 2) rfl V rfl ?_; intro w1 hk1 hs1 hb1)
        | (with_reducible refine at_any ?_; refine at_dst 9 rfl ?_; refine wpList_alloc_any rfl 28 rfl Z HZ0.out ?_; intro w2 hk2 hs2 hb2; have HS2 := Lib.hid (DrS.mk2 hRd.out hk1.out hb1 hk2.out hb2 (Below.refl _ _)); have HZ2 := Lib.hid (fx1 hk2.out); clear hs1 hb1 hs2 hb2))
      obtain ⟨g3, hg3⟩ : ∃ g, w.heap.size = g := ⟨_, rfl⟩
      obtain ⟨g7, hg7⟩ : ∃ g, w1.heap.size = g := ⟨_, rfl⟩
      have HS9 := HS2.out
      have HZ9 := HZ2.out
      rw [hg3, hg7] at HS9
      rw [hg7] at HZ9
      rw [hg3, hg7]
      clear hg3 hg7 hk1 hk2
      have HZ7 := HZ9.drew
      refine wp_region_held_drew (S := (DrS w g3 g7 V A0 L zs)) (by kernel_rfl) HS9.drew (fun hH => ?_)
      refine wpAnyH_letter #[false, false, false, false] (by kernel_rfl) (fun _ _ d _ _ h => by cases d <;> exact h) (fun QL HQ1 HQ2 => ?_)
      refine held_row 0 (some 35) rfl (by kernel_rfl) (by kernel_rfl) (by kernel_rfl) (by kernel_rfl) (fun c a v w h => HQ2.out c a _ v w h) (by kernel_rfl) 28 (.tmp 6) rfl g3 (by kernel_rfl) 28 V (fun _ h => h.blk) _ Tryz.underlying28 rfl SV.out hH ?_
      try simp only [Act.put, List.setIfInBounds_toArray, List.set_cons_zero, List.set_cons_succ]
      refine held_v 1 (some 8) rfl (by kernel_rfl) (by kernel_rfl) (by kernel_rfl) (by kernel_rfl) (fun c a v w h => HQ2.out c a _ v w h) (by kernel_rfl) (.slice none 0 0) (fun W h => by kernel_rfl) hH ?_
      try simp only [Act.put, List.setIfInBounds_toArray, List.set_cons_zero, List.set_cons_succ]
      refine wpAnyH_ready (rs := [2]) (by kernel_rfl) (by decide) ?_
      refine AllReadyH.cons rfl (fun K hK => ?_) AllReadyH.nil
      refine step_store none (by kernel_rfl) (by kernel_rfl) 28 (.tmp 9) (.tmp 35) rfl g7 (by kernel_rfl) 28 Z V HZ7.1 (by kernel_rfl) ZV.out SV.out OV.out ?_
      intro w41 hkw41 hsw41 hbw41 how41
      have ex42 : Fx [.blk g7 28 V] w41 := ⟨hkw41.out, trivial⟩
      refine hK.out _ _ (hH.store HZ7.1 hH.store7 hsw41.out hbw41 how41) (fun hw41 => ?_)
      clear hK K
      try simp only [Act.put, List.setIfInBounds_toArray, List.set_cons_zero, List.set_cons_succ]
      refine held_v 3 (some 10) rfl (by kernel_rfl) (by kernel_rfl) (by kernel_rfl) (by kernel_rfl) (fun c a v w h => HQ2.out c a _ v w h) (by kernel_rfl) (.int .i64 1) (fun W h => by kernel_rfl) hw41 ?_
      try simp only [Act.put, List.setIfInBounds_toArray, List.set_cons_zero, List.set_cons_succ]
      refine wpAnyH_done (by kernel_rfl) ?_ _
      refine HQ1.out _ _ ?_
      clear HQ1 HQ2
      go_wp2_with (refine bodyPost_mid 8 9 10 28 rfl g7 rfl (.slice none 0 0) (.int .i64 1) rfl rfl 28 V ex42.1 _ Tryz.underlying28 rfl SV.out rfl ?_)
      exact HBAD.out _ hw41.rd hw41.bel
    · have h2 : 0 ≤ Ci := by omega
      have dA : decide (Ci < 0) = false := decide_eq_false h1
      by_cases h3 : 256 < Ci
      · clear hb hrt
        go_enter Tryz.func16, Tryz.ntmps16
        go_wp2_with (first
          | (with_reducible refine at_any ?_; refine at_dst 6 rfl ?_; refine wpList_box_any rfl 28 (.tmp 2) rfl V rfl ?_; intro w1 hk1 hs1 hb1)
          | (with_reducible refine at_any ?_; refine at_dst 9 rfl ?_; refine wpList_alloc_any rfl 28 rfl Z HZ0.out ?_; intro w2 hk2 hs2 hb2; have HS2 := Lib.hid (DrS.mk2 hRd.out hk1.out hb1 hk2.out hb2 (Below.refl _ _)); have HZ2 := Lib.hid (fx1 hk2.out); clear hs1 hb1 hs2 hb2))
        obtain ⟨g3, hg3⟩ : ∃ g, w.heap.size = g := ⟨_, rfl⟩
        obtain ⟨g7, hg7⟩ : ∃ g, w1.heap.size = g := ⟨_, rfl⟩
        have HS9 := HS2.out
        have HZ9 := HZ2.out
        rw [hg3, hg7] at HS9
        rw [hg7] at HZ9
        rw [hg3, hg7]
        clear hg3 hg7 hk1 hk2
        have HZ7 := HZ9.drew
        refine wp_region_held_drew (S := (DrS w g3 g7 V A0 L zs)) (by kernel_rfl) HS9.drew (fun hH => ?_)
        refine wpAnyH_letter #[false, false, false, false] (by kernel_rfl) (fun _ _ d _ _ h => by cases d <;> exact h) (fun QL HQ1 HQ2 => ?_)
        refine held_row 0 (some 35) rfl (by kernel_rfl) (by kernel_rfl) (by kernel_rfl) (by kernel_rfl) (fun c a v w h => HQ2.out c a _ v w h) (by kernel_rfl) 28 (.tmp 6) rfl g3 (by kernel_rfl) 28 V (fun _ h => h.blk) _ Tryz.underlying28 rfl SV.out hH ?_
        try simp only [Act.put, List.setIfInBounds_toArray, List.set_cons_zero, List.set_cons_succ]
        refine held_v 1 (some 8) rfl (by kernel_rfl) (by kernel_rfl) (by kernel_rfl) (by kernel_rfl) (fun c a v w h => HQ2.out c a _ v w h) (by kernel_rfl) (.slice none 0 0) (fun W h => by kernel_rfl) hH ?_
        try simp only [Act.put, List.setIfInBounds_toArray, List.set_cons_zero, List.set_cons_succ]
        refine wpAnyH_ready (rs := [2]) (by kernel_rfl) (by decide) ?_
        refine AllReadyH.cons rfl (fun K hK => ?_) AllReadyH.nil
        refine step_store none (by kernel_rfl) (by kernel_rfl) 28 (.tmp 9) (.tmp 35) rfl g7 (by kernel_rfl) 28 Z V HZ7.1 (by kernel_rfl) ZV.out SV.out OV.out ?_
        intro w41 hkw41 hsw41 hbw41 how41
        have ex42 : Fx [.blk g7 28 V] w41 := ⟨hkw41.out, trivial⟩
        refine hK.out _ _ (hH.store HZ7.1 hH.store7 hsw41.out hbw41 how41) (fun hw41 => ?_)
        clear hK K
        try simp only [Act.put, List.setIfInBounds_toArray, List.set_cons_zero, List.set_cons_succ]
        refine held_v 3 (some 10) rfl (by kernel_rfl) (by kernel_rfl) (by kernel_rfl) (by kernel_rfl) (fun c a v w h => HQ2.out c a _ v w h) (by kernel_rfl) (.int .i64 1) (fun W h => by kernel_rfl) hw41 ?_
        try simp only [Act.put, List.setIfInBounds_toArray, List.set_cons_zero, List.set_cons_succ]
        refine wpAnyH_done (by kernel_rfl) ?_ _
        refine HQ1.out _ _ ?_
        clear HQ1 HQ2
        go_wp2_with (refine bodyPost_mid 8 9 10 28 rfl g7 rfl (.slice none 0 0) (.int .i64 1) rfl rfl 28 V ex42.1 _ Tryz.underlying28 rfl SV.out rfl ?_)
        exact HBAD.out _ hw41.rd hw41.bel
      · have h4 : Ci ≤ 256 := by omega
        have dB : decide (256 < Ci) = false := decide_eq_false h3
        have HRT := Lib.hid hrt
        by_cases hr : rightS s = true
        · rw [hr] at HRT
          by_cases h5 : a < 1
          · clear hb hrt hr
            go_enter Tryz.func16, Tryz.ntmps16
            go_wp2_with (first
              | (with_reducible refine at_any ?_; refine at_dst 6 rfl ?_; refine wpList_box_any rfl 28 (.tmp 2) rfl V rfl ?_; intro w1 hk1 hs1 hb1)
              | (with_reducible refine at_any ?_; refine at_dst 9 rfl ?_; refine wpList_alloc_any rfl 28 rfl Z HZ0.out ?_; intro w2 hk2 hs2 hb2; have HS2 := Lib.hid (DrS.mk2 hRd.out hk1.out hb1 hk2.out hb2 (Below.refl _ _)); have HZ2 := Lib.hid (fx1 hk2.out); clear hs1 hb1 hs2 hb2)
              | (with_reducible refine at_any ?_; refine at_dst 23 rfl ?_; refine wpList_load_gdb (by kernel_rfl) 28 (.tmp 6) rfl w.heap.size rfl 28 V HS2.out.blk _ Tryz.underlying28 rfl SV.out ?_)
              | (go_at_call 34; (with_reducible refine (HRT.out _).mono ?_); rintro e w3 ⟨rfl, hb3⟩; have HS3 := Lib.hid (DrS.below HS2.out hb3); have HZ3 := Lib.hid (Fx.below HZ2.out hb3); clear hb3))
            obtain ⟨g3, hg3⟩ : ∃ g, w.heap.size = g := ⟨_, rfl⟩
            obtain ⟨g7, hg7⟩ : ∃ g, w1.heap.size = g := ⟨_, rfl⟩
            have HS9 := HS3.out
            have HZ9 := HZ3.out
            rw [hg3, hg7] at HS9
            rw [hg7] at HZ9
            rw [hg3, hg7]
            clear hg3 hg7 hk1 hk2
            have HZ7 := HZ9.drew
            refine wp_region_held_drew (S := (DrS w g3 g7 V A0 L zs)) (by kernel_rfl) HS9.drew (fun hH => ?_)
            refine wpAnyH_letter #[false, false, false, false] (by kernel_rfl) (fun _ _ d _ _ h => by cases d <;> exact h) (fun QL HQ1 HQ2 => ?_)
            refine held_row 0 (some 35) rfl (by kernel_rfl) (by kernel_rfl) (by kernel_rfl) (by kernel_rfl) (fun c a v w h => HQ2.out c a _ v w h) (by kernel_rfl) 28 (.tmp 6) rfl g3 (by kernel_rfl) 28 V (fun _ h => h.blk) _ Tryz.underlying28 rfl SV.out hH ?_
            try simp only [Act.put, List.setIfInBounds_toArray, List.set_cons_zero, List.set_cons_succ]
            refine held_v 1 (some 8) rfl (by kernel_rfl) (by kernel_rfl) (by kernel_rfl) (by kernel_rfl) (fun c a v w h => HQ2.out c a _ v w h) (by kernel_rfl) (.slice none 0 0) (fun W h => by kernel_rfl) hH ?_
            try simp only [Act.put, List.setIfInBounds_toArray, List.set_cons_zero, List.set_cons_succ]
            refine wpAnyH_ready (rs := [2]) (by kernel_rfl) (by decide) ?_
            refine AllReadyH.cons rfl (fun K hK => ?_) AllReadyH.nil
            refine step_store none (by kernel_rfl) (by kernel_rfl) 28 (.tmp 9) (.tmp 35) rfl g7 (by kernel_rfl) 28 Z V HZ7.1 (by kernel_rfl) ZV.out SV.out OV.out ?_
            intro w41 hkw41 hsw41 hbw41 how41
            have ex42 : Fx [.blk g7 28 V] w41 := ⟨hkw41.out, trivial⟩
            refine hK.out _ _ (hH.store HZ7.1 hH.store7 hsw41.out hbw41 how41) (fun hw41 => ?_)
            clear hK K
            try simp only [Act.put, List.setIfInBounds_toArray, List.set_cons_zero, List.set_cons_succ]
            refine held_v 3 (some 10) rfl (by kernel_rfl) (by kernel_rfl) (by kernel_rfl) (by kernel_rfl) (fun c a v w h => HQ2.out c a _ v w h) (by kernel_rfl) (.int .i64 1) (fun W h => by kernel_rfl) hw41 ?_
            try simp only [Act.put, List.setIfInBounds_toArray, List.set_cons_zero, List.set_cons_succ]
            refine wpAnyH_done (by kernel_rfl) ?_ _
            refine HQ1.out _ _ ?_
            clear HQ1 HQ2
            go_wp2_with (refine bodyPost_mid 8 9 10 28 rfl g7 rfl (.slice none 0 0) (.int .i64 1) rfl rfl 28 V ex42.1 _ Tryz.underlying28 rfl SV.out rfl ?_)
            exact HBAD.out _ hw41.rd hw41.bel
          · have h6 : 64 < a := by
              by_cases h7 : a ≤ 64
              · exact absurd (by unfold comB; rw [hr, decide_eq_true ⟨h2, h4, by omega, h7⟩]; rfl) hb
              · omega
            have h8 : 1 ≤ a := by omega
            have dC : decide (a < 1) = false := decide_eq_false h5
            clear hb hrt hr
            go_enter Tryz.func16, Tryz.ntmps16
            go_wp2_with (first
              | (with_reducible refine at_any ?_; refine at_dst 6 rfl ?_; refine wpList_box_any rfl 28 (.tmp 2) rfl V rfl ?_; intro w1 hk1 hs1 hb1)
              | (with_reducible refine at_any ?_; refine at_dst 9 rfl ?_; refine wpList_alloc_any rfl 28 rfl Z HZ0.out ?_; intro w2 hk2 hs2 hb2; have HS2 := Lib.hid (DrS.mk2 hRd.out hk1.out hb1 hk2.out hb2 (Below.refl _ _)); have HZ2 := Lib.hid (fx1 hk2.out); clear hs1 hb1 hs2 hb2)
              | (with_reducible refine at_any ?_; refine at_dst 23 rfl ?_; refine wpList_load_gdb (by kernel_rfl) 28 (.tmp 6) rfl w.heap.size rfl 28 V HS2.out.blk _ Tryz.underlying28 rfl SV.out ?_)
              | (go_at_call 34; (with_reducible refine (HRT.out _).mono ?_); rintro e w3 ⟨rfl, hb3⟩; have HS3 := Lib.hid (DrS.below HS2.out hb3); have HZ3 := Lib.hid (Fx.below HZ2.out hb3); clear hb3))
            obtain ⟨g3, hg3⟩ : ∃ g, w.heap.size = g := ⟨_, rfl⟩
            obtain ⟨g7, hg7⟩ : ∃ g, w1.heap.size = g := ⟨_, rfl⟩
            have HS9 := HS3.out
            have HZ9 := HZ3.out
            rw [hg3, hg7] at HS9
            rw [hg7] at HZ9
            rw [hg3, hg7]
            clear hg3 hg7 hk1 hk2
            have HZ7 := HZ9.drew
            refine wp_region_held_drew (S := (DrS w g3 g7 V A0 L zs)) (by kernel_rfl) HS9.drew (fun hH => ?_)
            refine wpAnyH_letter #[false, false, false, false] (by kernel_rfl) (fun _ _ d _ _ h => by cases d <;> exact h) (fun QL HQ1 HQ2 => ?_)
            refine held_row 0 (some 35) rfl (by kernel_rfl) (by kernel_rfl) (by kernel_rfl) (by kernel_rfl) (fun c a v w h => HQ2.out c a _ v w h) (by kernel_rfl) 28 (.tmp 6) rfl g3 (by kernel_rfl) 28 V (fun _ h => h.blk) _ Tryz.underlying28 rfl SV.out hH ?_
            try simp only [Act.put, List.setIfInBounds_toArray, List.set_cons_zero, List.set_cons_succ]
            refine held_v 1 (some 8) rfl (by kernel_rfl) (by kernel_rfl) (by kernel_rfl) (by kernel_rfl) (fun c a v w h => HQ2.out c a _ v w h) (by kernel_rfl) (.slice none 0 0) (fun W h => by kernel_rfl) hH ?_
            try simp only [Act.put, List.setIfInBounds_toArray, List.set_cons_zero, List.set_cons_succ]
            refine wpAnyH_ready (rs := [2]) (by kernel_rfl) (by decide) ?_
            refine AllReadyH.cons rfl (fun K hK => ?_) AllReadyH.nil
            refine step_store none (by kernel_rfl) (by kernel_rfl) 28 (.tmp 9) (.tmp 35) rfl g7 (by kernel_rfl) 28 Z V HZ7.1 (by kernel_rfl) ZV.out SV.out OV.out ?_
            intro w41 hkw41 hsw41 hbw41 how41
            have ex42 : Fx [.blk g7 28 V] w41 := ⟨hkw41.out, trivial⟩
            refine hK.out _ _ (hH.store HZ7.1 hH.store7 hsw41.out hbw41 how41) (fun hw41 => ?_)
            clear hK K
            try simp only [Act.put, List.setIfInBounds_toArray, List.set_cons_zero, List.set_cons_succ]
            refine held_v 3 (some 10) rfl (by kernel_rfl) (by kernel_rfl) (by kernel_rfl) (by kernel_rfl) (fun c a v w h => HQ2.out c a _ v w h) (by kernel_rfl) (.int .i64 1) (fun W h => by kernel_rfl) hw41 ?_
            try simp only [Act.put, List.setIfInBounds_toArray, List.set_cons_zero, List.set_cons_succ]
            refine wpAnyH_done (by kernel_rfl) ?_ _
            refine HQ1.out _ _ ?_
            clear HQ1 HQ2
            go_wp2_with (refine bodyPost_mid 8 9 10 28 rfl g7 rfl (.slice none 0 0) (.int .i64 1) rfl rfl 28 V ex42.1 _ Tryz.underlying28 rfl SV.out rfl ?_)
            exact HBAD.out _ hw41.rd hw41.bel
        · have hr2 : rightS s = false := by
            cases hh : rightS s with
            | true => exact absurd hh hr
            | false => rfl
          rw [hr2] at HRT
          clear hb hrt hr hr2
          go_enter Tryz.func16, Tryz.ntmps16
          go_wp2_with (first
            | (with_reducible refine at_any ?_; refine at_dst 6 rfl ?_; refine wpList_box_any rfl 28 (.tmp 2) rfl V rfl ?_; intro w1 hk1 hs1 hb1)
            | (with_reducible refine at_any ?_; refine at_dst 9 rfl ?_; refine wpList_alloc_any rfl 28 rfl Z HZ0.out ?_; intro w2 hk2 hs2 hb2; have HS2 := Lib.hid (DrS.mk2 hRd.out hk1.out hb1 hk2.out hb2 (Below.refl _ _)); have HZ2 := Lib.hid (fx1 hk2.out); clear hs1 hb1 hs2 hb2)
            | (with_reducible refine at_any ?_; refine at_dst 23 rfl ?_; refine wpList_load_gdb (by kernel_rfl) 28 (.tmp 6) rfl w.heap.size rfl 28 V HS2.out.blk _ Tryz.underlying28 rfl SV.out ?_)
            | (go_at_call 34; (with_reducible refine (HRT.out _).mono ?_); rintro e w3 ⟨rfl, hb3⟩; have HS3 := Lib.hid (DrS.below HS2.out hb3); have HZ3 := Lib.hid (Fx.below HZ2.out hb3); clear hb3))
          obtain ⟨g3, hg3⟩ : ∃ g, w.heap.size = g := ⟨_, rfl⟩
          obtain ⟨g7, hg7⟩ : ∃ g, w1.heap.size = g := ⟨_, rfl⟩
          have HS9 := HS3.out
          have HZ9 := HZ3.out
          rw [hg3, hg7] at HS9
          rw [hg7] at HZ9
          rw [hg3, hg7]
          clear hg3 hg7 hk1 hk2
          have HZ7 := HZ9.drew
          refine wp_region_held_drew (S := (DrS w g3 g7 V A0 L zs)) (by kernel_rfl) HS9.drew (fun hH => ?_)
          refine wpAnyH_letter #[false, false, false, false] (by kernel_rfl) (fun _ _ d _ _ h => by cases d <;> exact h) (fun QL HQ1 HQ2 => ?_)
          refine held_row 0 (some 35) rfl (by kernel_rfl) (by kernel_rfl) (by kernel_rfl) (by kernel_rfl) (fun c a v w h => HQ2.out c a _ v w h) (by kernel_rfl) 28 (.tmp 6) rfl g3 (by kernel_rfl) 28 V (fun _ h => h.blk) _ Tryz.underlying28 rfl SV.out hH ?_
          try simp only [Act.put, List.setIfInBounds_toArray, List.set_cons_zero, List.set_cons_succ]
          refine held_v 1 (some 8) rfl (by kernel_rfl) (by kernel_rfl) (by kernel_rfl) (by kernel_rfl) (fun c a v w h => HQ2.out c a _ v w h) (by kernel_rfl) (.slice none 0 0) (fun W h => by kernel_rfl) hH ?_
          try simp only [Act.put, List.setIfInBounds_toArray, List.set_cons_zero, List.set_cons_succ]
          refine wpAnyH_ready (rs := [2]) (by kernel_rfl) (by decide) ?_
          refine AllReadyH.cons rfl (fun K hK => ?_) AllReadyH.nil
          refine step_store none (by kernel_rfl) (by kernel_rfl) 28 (.tmp 9) (.tmp 35) rfl g7 (by kernel_rfl) 28 Z V HZ7.1 (by kernel_rfl) ZV.out SV.out OV.out ?_
          intro w41 hkw41 hsw41 hbw41 how41
          have ex42 : Fx [.blk g7 28 V] w41 := ⟨hkw41.out, trivial⟩
          refine hK.out _ _ (hH.store HZ7.1 hH.store7 hsw41.out hbw41 how41) (fun hw41 => ?_)
          clear hK K
          try simp only [Act.put, List.setIfInBounds_toArray, List.set_cons_zero, List.set_cons_succ]
          refine held_v 3 (some 10) rfl (by kernel_rfl) (by kernel_rfl) (by kernel_rfl) (by kernel_rfl) (fun c a v w h => HQ2.out c a _ v w h) (by kernel_rfl) (.int .i64 1) (fun W h => by kernel_rfl) hw41 ?_
          try simp only [Act.put, List.setIfInBounds_toArray, List.set_cons_zero, List.set_cons_succ]
          refine wpAnyH_done (by kernel_rfl) ?_ _
          refine HQ1.out _ _ ?_
          clear HQ1 HQ2
          go_wp2_with (refine bodyPost_mid 8 9 10 28 rfl g7 rfl (.slice none 0 0) (.int .i64 1) rfl rfl 28 V ex42.1 _ Tryz.underlying28 rfl SV.out rfl ?_)
          exact HBAD.out _ hw41.rd hw41.bel
theorem rdp_ofC {A : Option Addr} {n : Nat} {zs : List Int} {w : World} (h : Rd .u8 w w.heap.size A n zs) : RdP A n zs w := h
theorem rdi_store {A : Option Addr} {n g : Nat} {zs : List Int} {w w' : World} {t : TypeId} {cs : Array Value} {k : IntKind} (h : Rd k w w.heap.size A n zs) (hk : Blk w g t cs) (ha : Apt n A g) (hs : w'.heap.size = w.heap.size) (ho : ∀ j, j ≠ g → w'.heap[j]? = w.heap[j]?) : Rd k w' w'.heap.size A n zs := by
  have h1 := Rd.other h ho ha
  rw [hs]
  exact h1
theorem comR_src (l : List Int) (C : Int) (s : Src) (a : Int) (ok : s.Ok) : (comR l C s a).2.1.Ok ∧ (comR l C s a).2.1.tape = s.tape := by
  unfold comR
  split
  · split
    · exact ⟨ok, rfl⟩
    · exact comGo_src a C.toNat l s ok
  · exact ⟨ok, rfl⟩
set_option maxHeartbeats 16000000 in
theorem r17list_c (l : List Int) (hz : ∀ z ∈ l, 0 ≤ z ∧ z < 18446744073709551616) (Ci : Int) (C0 : -9223372036854775808 ≤ Ci) (C1 : Ci < 9223372036854775808) (s : Src) (ok : s.Ok) (a : Int) (a0 : -9223372036854775808 ≤ a) (a1 : a < 9223372036854775808) (AL : Option Addr) (n c : Nat) (hn : n ≤ 1000000) (A0 : Option Addr) (c0 : Nat) (hc : s.tape.length ≤ c0) (hcm : c0 ≤ maxLen) (w : World) (hrl : Rd .u64 w w.heap.size AL n l) (hrd : Rd .u8 w w.heap.size A0 s.tape.length s.tape) :
    Calls Tryz.prog 11 #[.slice AL n c, .int .i64 Ci, .agg (srcV s A0 c0), .int .i64 a] w (RetComm w s A0 (comL l Ci s a)) := by
  have HZ0 := Lib.hid zero_src
  have HRL := Lib.hid hrl
  have HZSS := Lib.hid (fun (t : Src) (h : t.seed.length = 32) A c => srcV_same Src.zero t rfl h none A 0 c)
  have hto := fun W h => r12total_c l hz AL n c (by unfold maxLen; omega) W h
  have hdr := fun W h1 h2 => r17draw_c l hz Ci C0 C1 s ok a a0 a1 AL n c hn A0 c0 hc hcm W h1 h2
  obtain ⟨okt, htt⟩ := comR_src l Ci s a ok
  obtain ⟨Z, hZ⟩ : ∃ Z, srcV Src.zero none 0 = Z := ⟨_, rfl⟩
  rw [hZ] at HZ0 HZSS
  have SV := Lib.hid (sizedS s ok.sl A0 c0)
  have OV := Lib.hid (srcV_ones s A0 c0)
  have ZV := Lib.hid (HZSS.out s ok.sl A0 c0)
  have HBAD0 : Hid (∀ (w' : World), RdP A0 s.tape.length s.tape w' → Below w.heap.size w w' → RetComm w s A0 ([], s, 11) (.returned (.tuple #[.slice none 0 0, .agg (srcV s A0 c0), .int .i64 11])) w') := Lib.hid (fun w' h1 h2 => ⟨A0, c0, none, 0, rfl, rd_nil _ _ _ _, Nat.le_refl _, by simp [maxLen], Frs.none w, h1, hc, hcm, .inl rfl, h2⟩)
  obtain ⟨V, hV⟩ : ∃ V, srcV s A0 c0 = V := ⟨_, rfl⟩
  unfold RetComm at hdr
  rw [hV] at SV OV ZV hdr HBAD0 ⊢
  obtain ⟨zs, hzs⟩ : ∃ zs, s.tape = zs := ⟨_, rfl⟩
  obtain ⟨L, hL⟩ : ∃ L, zs.length = L := ⟨_, rfl⟩
  have HZS := Lib.hid hzs
  have HLZ := Lib.hid hL
  rw [hzs, hL] at hrd hdr HBAD0
  have hRd := Lib.hid hrd
  by_cases hs : sumL l < 9223372036854775808
  · have hR : comL l Ci s a = comR l Ci s a := if_pos hs
    rw [hR]
    rw [(tot_ok hs).1, (tot_ok hs).2] at hto
    obtain ⟨rr, hrr⟩ : ∃ r, comR l Ci s a = r := ⟨_, rfl⟩
    rw [hrr] at hdr okt htt ⊢
    obtain ⟨os, t, E⟩ := rr
    simp only at hdr okt htt
    obtain ⟨k1, hk1e⟩ : ∃ x, os.length = x := ⟨_, rfl⟩
    rw [hk1e] at hdr
    have HK1 := Lib.hid hk1e
    obtain ⟨sv, hsv⟩ : ∃ x, sumL l = x := ⟨_, rfl⟩
    rw [hsv] at hto
    have HTO := Lib.hid hto
    have HDR := Lib.hid hdr
    have ST := Lib.hid (fun A c => sizedS t okt.sl A c)
    have OT := Lib.hid (fun A c => srcV_ones t A c)
    have ZT := Lib.hid (fun A c => HZSS.out t okt.sl A c)
    clear hz hZ ok hc hcm hV hrl hrd hzs hL hs hR hrr hto hdr okt htt hsv HBAD0 C0 C1 a0 a1 hn hk1e
    go_enter Tryz.func11, Tryz.ntmps11
    go_wp2_with (first
      | (with_reducible refine at_any ?_; refine at_dst 6 rfl ?_; refine wpList_box_any rfl 28 (.tmp 2) rfl V rfl ?_; intro w1 hk1 hs1 hb1)
      | (with_reducible refine at_any ?_; refine at_dst 9 rfl ?_; refine wpList_alloc_any rfl 28 rfl Z HZ0.out ?_; intro w2 hk2 hs2 hb2; have HS2 := Lib.hid (DrS.mk2 hRd.out hk1.out hb1 hk2.out hb2 (Below.refl _ _)); have HZ2 := Lib.hid (fx1 hk2.out); clear hs1 hb1 hs2 hb2)
      | (go_at_call 27; (with_reducible refine (HTO.out _ (HR1 HRL.out HS2.out.bel)).mono ?_); rintro e _ ⟨rfl, rfl⟩)
      | (with_reducible refine at_any ?_; refine at_dst 24 rfl ?_; refine wpList_load_blk rfl 28 (.tmp 6) rfl w.heap.size rfl 28 V HS2.out.blk _ Tryz.underlying28 rfl SV.out ?_)
      | (go_at_call 16; (with_reducible refine (HDR.out _ (HR1 HRL.out HS2.out.bel) HS2.out.rd.rd).mono ?_); rintro e w6 ⟨A2, c2, AM, cM, rfl, hrm, hlm, hmm, hfm, hrd2, hc2, hm2, hsp2, hb6⟩; obtain ⟨V2, hV2⟩ : ∃ V2, srcV t A2 c2 = V2 := ⟨_, rfl⟩; have SV2 := Lib.hid (ST.out A2 c2); have OV2 := Lib.hid (OT.out A2 c2); have ZV2 := Lib.hid (ZT.out A2 c2); have HV2 := Lib.hid hV2; have HZ6 := Lib.hid (Fx.below HZ2.out hb6); have HB6 := Lib.hid (HS2.out.bel.trans (hb6.mono HS2.out.bel.size)); have HA2 := Lib.hid (Apt.of_sep hsp2 HS2.out.apt7 HS2.out.lt7); have HL7 := Lib.hid HS2.out.le7; have HSP := Lib.hid (sep_from hsp2 HS2.out.bel.size); have HC2 := Lib.hid hc2; have HM2 := Lib.hid hm2; have HRD2 := Lib.hid (rdp_ofC hrd2); have HAM := Lib.hid (Frs.apt (n := k1) hfm HS2.out.lt7); have HFM := Lib.hid (Frs.from hfm HS2.out.bel.size); have HRM := Lib.hid hrm; have HLM := Lib.hid hlm; have HMM := Lib.hid hmm; rw [hV2] at SV2 OV2 ZV2 ⊢; clear hV2 hc2 hm2 hsp2 hb6 hrd2 hfm hrm hlm hmm)
      | (with_reducible refine at_any ?_; refine at_store 9 rfl ?_; refine wpList_store_any rfl 28 (.tmp 9) (.tmp 28) rfl w1.heap.size rfl 28 Z V2 (Fx.b0 HZ6.out) rfl ZV2.out SV2.out OV2.out ?_; intro w7 hk7 hs7 hb7 ho7; have HR7 := Lib.hid (RdP.store HRD2.out (Fx.b0 HZ6.out) HA2.out hs7.out hb7 ho7); have HM7 := Lib.hid (rdi_store HRM.out (Fx.b0 HZ6.out) HAM.out hs7.out ho7); have HB7 := Lib.hid (HB6.out.trans (hb7 _ HL7.out)); have HK7 := Lib.hid hk7.out; clear hk7 hs7 hb7 ho7)
      | (refine bodyPost_mid 8 9 10 28 rfl w1.heap.size rfl (.slice AM k1 cM) (.int .i64 E) rfl rfl 28 V2 HK7.out _ Tryz.underlying28 rfl SV2.out rfl ?_))
    exact com_ret rfl HV2.out HSP.out HC2.out HM2.out HR7.out HB7.out ⟨HK1.out, HM7.out, HLM.out, HMM.out, HFM.out⟩ HZS.out HLZ.out
  · have hR : comL l Ci s a = ([], s, 11) := if_neg hs
    rw [hR]
    rw [(tot_no hs).1, (tot_no hs).2] at hto
    have HTO := Lib.hid hto
    have HBAD := HBAD0
    clear hz hZ ok hc hcm hV hrl hrd hzs hL hs hR hto hdr okt htt HBAD0 C0 C1 a0 a1 hn
    go_enter Tryz.func11, Tryz.ntmps11
    go_wp2_with (first
      | (with_reducible refine at_any ?_; refine at_dst 6 rfl ?_; refine wpList_box_any rfl 28 (.tmp 2) rfl V rfl ?_; intro w1 hk1 hs1 hb1)
      | (with_reducible refine at_any ?_; refine at_dst 9 rfl ?_; refine wpList_alloc_any rfl 28 rfl Z HZ0.out ?_; intro w2 hk2 hs2 hb2; have HS2 := Lib.hid (DrS.mk2 hRd.out hk1.out hb1 hk2.out hb2 (Below.refl _ _)); have HZ2 := Lib.hid (fx1 hk2.out); clear hs1 hb1 hs2 hb2)
      | (go_at_call 27; (with_reducible refine (HTO.out _ (HR1 HRL.out HS2.out.bel)).mono ?_); rintro e _ ⟨rfl, rfl⟩))
    obtain ⟨g3, hg3⟩ : ∃ g, w.heap.size = g := ⟨_, rfl⟩
    obtain ⟨g7, hg7⟩ : ∃ g, w1.heap.size = g := ⟨_, rfl⟩
    have HS9 := HS2.out
    have HZ9 := HZ2.out
    rw [hg3, hg7] at HS9
    rw [hg7] at HZ9
    rw [hg3, hg7]
    clear hg3 hg7 hk1 hk2
    have HZ7 := HZ9.drew
    refine wp_region_held_drew (S := (DrS w g3 g7 V A0 L zs)) (by kernel_rfl) HS9.drew (fun hH => ?_)
    refine wpAnyH_letter #[false, false, false, false, false] (by kernel_rfl) (fun _ _ d _ _ h => by cases d <;> exact h) (fun QL HQ1 HQ2 => ?_)
    refine held_row 0 (some 20) rfl (by kernel_rfl) (by kernel_rfl) (by kernel_rfl) (by kernel_rfl) (fun c a v w h => HQ2.out c a _ v w h) (by kernel_rfl) 28 (.tmp 6) rfl g3 (by kernel_rfl) 28 V (fun _ h => h.blk) _ Tryz.underlying28 rfl SV.out hH ?_
    try simp only [Act.put, List.setIfInBounds_toArray, List.set_cons_zero, List.set_cons_succ]
    refine held_v 1 (some 21) rfl (by kernel_rfl) (by kernel_rfl) (by kernel_rfl) (by kernel_rfl) (fun c a v w h => HQ2.out c a _ v w h) (by kernel_rfl) (.int .i64 11) (fun W h => by kernel_rfl) hH ?_
    try simp only [Act.put, List.setIfInBounds_toArray, List.set_cons_zero, List.set_cons_succ]
    refine held_v 2 (some 8) rfl (by kernel_rfl) (by kernel_rfl) (by kernel_rfl) (by kernel_rfl) (fun c a v w h => HQ2.out c a _ v w h) (by kernel_rfl) (.slice none 0 0) (fun W h => by kernel_rfl) hH ?_
    try simp only [Act.put, List.setIfInBounds_toArray, List.set_cons_zero, List.set_cons_succ]
    refine wpAnyH_ready (rs := [3]) (by kernel_rfl) (by decide) ?_
    refine AllReadyH.cons rfl (fun K hK => ?_) AllReadyH.nil
    refine step_store none (by kernel_rfl) (by kernel_rfl) 28 (.tmp 9) (.tmp 20) rfl g7 (by kernel_rfl) 28 Z V HZ7.1 (by kernel_rfl) ZV.out SV.out OV.out ?_
    intro w41 hkw41 hsw41 hbw41 how41
    have ex42 : Fx [.blk g7 28 V] w41 := ⟨hkw41.out, trivial⟩
    refine hK.out _ _ (hH.store HZ7.1 hH.store7 hsw41.out hbw41 how41) (fun hw41 => ?_)
    clear hK K
    try simp only [Act.put, List.setIfInBounds_toArray, List.set_cons_zero, List.set_cons_succ]
    refine held_v 4 (some 10) rfl (by kernel_rfl) (by kernel_rfl) (by kernel_rfl) (by kernel_rfl) (fun c a v w h => HQ2.out c a _ v w h) (by kernel_rfl) (.int .i64 11) (fun W h => by kernel_rfl) hw41 ?_
    try simp only [Act.put, List.setIfInBounds_toArray, List.set_cons_zero, List.set_cons_succ]
    refine wpAnyH_done (by kernel_rfl) ?_ _
    refine HQ1.out _ _ ?_
    clear HQ1 HQ2
    go_wp2_with (refine bodyPost_mid 8 9 10 28 rfl g7 rfl (.slice none 0 0) (.int .i64 11) rfl rfl 28 V ex42.1 _ Tryz.underlying28 rfl SV.out rfl ?_)
    exact HBAD.out _ hw41.rd hw41.bel
set_option maxHeartbeats 2000000 in
theorem r17same_c (xs ys : List Int) (A B : Option Addr) (n m c d : Nat) (hn : n ≤ maxLen) (hm : m ≤ maxLen) (w : World) (hra : Rd .i64 w w.heap.size A n xs) (hrb : Rd .i64 w w.heap.size B m ys) : Calls Tryz.prog 12 #[.slice A n c, .slice B m d] w fun e w' => e = .returned (.bool (decide (xs = ys))) ∧ Below w.heap.size w w' := by
  have HA := Lib.hid hra
  have HB := Lib.hid hrb
  have hla := hra.len
  have hlb := hrb.len
  have hnm : (n : Int) ≤ 9223372036854775807 := by unfold maxLen at hn; omega
  clear hra hrb hn hm
  by_cases hl : n = m
  · subst hl
    have t0 : ((n : Int) != (n : Int)) = false := by simp
    go_enter Tryz.func12, Tryz.ntmps12
    go_wp2
    go_loopw [5] (fun i wr => ∃ k : Nat, k ≤ n ∧ i = .int .i64 (k : Int) ∧ (∀ j, j < k → xs.getD j 0 = ys.getD j 0) ∧ Below w.heap.size w wr) (fun i _ => n - (intOf i).toNat)
    case atStart => exact ⟨0, by omega, rfl, fun j h => absurd h (by omega), Below.refl _ _⟩
    case round =>
      obtain ⟨k, hk, rfl, heq, hbl⟩ := hrel
      have HEQ := Lib.hid heq
      have HBL := Lib.hid hbl
      by_cases hlt : k < n
      · obtain ⟨b1, o1, rfl, _, hc1⟩ := (HA.out.below hbl).at_ (by omega)
        obtain ⟨b2, o2, rfl, _, hc2⟩ := (HB.out.below hbl).at_ (by omega)
        have hk1 := hc1 k hlt
        have hk2 := hc2 k hlt
        obtain ⟨x, hx⟩ : ∃ x, xs.getD k 0 = x := ⟨_, rfl⟩
        obtain ⟨y, hy⟩ : ∃ y, ys.getD k 0 = y := ⟨_, rfl⟩
        rw [hx] at hk1
        rw [hy] at hk2
        have i0 : (0 : Int) ≤ (k : Int) := by omega
        have i1 : (k : Int) < (n : Int) := by omega
        clear heq hbl hc1 hc2
        by_cases hxy : x = y
        · subst hxy
          have HK : ∀ j, j < k + 1 → xs.getD j 0 = ys.getD j 0 := fun j hj => by
            by_cases h : j = k
            · rw [h, hx, hy]
            · exact HEQ.out j (by omega)
          have HKK := Lib.hid HK
          have t1 : (x != x) = false := by simp
          clear hx hy HEQ HK
          go_wp2
          go_quiet (fail)
          go_wp2
          go_roundw
          case rel => exact ⟨k + 1, by omega, by go_num, HKK.out, HBL.out.trans (below_drewN (Below.refl _ _) _)⟩
          case measure => simp [intOf]; omega
        · have hne : ¬ xs = ys := fun h => hxy (by rw [← hx, ← hy, h])
          have t1 : (x != y) = true := by simp [bne, hxy]
          have HNE := Lib.hid hne
          clear hx hy HEQ hne
          go_wp2
          go_quiet (fail)
          go_wp2
          go_ret
          exact ⟨ret_bool (decide_eq_false HNE.out).symm, below_drewN HBL.out _⟩
      · have hxy : xs = ys := ext_getD (by omega) fun j hj => heq j (by omega)
        obtain rfl : k = n := by omega
        have HXY := Lib.hid hxy
        clear heq hbl hxy
        go_wp2
        go_ret
        exact ⟨ret_bool (decide_eq_true HXY.out).symm, HBL.out⟩
  · have t0 : ((n : Int) != (m : Int)) = true := by simp [bne]; omega
    have hne : ¬ xs = ys := fun h => hl (by rw [← hla, ← hlb, h])
    have HNE := Lib.hid hne
    clear hne
    go_enter Tryz.func12, Tryz.ntmps12
    go_wp2
    go_ret
    exact ⟨ret_bool (decide_eq_false HNE.out).symm, Below.refl _ _⟩
end
section
open Go.ChangeShapes Go.WideShapes Go.ChangeAt Go.RowKit
set_option maxHeartbeats 4000000 in
theorem r11tree_c (l : List Int) (hz : ∀ z ∈ l, 0 ≤ z) (hs : sumL l < 9223372036854775808) (A : Option Addr) (n c : Nat) (hn : n ≤ 1048576) (w : World) (hrd : Rd .u64 w w.heap.size A n l) : Calls Tryz.prog 18 #[.slice A n c] w (RetTree w l) := by
  obtain ⟨ti, hti, hz0, hz1, hzb⟩ := info_parts info_u64d
  have HR := Lib.hid hrd
  have hlen := hrd.len
  have hnm : n ≤ maxLen := by simp only [maxLen]; omega
  have HSM := Lib.hid (fun a b h h2 W h3 => r11sum_c l hz hs A n c hnm a b h h2 W h3)
  have HAT := Lib.hid (fun i (h : i < n) => treeL_at (l := l) (i := i) (by omega))
  have HTK := Lib.hid (fun i (h : i < n) => tree_take (l := l) (i := i) (by omega))
  have HAL : Hid ((treeL l).take n = treeL l) := Lib.hid (List.take_of_length_le (by rw [treeL_len]; omega))
  have HEND : Hid (∀ A' c' w', Rd .u64 w' w'.heap.size A' n (treeL l) → n ≤ c' → c' ≤ maxLen → Below w.heap.size w w' → RetTree w l (.returned (.agg #[.slice A' n c'])) w') := Lib.hid (fun A' c' w' h1 h2 h3 h4 => ⟨A', c', by rw [hlen], by rw [hlen]; exact h1, by rw [hlen]; exact h2, h3, h4⟩)
  have HLN : Hid (∀ i, i ≤ n → ((treeL l).take i).length = i) := Lib.hid (fun i h => by rw [List.length_take, treeL_len]; omega)
  clear hrd hz hs
  go_enter Tryz.func18, Tryz.ntmps18
  go_wp2_with (first
    | (with_reducible refine at_any ?_; refine at_dst 2 rfl ?_; refine wpList_alloc_any rfl 40 rfl #[.slice none 0 0] zero_fen ?_; intro w1 hk1 hs1 hb1)
    | (with_reducible refine at_any ?_; refine at_dst 3 rfl ?_; refine wpList_alloc_any rfl 40 rfl #[.slice none 0 0] zero_fen ?_; intro w2 hk2 hs2 hb2))
  have HT : TreS w w.heap.size w1.heap.size (.slice none 0 0) [] w2 := ⟨hk1.out.below hb2 hk1.out.lt, hk2.out, OwnI.empty _ _ _ _, hb1.trans (hb2.mono hb1.size), Nat.le_refl _, hk1.out.lt⟩
  obtain ⟨g2, hg2⟩ : ∃ g, w.heap.size = g := ⟨_, rfl⟩
  obtain ⟨g3, hg3⟩ : ∃ g, w1.heap.size = g := ⟨_, rfl⟩
  have HTH : Hid (TreS w g2 g3 (.slice none 0 0) [] w2) := Lib.hid (by rw [← hg2, ← hg3]; exact HT)
  rw [hg2, hg3]
  clear hg2 hg3 hk1 hs1 hb1 hk2 hs2 hb2 HT
  go_loopw [4] (fun ii wr => ∃ (i : Nat) (v : Value), i ≤ n ∧ ii = .int .i64 (i : Int) ∧ TreS w g2 g3 v ((treeL l).take i) wr) (fun ii _ => n - (intOf ii).toNat)
  case atStart => exact ⟨0, _, by omega, rfl, HTH.out⟩
  case round =>
    clear HTH
    obtain ⟨i, v, hi, rfl, HT⟩ := hrel
    by_cases hlt : i < n
    · obtain ⟨m, hm⟩ : ∃ m : Nat, i + 1 = m := ⟨_, rfl⟩
      have hlo := lowN_le m
      have HLOW := Lib.hid (fun W => r11low_c m (by omega) (by omega) W)
      have hat := HAT.out i hlt
      have htk := HTK.out i hlt
      rw [hm] at hat htk
      obtain ⟨lo, hl⟩ : ∃ x, lowN m = x := ⟨_, rfl⟩
      rw [hl] at hlo HLOW hat
      obtain ⟨q, hq⟩ : ∃ q : Nat, m - lo = q := ⟨_, rfl⟩
      rw [hq] at hat
      have HSUM := Lib.hid (fun W h => HSM.out q m (by omega) (by omega) W h)
      obtain ⟨x, hx⟩ : ∃ x, preL l m - preL l q = x := ⟨_, rfl⟩
      rw [hx] at hat HSUM
      rw [hat] at htk
      have HNX : Hid (∀ v' W, TreS w g2 g3 v' ((treeL l).take i ++ [x]) W → TreS w g2 g3 v' ((treeL l).take (i + 1)) W) := Lib.hid (fun v' W h => by rw [hm, htk]; exact h)
      have HLT : Hid (((treeL l).take i).length + 1 ≤ 1048577) := Lib.hid (by rw [HLN.out i (by omega)]; omega)
      obtain ⟨ts, hts⟩ : ∃ x, (treeL l).take i = x := ⟨_, rfl⟩
      rw [hts] at HT HLT HNX
      have e1 : Hid (IntKind.i64.wrap ((i : Int) + 1) = (m : Int)) := Lib.hid (by rw [IntKind.wrap_i64]; omega)
      have e2 : Hid (IntKind.i64.wrap ((m : Int) - (lo : Int)) = (q : Int)) := Lib.hid (by rw [IntKind.wrap_i64]; omega)
      have hlt2 : (i : Int) < (n : Int) := by omega
      clear hlo hat htk hl hq hx hts hm hi
      go_wp2_with fail
      have HT0 := HT.drew
      refine wp_region_held_drew (S := (fun _ => True)) (by kernel_rfl) trivial (fun hH => ?_)
      refine wpAnyH_letter #[false, false, false, false, false, false, false, false, false, false, false, false, false, false, false, false] (by kernel_rfl) (fun _ _ d _ _ h => by cases d <;> exact h) (fun QL HQ1 HQ2 => ?_)
      refine held_v 0 (some 11) rfl (by kernel_rfl) (by kernel_rfl) (by kernel_rfl) (by kernel_rfl) (fun c a v w h => HQ2.out c a _ v w h) (by kernel_rfl) (.pointer (some ⟨g3, 0, none⟩)) (fun W h => by kernel_rfl) trivial ?_
      try simp only [Act.put, List.setIfInBounds_toArray, List.set_cons_zero, List.set_cons_succ]
      refine held_v 2 (some 13) rfl (by kernel_rfl) (by kernel_rfl) (by kernel_rfl) (by kernel_rfl) (fun c a v w h => HQ2.out c a _ v w h) (by kernel_rfl) (.slice A n c) (fun W h => by kernel_rfl) trivial ?_
      try simp only [Act.put, List.setIfInBounds_toArray, List.set_cons_zero, List.set_cons_succ]
      refine held_v 3 (some 14) rfl (by kernel_rfl) (by kernel_rfl) (by kernel_rfl) (by kernel_rfl) (fun c a v w h => HQ2.out c a _ v w h) (by kernel_rfl) (.int .i64 (i : Int)) (fun W h => by kernel_rfl) trivial ?_
      try simp only [Act.put, List.setIfInBounds_toArray, List.set_cons_zero, List.set_cons_succ]
      refine held_v 4 (some 15) rfl (by kernel_rfl) (by kernel_rfl) (by kernel_rfl) (by kernel_rfl) (fun c a v w h => HQ2.out c a _ v w h) (by kernel_rfl) (.int .i64 (m : Int)) (fun W h => by have p := e1.out; go_simp) trivial ?_
      try simp only [Act.put, List.setIfInBounds_toArray, List.set_cons_zero, List.set_cons_succ]
      refine held_v 5 (some 16) rfl (by kernel_rfl) (by kernel_rfl) (by kernel_rfl) (by kernel_rfl) (fun c a v w h => HQ2.out c a _ v w h) (by kernel_rfl) (.int .i64 (i : Int)) (fun W h => by kernel_rfl) trivial ?_
      try simp only [Act.put, List.setIfInBounds_toArray, List.set_cons_zero, List.set_cons_succ]
      refine held_v 6 (some 17) rfl (by kernel_rfl) (by kernel_rfl) (by kernel_rfl) (by kernel_rfl) (fun c a v w h => HQ2.out c a _ v w h) (by kernel_rfl) (.int .i64 (m : Int)) (fun W h => by have p := e1.out; go_simp) trivial ?_
      try simp only [Act.put, List.setIfInBounds_toArray, List.set_cons_zero, List.set_cons_succ]
      refine held_v 9 (some 20) rfl (by kernel_rfl) (by kernel_rfl) (by kernel_rfl) (by kernel_rfl) (fun c a v w h => HQ2.out c a _ v w h) (by kernel_rfl) (.int .i64 (i : Int)) (fun W h => by kernel_rfl) trivial ?_
      try simp only [Act.put, List.setIfInBounds_toArray, List.set_cons_zero, List.set_cons_succ]
      refine held_v 10 (some 21) rfl (by kernel_rfl) (by kernel_rfl) (by kernel_rfl) (by kernel_rfl) (fun c a v w h => HQ2.out c a _ v w h) (by kernel_rfl) (.int .i64 (m : Int)) (fun W h => by have p := e1.out; go_simp) trivial ?_
      try simp only [Act.put, List.setIfInBounds_toArray, List.set_cons_zero, List.set_cons_succ]
      refine wpAnyH_ready (rs := [1, 7]) (by kernel_rfl) (by decide) ?_
      refine AllReadyH.cons rfl (fun K hK => ?_) (AllReadyH.cons rfl (fun K hK => ?_) AllReadyH.nil)
      · refine step_v (some 12) (by kernel_rfl) (by kernel_rfl) (v) (by have p := HT0.cell; go_simp) ?_
        refine hK.out _ _ trivial (fun _ => ?_)
        clear hK K
        try simp only [Act.put, List.setIfInBounds_toArray, List.set_cons_zero, List.set_cons_succ]
        refine wpAnyH_ready (rs := [7]) (by kernel_rfl) (by decide) ?_
        refine AllReadyH.cons rfl (fun K hK => ?_) AllReadyH.nil
        refine step_call (some 18) (by kernel_rfl) (by kernel_rfl) _ _ (by kernel_rfl) _ (HLOW.out _) ?_
        rintro e _ ⟨rfl, rfl⟩
        refine ⟨_, rfl, ?_⟩
        refine hK.out _ _ trivial (fun _ => ?_)
        clear hK K
        try simp only [Act.put, List.setIfInBounds_toArray, List.set_cons_zero, List.set_cons_succ]
        refine held_v 8 (some 19) rfl (by kernel_rfl) (by kernel_rfl) (by kernel_rfl) (by kernel_rfl) (fun c a v w h => HQ2.out c a _ v w h) (by kernel_rfl) (.int .i64 (q : Int)) (fun W h => by have p := e2.out; go_simp) trivial ?_
        try simp only [Act.put, List.setIfInBounds_toArray, List.set_cons_zero, List.set_cons_succ]
        refine wpAnyH_ready (rs := [11]) (by kernel_rfl) (by decide) ?_
        refine AllReadyH.cons rfl (fun K hK => ?_) AllReadyH.nil
        refine step_call (some 22) (by kernel_rfl) (by kernel_rfl) _ _ (by kernel_rfl) _ (HSUM.out _ (HT0.rd HR.out)) ?_
        rintro e _ ⟨rfl, rfl⟩
        refine ⟨_, rfl, ?_⟩
        refine hK.out _ _ trivial (fun _ => ?_)
        clear hK K
        try simp only [Act.put, List.setIfInBounds_toArray, List.set_cons_zero, List.set_cons_succ]
        refine wpAnyH_ready (rs := [12]) (by kernel_rfl) (by decide) ?_
        refine AllReadyH.cons rfl (fun K hK => ?_) AllReadyH.nil
        refine step_build_u64 (some 23) (by kernel_rfl) (by kernel_rfl) (.tmp 22) rfl (x) (by kernel_rfl) ?_
        intro gr45 w44 hrw44 hbw44
        have ex46 := HT0.below hbw44
        refine hK.out _ _ trivial (fun _ => ?_)
        clear hK K
        try simp only [Act.put, List.setIfInBounds_toArray, List.set_cons_zero, List.set_cons_succ]
        refine wpAnyH_ready (rs := [13]) (by kernel_rfl) (by decide) ?_
        refine AllReadyH.cons rfl (fun K hK => ?_) AllReadyH.nil
        refine step_append_d w44 (some 24) rfl rfl (.tmp 12) (.tmp 23) 22 rfl w.heap.size 24 ti _ 8 .u64 Tryz.underlying22 hti hz0 hz1 hzb rfl (v) (ts) (by kernel_rfl) ex46.own w44.heap.size (some ⟨gr45, 0, none⟩) 1 1 [x] (by kernel_rfl) hrw44 (by have p := HLT.out; simp only [maxLen]; omega) (by have p := HLT.out; omega) ex46.size ?_
        intro vw47 w47 how47 hgw47 hatw47
        have hTw47 := ex46.grown hgw47
        obtain ⟨Aw47, cw47, rfl, -, -⟩ := how47.form
        refine hK.out _ _ trivial (fun _ => ?_)
        clear hK K
        try simp only [Act.put, List.setIfInBounds_toArray, List.set_cons_zero, List.set_cons_succ]
        refine held_v 14 (some 25) rfl (by kernel_rfl) (by kernel_rfl) (by kernel_rfl) (by kernel_rfl) (fun c a v w h => HQ2.out c a _ v w h) (by kernel_rfl) (.pointer (some ⟨g3, 0, none⟩)) (fun W h => by kernel_rfl) trivial ?_
        try simp only [Act.put, List.setIfInBounds_toArray, List.set_cons_zero, List.set_cons_succ]
        refine wpAnyH_ready (rs := [15]) (by kernel_rfl) (by decide) ?_
        refine AllReadyH.cons rfl (fun K hK => ?_) AllReadyH.nil
        refine step_store_cell none (by kernel_rfl) (by kernel_rfl) 22 (.tmp 25) (.tmp 24) rfl g3 0 (by kernel_rfl) 40 #[v] hTw47.2.1 (.slice Aw47 (ts ++ [x]).length cw47) (by kernel_rfl) (by simp) (by kernel_rfl) rfl rfl ?_
        intro w48 hkw48 how48
        have trw48 := ex46.put hTw47 how47 hkw48.out how48
        refine hK.out _ _ trivial (fun _ => ?_)
        clear hK K
        try simp only [Act.put, List.setIfInBounds_toArray, List.set_cons_zero, List.set_cons_succ]
        refine wpAnyH_done (by kernel_rfl) ?_ _
        refine HQ1.out _ _ ?_
        clear HQ1 HQ2
        have HF := Lib.hid (HNX.out _ _ trw48)
        go_wp2_with fail
        go_roundw
        case rel => exact ⟨i + 1, _, by omega, by go_num, HF.out⟩
        case measure => simp [intOf]; omega
      · refine step_call (some 18) (by kernel_rfl) (by kernel_rfl) _ _ (by kernel_rfl) _ (HLOW.out _) ?_
        rintro e _ ⟨rfl, rfl⟩
        refine ⟨_, rfl, ?_⟩
        refine hK.out _ _ trivial (fun _ => ?_)
        clear hK K
        try simp only [Act.put, List.setIfInBounds_toArray, List.set_cons_zero, List.set_cons_succ]
        refine held_v 8 (some 19) rfl (by kernel_rfl) (by kernel_rfl) (by kernel_rfl) (by kernel_rfl) (fun c a v w h => HQ2.out c a _ v w h) (by kernel_rfl) (.int .i64 (q : Int)) (fun W h => by have p := e2.out; go_simp) trivial ?_
        try simp only [Act.put, List.setIfInBounds_toArray, List.set_cons_zero, List.set_cons_succ]
        refine wpAnyH_ready (rs := [1, 11]) (by kernel_rfl) (by decide) ?_
        refine AllReadyH.cons rfl (fun K hK => ?_) (AllReadyH.cons rfl (fun K hK => ?_) AllReadyH.nil)
        · refine step_v (some 12) (by kernel_rfl) (by kernel_rfl) (v) (by have p := HT0.cell; go_simp) ?_
          refine hK.out _ _ trivial (fun _ => ?_)
          clear hK K
          try simp only [Act.put, List.setIfInBounds_toArray, List.set_cons_zero, List.set_cons_succ]
          refine wpAnyH_ready (rs := [11]) (by kernel_rfl) (by decide) ?_
          refine AllReadyH.cons rfl (fun K hK => ?_) AllReadyH.nil
          refine step_call (some 22) (by kernel_rfl) (by kernel_rfl) _ _ (by kernel_rfl) _ (HSUM.out _ (HT0.rd HR.out)) ?_
          rintro e _ ⟨rfl, rfl⟩
          refine ⟨_, rfl, ?_⟩
          refine hK.out _ _ trivial (fun _ => ?_)
          clear hK K
          try simp only [Act.put, List.setIfInBounds_toArray, List.set_cons_zero, List.set_cons_succ]
          refine wpAnyH_ready (rs := [12]) (by kernel_rfl) (by decide) ?_
          refine AllReadyH.cons rfl (fun K hK => ?_) AllReadyH.nil
          refine step_build_u64 (some 23) (by kernel_rfl) (by kernel_rfl) (.tmp 22) rfl (x) (by kernel_rfl) ?_
          intro gr53 w52 hrw52 hbw52
          have ex54 := HT0.below hbw52
          refine hK.out _ _ trivial (fun _ => ?_)
          clear hK K
          try simp only [Act.put, List.setIfInBounds_toArray, List.set_cons_zero, List.set_cons_succ]
          refine wpAnyH_ready (rs := [13]) (by kernel_rfl) (by decide) ?_
          refine AllReadyH.cons rfl (fun K hK => ?_) AllReadyH.nil
          refine step_append_d w52 (some 24) rfl rfl (.tmp 12) (.tmp 23) 22 rfl w.heap.size 24 ti _ 8 .u64 Tryz.underlying22 hti hz0 hz1 hzb rfl (v) (ts) (by kernel_rfl) ex54.own w52.heap.size (some ⟨gr53, 0, none⟩) 1 1 [x] (by kernel_rfl) hrw52 (by have p := HLT.out; simp only [maxLen]; omega) (by have p := HLT.out; omega) ex54.size ?_
          intro vw55 w55 how55 hgw55 hatw55
          have hTw55 := ex54.grown hgw55
          obtain ⟨Aw55, cw55, rfl, -, -⟩ := how55.form
          refine hK.out _ _ trivial (fun _ => ?_)
          clear hK K
          try simp only [Act.put, List.setIfInBounds_toArray, List.set_cons_zero, List.set_cons_succ]
          refine held_v 14 (some 25) rfl (by kernel_rfl) (by kernel_rfl) (by kernel_rfl) (by kernel_rfl) (fun c a v w h => HQ2.out c a _ v w h) (by kernel_rfl) (.pointer (some ⟨g3, 0, none⟩)) (fun W h => by kernel_rfl) trivial ?_
          try simp only [Act.put, List.setIfInBounds_toArray, List.set_cons_zero, List.set_cons_succ]
          refine wpAnyH_ready (rs := [15]) (by kernel_rfl) (by decide) ?_
          refine AllReadyH.cons rfl (fun K hK => ?_) AllReadyH.nil
          refine step_store_cell none (by kernel_rfl) (by kernel_rfl) 22 (.tmp 25) (.tmp 24) rfl g3 0 (by kernel_rfl) 40 #[v] hTw55.2.1 (.slice Aw55 (ts ++ [x]).length cw55) (by kernel_rfl) (by simp) (by kernel_rfl) rfl rfl ?_
          intro w56 hkw56 how56
          have trw56 := ex54.put hTw55 how55 hkw56.out how56
          refine hK.out _ _ trivial (fun _ => ?_)
          clear hK K
          try simp only [Act.put, List.setIfInBounds_toArray, List.set_cons_zero, List.set_cons_succ]
          refine wpAnyH_done (by kernel_rfl) ?_ _
          refine HQ1.out _ _ ?_
          clear HQ1 HQ2
          have HF := Lib.hid (HNX.out _ _ trw56)
          go_wp2_with fail
          go_roundw
          case rel => exact ⟨i + 1, _, by omega, by go_num, HF.out⟩
          case measure => simp [intOf]; omega
        · refine step_call (some 22) (by kernel_rfl) (by kernel_rfl) _ _ (by kernel_rfl) _ (HSUM.out _ (HT0.rd HR.out)) ?_
          rintro e _ ⟨rfl, rfl⟩
          refine ⟨_, rfl, ?_⟩
          refine hK.out _ _ trivial (fun _ => ?_)
          clear hK K
          try simp only [Act.put, List.setIfInBounds_toArray, List.set_cons_zero, List.set_cons_succ]
          refine wpAnyH_ready (rs := [1, 12]) (by kernel_rfl) (by decide) ?_
          refine AllReadyH.cons rfl (fun K hK => ?_) (AllReadyH.cons rfl (fun K hK => ?_) AllReadyH.nil)
          · refine step_v (some 12) (by kernel_rfl) (by kernel_rfl) (v) (by have p := HT0.cell; go_simp) ?_
            refine hK.out _ _ trivial (fun _ => ?_)
            clear hK K
            try simp only [Act.put, List.setIfInBounds_toArray, List.set_cons_zero, List.set_cons_succ]
            refine wpAnyH_ready (rs := [12]) (by kernel_rfl) (by decide) ?_
            refine AllReadyH.cons rfl (fun K hK => ?_) AllReadyH.nil
            refine step_build_u64 (some 23) (by kernel_rfl) (by kernel_rfl) (.tmp 22) rfl (x) (by kernel_rfl) ?_
            intro gr60 w59 hrw59 hbw59
            have ex61 := HT0.below hbw59
            refine hK.out _ _ trivial (fun _ => ?_)
            clear hK K
            try simp only [Act.put, List.setIfInBounds_toArray, List.set_cons_zero, List.set_cons_succ]
            refine wpAnyH_ready (rs := [13]) (by kernel_rfl) (by decide) ?_
            refine AllReadyH.cons rfl (fun K hK => ?_) AllReadyH.nil
            refine step_append_d w59 (some 24) rfl rfl (.tmp 12) (.tmp 23) 22 rfl w.heap.size 24 ti _ 8 .u64 Tryz.underlying22 hti hz0 hz1 hzb rfl (v) (ts) (by kernel_rfl) ex61.own w59.heap.size (some ⟨gr60, 0, none⟩) 1 1 [x] (by kernel_rfl) hrw59 (by have p := HLT.out; simp only [maxLen]; omega) (by have p := HLT.out; omega) ex61.size ?_
            intro vw62 w62 how62 hgw62 hatw62
            have hTw62 := ex61.grown hgw62
            obtain ⟨Aw62, cw62, rfl, -, -⟩ := how62.form
            refine hK.out _ _ trivial (fun _ => ?_)
            clear hK K
            try simp only [Act.put, List.setIfInBounds_toArray, List.set_cons_zero, List.set_cons_succ]
            refine held_v 14 (some 25) rfl (by kernel_rfl) (by kernel_rfl) (by kernel_rfl) (by kernel_rfl) (fun c a v w h => HQ2.out c a _ v w h) (by kernel_rfl) (.pointer (some ⟨g3, 0, none⟩)) (fun W h => by kernel_rfl) trivial ?_
            try simp only [Act.put, List.setIfInBounds_toArray, List.set_cons_zero, List.set_cons_succ]
            refine wpAnyH_ready (rs := [15]) (by kernel_rfl) (by decide) ?_
            refine AllReadyH.cons rfl (fun K hK => ?_) AllReadyH.nil
            refine step_store_cell none (by kernel_rfl) (by kernel_rfl) 22 (.tmp 25) (.tmp 24) rfl g3 0 (by kernel_rfl) 40 #[v] hTw62.2.1 (.slice Aw62 (ts ++ [x]).length cw62) (by kernel_rfl) (by simp) (by kernel_rfl) rfl rfl ?_
            intro w63 hkw63 how63
            have trw63 := ex61.put hTw62 how62 hkw63.out how63
            refine hK.out _ _ trivial (fun _ => ?_)
            clear hK K
            try simp only [Act.put, List.setIfInBounds_toArray, List.set_cons_zero, List.set_cons_succ]
            refine wpAnyH_done (by kernel_rfl) ?_ _
            refine HQ1.out _ _ ?_
            clear HQ1 HQ2
            have HF := Lib.hid (HNX.out _ _ trw63)
            go_wp2_with fail
            go_roundw
            case rel => exact ⟨i + 1, _, by omega, by go_num, HF.out⟩
            case measure => simp [intOf]; omega
          · refine step_build_u64 (some 23) (by kernel_rfl) (by kernel_rfl) (.tmp 22) rfl (x) (by kernel_rfl) ?_
            intro gr65 w64 hrw64 hbw64
            have ex66 := HT0.below hbw64
            refine hK.out _ _ trivial (fun _ => ?_)
            clear hK K
            try simp only [Act.put, List.setIfInBounds_toArray, List.set_cons_zero, List.set_cons_succ]
            refine wpAnyH_ready (rs := [1]) (by kernel_rfl) (by decide) ?_
            refine AllReadyH.cons rfl (fun K hK => ?_) AllReadyH.nil
            refine step_v (some 12) (by kernel_rfl) (by kernel_rfl) (v) (by have p := ex66.cell; go_simp) ?_
            refine hK.out _ _ trivial (fun _ => ?_)
            clear hK K
            try simp only [Act.put, List.setIfInBounds_toArray, List.set_cons_zero, List.set_cons_succ]
            refine wpAnyH_ready (rs := [13]) (by kernel_rfl) (by decide) ?_
            refine AllReadyH.cons rfl (fun K hK => ?_) AllReadyH.nil
            refine step_append_d w64 (some 24) rfl rfl (.tmp 12) (.tmp 23) 22 rfl w.heap.size 24 ti _ 8 .u64 Tryz.underlying22 hti hz0 hz1 hzb rfl (v) (ts) (by kernel_rfl) ex66.own w64.heap.size (some ⟨gr65, 0, none⟩) 1 1 [x] (by kernel_rfl) hrw64 (by have p := HLT.out; simp only [maxLen]; omega) (by have p := HLT.out; omega) ex66.size ?_
            intro vw68 w68 how68 hgw68 hatw68
            have hTw68 := ex66.grown hgw68
            obtain ⟨Aw68, cw68, rfl, -, -⟩ := how68.form
            refine hK.out _ _ trivial (fun _ => ?_)
            clear hK K
            try simp only [Act.put, List.setIfInBounds_toArray, List.set_cons_zero, List.set_cons_succ]
            refine held_v 14 (some 25) rfl (by kernel_rfl) (by kernel_rfl) (by kernel_rfl) (by kernel_rfl) (fun c a v w h => HQ2.out c a _ v w h) (by kernel_rfl) (.pointer (some ⟨g3, 0, none⟩)) (fun W h => by kernel_rfl) trivial ?_
            try simp only [Act.put, List.setIfInBounds_toArray, List.set_cons_zero, List.set_cons_succ]
            refine wpAnyH_ready (rs := [15]) (by kernel_rfl) (by decide) ?_
            refine AllReadyH.cons rfl (fun K hK => ?_) AllReadyH.nil
            refine step_store_cell none (by kernel_rfl) (by kernel_rfl) 22 (.tmp 25) (.tmp 24) rfl g3 0 (by kernel_rfl) 40 #[v] hTw68.2.1 (.slice Aw68 (ts ++ [x]).length cw68) (by kernel_rfl) (by simp) (by kernel_rfl) rfl rfl ?_
            intro w69 hkw69 how69
            have trw69 := ex66.put hTw68 how68 hkw69.out how69
            refine hK.out _ _ trivial (fun _ => ?_)
            clear hK K
            try simp only [Act.put, List.setIfInBounds_toArray, List.set_cons_zero, List.set_cons_succ]
            refine wpAnyH_done (by kernel_rfl) ?_ _
            refine HQ1.out _ _ ?_
            clear HQ1 HQ2
            have HF := Lib.hid (HNX.out _ _ trw69)
            go_wp2_with fail
            go_roundw
            case rel => exact ⟨i + 1, _, by omega, by go_num, HF.out⟩
            case measure => simp [intOf]; omega
    · obtain rfl : i = n := by omega
      have ho := HT.own
      have HOT : Hid (∀ w9, (∀ j, j ≠ g2 → w9.heap[j]? = wr.heap[j]?) → OwnI w9 w.heap.size 24 .u64 v ((treeL l).take i)) := Lib.hid (fun w9 h => HT.own.other HT.b2 (by decide) h)
      obtain ⟨A', c', rfl, hc1, hc2⟩ := ho.form
      rw [HLN.out _ (Nat.le_refl _)] at hc1 HT HOT
      rw [HAL.out] at HOT
      clear ho
      go_wp2_with (first
        | (with_reducible refine at_any ?_; refine at_dst 26 rfl ?_; refine wpList_load_blk rfl 40 (.tmp 3) rfl g3 rfl 40 #[.slice A' i c'] HT.b3 _ Tryz.underlying40 rfl (sizedF _) ?_)
        | (with_reducible refine at_any ?_; refine at_store 2 rfl ?_; refine wpList_store_any rfl 40 (.tmp 2) (.tmp 26) rfl g2 rfl 40 #[.slice none 0 0] #[.slice A' i c'] HT.b2 rfl (size1 _ _) (sizedF _) (fen_ones _ _ _) ?_; intro w9 hk9 hs9 hb9 ho9; have HO9 := Lib.hid (HOT.out _ ho9); have HB9 := Lib.hid (HT.bel.trans (hb9 _ HT.le)))
        | (refine bodyPost_any 2 40 rfl g2 rfl 40 #[.slice A' i c'] hk9.out _ Tryz.underlying40 rfl (sizedF _) rfl ?_))
      exact HEND.out _ _ _ (OwnI.rd HO9.out (by rw [treeL_len]; exact hlen)) hc1 hc2 HB9.out
set_option maxHeartbeats 4000000 in
theorem r11build_c (l : List Int) (hz : ∀ z ∈ l, 0 ≤ z ∧ z < 18446744073709551616) (A : Option Addr) (n c : Nat) (hn : n ≤ maxLen) (w : World) (hrd : Rd .u64 w w.heap.size A n l) : Calls Tryz.prog 14 #[.slice A n c] w (RetFen w (bldL l) (bldE l)) := by
  have HR := Lib.hid hrd
  have hlen := hrd.len
  have hnm : (n : Int) ≤ 9223372036854775807 := by unfold maxLen at hn; omega
  have HTO := Lib.hid (fun W h => r9total_c l hz A n c hn W h)
  have HEMP : Hid (∀ er w', bldE l = er ∧ bldL l = [] → Below w.heap.size w w' → RetFen w (bldL l) (bldE l) (.returned (.tuple #[.agg #[.slice none 0 0], .int .i64 er])) w') := Lib.hid (fun er w' h hb => by rw [h.1, h.2]; exact ⟨none, 0, rfl, rd_nil _ _ _ _, Nat.le_refl _, by simp [maxLen], hb⟩)
  by_cases hm : 1048576 < n
  · have hm2 : (1048576 : Int) < (n : Int) := by omega
    have HE := Lib.hid (bldE_many (l := l) (by omega))
    clear hrd hz hm HTO hlen
    go_enter Tryz.func14, Tryz.ntmps14
    go_wp2_with (first
        | (with_reducible refine at_any ?_; refine at_dst 2 rfl ?_; refine wpList_alloc_any rfl 40 rfl #[.slice none 0 0] zero_fen ?_; intro w1 hk1 hs1 hb1; have HB1 := Lib.hid hb1)
        | (with_reducible refine at_any ?_; refine at_dst 9 rfl ?_; refine wpList_val rfl (.agg #[.slice none 0 0]) (build_fen0 _ rfl) ?_)
        | (with_reducible refine at_any ?_; refine at_store 2 rfl ?_; refine wpList_store_any rfl 40 (.tmp 2) (.tmp 9) rfl w.heap.size rfl 40 #[.slice none 0 0] #[.slice none 0 0] hk1.out rfl (size1 _ _) (sizedF _) (fen_ones _ _ _) ?_; intro w9 hk9 hs9 hb9 ho9; have HB9 := Lib.hid (HB1.out.trans (hb9 _ (Nat.le_refl _))))
        | (refine bodyPost_any2 2 3 40 rfl w.heap.size rfl (.int .i64 14) rfl 40 #[.slice none 0 0] hk9.out _ Tryz.underlying40 rfl (sizedF _) rfl ?_))
    exact HEMP.out _ _ HE.out HB9.out
  · have hm2 : (n : Int) ≤ 1048576 := by omega
    by_cases hs : sumL l < 9223372036854775808
    · obtain ⟨e1, e2⟩ := sumV_ok hs
      have HE := Lib.hid (bldE_ok (l := l) (by omega) hs)
      rw [e2] at HTO
      obtain ⟨x, hx⟩ : ∃ x, sumV l = x := ⟨_, rfl⟩
      rw [hx] at HTO
      have HTR := Lib.hid (fun W h => r11tree_c l (fun z h => (hz z h).1) hs A n c (by omega) W h)
      have HEND : Hid (∀ A' c' w', Rd .u64 w' w'.heap.size A' l.length (treeL l) → l.length ≤ c' → c' ≤ maxLen → Below w.heap.size w w' → RetFen w (bldL l) (bldE l) (.returned (.tuple #[.agg #[.slice A' l.length c'], .int .i64 0])) w') := Lib.hid (fun A' c' w' h1 h2 h3 h4 => by rw [HE.out.1, HE.out.2]; refine ⟨A', c', by rw [treeL_len], ?_⟩; rw [treeL_len]; exact ⟨h1, h2, h3, h4⟩)
      clear hrd hz hm hs e1 e2 hx HEMP HE hlen
      go_enter Tryz.func14, Tryz.ntmps14
      go_wp2_with (first
        | (with_reducible refine at_any ?_; refine at_dst 2 rfl ?_; refine wpList_alloc_any rfl 40 rfl #[.slice none 0 0] zero_fen ?_; intro w1 hk1 hs1 hb1; have HB1 := Lib.hid hb1)
        | (go_at_call 28; (with_reducible refine (HTO.out _ (HR1 HR.out HB1.out)).mono ?_); rintro e _ ⟨rfl, rfl⟩)
        | (go_at_call 18; (with_reducible refine (HTR.out _ (HR1 HR.out HB1.out)).mono ?_); rintro e w5 ⟨A5, c5, rfl, hr5, hc5, hm5, hb5⟩; have HK5 := Lib.hid (hk1.out.below hb5 hk1.out.lt); have HB5 := Lib.hid (HB1.out.trans (hb5.mono HB1.out.size)))
        | (with_reducible refine at_any ?_; refine at_store 2 rfl ?_; refine wpList_store_any rfl 40 (.tmp 2) (.tmp 19) rfl w.heap.size rfl 40 #[.slice none 0 0] #[.slice A5 l.length c5] HK5.out rfl (size1 _ _) (sizedF _) (fen_ones _ _ _) ?_; intro w9 hk9 hs9 hb9 ho9; have HB9 := Lib.hid (HB5.out.trans (hb9 _ (Nat.le_refl _))); have HR9 := Lib.hid (rd_past hr5 HK5.out hs9.out ho9))
        | (refine bodyPost_any2 2 3 40 rfl w.heap.size rfl (.int .i64 0) rfl 40 #[.slice A5 l.length c5] hk9.out _ Tryz.underlying40 rfl (sizedF _) rfl ?_))
      exact HEND.out _ _ _ HR9.out hc5 hm5 HB9.out
    · obtain ⟨e1, e2⟩ := sumV_no hs
      have HE := Lib.hid (bldE_big (l := l) (by omega) hs)
      rw [e1, e2] at HTO
      clear hrd hz hm hs e1 e2 hlen
      go_enter Tryz.func14, Tryz.ntmps14
      go_wp2_with (first
        | (with_reducible refine at_any ?_; refine at_dst 2 rfl ?_; refine wpList_alloc_any rfl 40 rfl #[.slice none 0 0] zero_fen ?_; intro w1 hk1 hs1 hb1; have HB1 := Lib.hid hb1)
        | (go_at_call 28; (with_reducible refine (HTO.out _ (HR1 HR.out HB1.out)).mono ?_); rintro e _ ⟨rfl, rfl⟩)
        | (with_reducible refine at_any ?_; refine at_dst 17 rfl ?_; refine wpList_val rfl (.agg #[.slice none 0 0]) (build_fen0 _ rfl) ?_)
        | (with_reducible refine at_any ?_; refine at_store 2 rfl ?_; refine wpList_store_any rfl 40 (.tmp 2) (.tmp 17) rfl w.heap.size rfl 40 #[.slice none 0 0] #[.slice none 0 0] hk1.out rfl (size1 _ _) (sizedF _) (fen_ones _ _ _) ?_; intro w9 hk9 hs9 hb9 ho9; have HB9 := Lib.hid (HB1.out.trans (hb9 _ (Nat.le_refl _))))
        | (refine bodyPost_any2 2 3 40 rfl w.heap.size rfl (.int .i64 11) rfl 40 #[.slice none 0 0] hk9.out _ Tryz.underlying40 rfl (sizedF _) rfl ?_))
      exact HEMP.out _ _ HE.out HB9.out
set_option maxHeartbeats 2000000 in
theorem r11same_c (xs ys : List Int) (A B : Option Addr) (n m c d : Nat) (hn : n ≤ maxLen) (hm : m ≤ maxLen) (w : World) (hra : Rd .u64 w w.heap.size A n xs) (hrb : Rd .u64 w w.heap.size B m ys) : Calls Tryz.prog 17 #[.agg #[.slice A n c], .agg #[.slice B m d]] w fun e w' => e = .returned (.bool (decide (xs = ys))) ∧ Below w.heap.size w w' := by
  have HA := Lib.hid hra
  have HB := Lib.hid hrb
  have HSA := Lib.hid (fun W h1 h2 => r9same_c xs ys A B n m c d hn hm W h1 h2)
  obtain ⟨bb, hbb⟩ : ∃ b, decide (xs = ys) = b := ⟨_, rfl⟩
  rw [hbb] at HSA ⊢
  clear hra hrb hbb
  go_enter Tryz.func17, Tryz.ntmps17
  go_wp2_with (first
    | (with_reducible refine at_any ?_; refine at_dst 2 rfl ?_; refine wpList_box_any rfl 40 (.tmp 0) rfl #[.slice A n c] rfl ?_; intro w1 hk1 hs1 hb1)
    | (with_reducible refine at_any ?_; refine at_dst 3 rfl ?_; refine wpList_box_any rfl 40 (.tmp 1) rfl #[.slice B m d] rfl ?_; intro w2 hk2 hs2 hb2; have HB2 := Lib.hid (hb1.trans (hb2.mono hb1.size)); have c1 := (hk1.out.below hb2 hk1.out.lt).cell 0; have c2 := hk2.out.cell 0; have f1 := (hk1.out.below hb2 hk1.out.lt).frozen 0; have f2 := hk2.out.frozen 0)
    | (go_at_call 37; (with_reducible refine (HSA.out _ (HR1 HA.out HB2.out) (HR1 HB.out HB2.out)).mono ?_); rintro e w5 ⟨rfl, hb5⟩; have HB5 := Lib.hid (HB2.out.trans (hb5.mono HB2.out.size))))
  go_ret
  exact ⟨rfl, HB5.out⟩
end
section
open Go.ChangeShapes Go.WideShapes Go.ChangeAt Go.RowKit

end
section
open Go.ChangeShapes Go.WideShapes Go.ChangeAt Go.RowKit

end
section
open Go.ChangeShapes Go.WideShapes Go.ChangeAt Go.RowKit
set_option maxHeartbeats 2000000 in
theorem r10same_c (xs ys : List Int) (A B : Option Addr) (n m c d : Nat) (hn : n ≤ maxLen) (hm : m ≤ maxLen) (w : World) (hra : Rd .u32 w w.heap.size A n xs) (hrb : Rd .u32 w w.heap.size B m ys) : Calls Tryz.prog 21 #[.slice A n c, .slice B m d] w fun e w' => e = .returned (.bool (decide (xs = ys))) ∧ Below w.heap.size w w' := by
  have HA := Lib.hid hra
  have HB := Lib.hid hrb
  have hla := hra.len
  have hlb := hrb.len
  have hnm : (n : Int) ≤ 9223372036854775807 := by unfold maxLen at hn; omega
  clear hra hrb hn hm
  by_cases hl : n = m
  · subst hl
    have t0 : ((n : Int) != (n : Int)) = false := by simp
    go_enter Tryz.func21, Tryz.ntmps21
    go_wp2
    go_loopw [5] (fun i wr => ∃ k : Nat, k ≤ n ∧ i = .int .i64 (k : Int) ∧ (∀ j, j < k → xs.getD j 0 = ys.getD j 0) ∧ Below w.heap.size w wr) (fun i _ => n - (intOf i).toNat)
    case atStart => exact ⟨0, by omega, rfl, fun j h => absurd h (by omega), Below.refl _ _⟩
    case round =>
      obtain ⟨k, hk, rfl, heq, hbl⟩ := hrel
      have HEQ := Lib.hid heq
      have HBL := Lib.hid hbl
      by_cases hlt : k < n
      · obtain ⟨b1, o1, rfl, _, hc1⟩ := (HA.out.below hbl).at_ (by omega)
        obtain ⟨b2, o2, rfl, _, hc2⟩ := (HB.out.below hbl).at_ (by omega)
        have hk1 := hc1 k hlt
        have hk2 := hc2 k hlt
        obtain ⟨x, hx⟩ : ∃ x, xs.getD k 0 = x := ⟨_, rfl⟩
        obtain ⟨y, hy⟩ : ∃ y, ys.getD k 0 = y := ⟨_, rfl⟩
        rw [hx] at hk1
        rw [hy] at hk2
        have i0 : (0 : Int) ≤ (k : Int) := by omega
        have i1 : (k : Int) < (n : Int) := by omega
        clear heq hbl hc1 hc2
        by_cases hxy : x = y
        · subst hxy
          have HK : ∀ j, j < k + 1 → xs.getD j 0 = ys.getD j 0 := fun j hj => by
            by_cases h : j = k
            · rw [h, hx, hy]
            · exact HEQ.out j (by omega)
          have HKK := Lib.hid HK
          have t1 : (x != x) = false := by simp
          clear hx hy HEQ HK
          go_wp2
          go_quiet (fail)
          go_wp2
          go_roundw
          case rel => exact ⟨k + 1, by omega, by go_num, HKK.out, HBL.out.trans (below_drewN (Below.refl _ _) _)⟩
          case measure => simp [intOf]; omega
        · have hne : ¬ xs = ys := fun h => hxy (by rw [← hx, ← hy, h])
          have t1 : (x != y) = true := by simp [bne, hxy]
          have HNE := Lib.hid hne
          clear hx hy HEQ hne
          go_wp2
          go_quiet (fail)
          go_wp2
          go_ret
          exact ⟨ret_boolN (decide_eq_false HNE.out).symm, below_drewN HBL.out _⟩
      · have hxy : xs = ys := ext_getDN (by omega) fun j hj => heq j (by omega)
        obtain rfl : k = n := by omega
        have HXY := Lib.hid hxy
        clear heq hbl hxy
        go_wp2
        go_ret
        exact ⟨ret_boolN (decide_eq_true HXY.out).symm, HBL.out⟩
  · have t0 : ((n : Int) != (m : Int)) = true := by simp [bne]; omega
    have hne : ¬ xs = ys := fun h => hl (by rw [← hla, ← hlb, h])
    have HNE := Lib.hid hne
    clear hne
    go_enter Tryz.func21, Tryz.ntmps21
    go_wp2
    go_ret
    exact ⟨ret_boolN (decide_eq_false HNE.out).symm, Below.refl _ _⟩
end
section
open Go.ChangeShapes Go.WideShapes Go.ChangeAt Go.RowKit
theorem DrS.from_ {w0 w1 w : World} {g3 g7 L : Nat} {V : Array Value} {A : Option Addr} {zs : List Int} (h : DrS w1 g3 g7 V A L zs w) (hb : Below w0.heap.size w0 w1) : DrS w0 g3 g7 V A L zs w :=
  ⟨h.blk, hb.trans (h.bel.mono hb.size), h.rd, h.apt3, h.apt7, Nat.le_trans hb.size h.le3, h.lt, h.lt7⟩
structure ComF (w0 : World) (g3 g7 gF : Nat) (V Z : Array Value) (A : Option Addr) (L : Nat) (zs : List Int) (AF : Option Addr) (n cF : Nat) (l : List Int) (ov : Value) (os : List Int) (w : World) : Prop where
  src : DrS w0 g3 g7 V A L zs w
  res : Blk w g7 28 Z
  tre : Blk w gF 40 #[.slice AF n cF]
  trd : Rd .u64 w w.heap.size AF n (treeL l)
  out : OwnI w w0.heap.size 3 .i64 ov os
  lef : w0.heap.size ≤ gF
  at3 : Apt n AF g3
  at7 : Apt n AF g7
  atF : Apt n AF gF
  aF : Apt L A gF
  ao : ∀ g, ov.ownBlock = some g → Apt L A g
  ato : ∀ g, ov.ownBlock = some g → Apt n AF g
structure NxtF (w0 : World) (g3 g7 gF g13 : Nat) (V2 : Array Value) (A2 : Option Addr) (L : Nat) (zs : List Int) (ov : Value) (w : World) : Prop where
  hand : DrH w0 g7 g13 V2 A2 L zs w
  ap3 : Apt L A2 g3
  apF : Apt L A2 gF
  apo : ∀ g, ov.ownBlock = some g → Apt L A2 g
section
variable {w0 w w' w5 w6 w7 : World} {g3 g7 gF g13 n cF cF' L k : Nat} {V V2 Z : Array Value} {A A2 AF AF' : Option Addr} {zs l l' os : List Int} {ov ov' : Value} {z : Int}
theorem blk_ne {t t' : TypeId} {cs cs' : Array Value} {g g' : Nat} (h : Blk w g t cs) (h' : Blk w g' t' cs') (hne : t ≠ t') : g ≠ g' := by
  rintro rfl
  unfold Blk at h h'
  rw [h] at h'
  injection h' with h'
  injection h' with _ h5
  exact hne h5
theorem Rd.other_ {kd : IntKind} {m r : Nat} {B : Option Addr} {ys : List Int} (h : Rd kd w w.heap.size B m ys) (ha : Apt m B r) (hs : w'.heap.size = w.heap.size) (ho : ∀ j, j ≠ r → w'.heap[j]? = w.heap[j]?) : Rd kd w' w'.heap.size B m ys := by
  have h1 := Rd.other h ho ha
  rw [hs]
  exact h1
theorem ComF.below (h : ComF w0 g3 g7 gF V Z A L zs AF n cF l ov os w) (hb : Below w.heap.size w w') : ComF w0 g3 g7 gF V Z A L zs AF n cF l ov os w' :=
  ⟨h.src.below hb, h.res.below hb h.res.lt, h.tre.below hb h.tre.lt, (h.trd.below hb).mono hb.size, h.out.below hb, h.lef, h.at3, h.at7, h.atF, h.aF, h.ao, h.ato⟩
theorem ComF.drew (h : ComF w0 g3 g7 gF V Z A L zs AF n cF l ov os w) : ComF w0 g3 g7 gF V Z A L zs AF n cF l ov os w.drew := h.below (Below.refl _ _).drew
theorem NxtF.below (h : NxtF w0 g3 g7 gF g13 V2 A2 L zs ov w) (hb : Below w.heap.size w w') : NxtF w0 g3 g7 gF g13 V2 A2 L zs ov w' := ⟨h.hand.below hb, h.ap3, h.apF, h.apo⟩
theorem NxtF.drew (h : NxtF w0 g3 g7 gF g13 V2 A2 L zs ov w) : NxtF w0 g3 g7 gF g13 V2 A2 L zs ov w.drew := h.below (Below.refl _ _).drew
theorem ComF.fx (h : ComF w0 g3 g7 gF V Z A L zs AF n cF l ov os w) : Fx [.blk g7 28 Z] w := ⟨h.res, trivial⟩
theorem ComF.size (h : ComF w0 g3 g7 gF V Z A L zs AF n cF l ov os w) : w0.heap.size ≤ w.heap.size := h.src.bel.size
theorem ComF.nf3 (h : ComF w0 g3 g7 gF V Z A L zs AF n cF l ov os w) : gF ≠ g3 := blk_ne h.tre h.src.blk (by decide)
theorem ComF.nf7 (h : ComF w0 g3 g7 gF V Z A L zs AF n cF l ov os w) : gF ≠ g7 := blk_ne h.tre h.res (by decide)
theorem ComF.took (h : ComF w0 g3 g7 gF V Z A L zs AF n cF l ov os w) (hr : Rd .u8 w5 w5.heap.size A2 L zs) (hsp : Sep w A A2) (hb5 : Below w.heap.size w w5) (hb6 : Below w5.heap.size w5 w6) (hk6 : Blk w6 w5.heap.size 28 Z) (hk7 : Blk w7 w5.heap.size 28 V2) (hs7 : w7.heap.size = w6.heap.size) (hb7 : ∀ B, B ≤ w5.heap.size → Below B w6 w7) (ho7 : ∀ j, j ≠ w5.heap.size → w7.heap[j]? = w6.heap[j]?) :
    ComF w0 g3 g7 gF V Z A L zs AF n cF l ov os w7 ∧ NxtF w0 g3 g7 gF w5.heap.size V2 A2 L zs ov w7 := by
  obtain ⟨t1, t2, t3, t4, t5, t6⟩ := h.src.took h.fx hr hsp hb5 hb6 hk6 hk7 hs7 hb7 ho7
  have h5 := h.below hb5
  have h6 := h5.below hb6
  have z5 := hb5.size
  exact ⟨⟨t1, t2.1, Blk.other h6.tre ho7 (Nat.ne_of_lt (h5.tre.lt)), Rd.other_ h6.trd (Apt.of_lt h5.trd (Nat.le_refl _)) hs7 ho7, OwnI.other h6.out hk6 (by decide) ho7, h.lef, h.at3, h.at7, h.atF, h.aF, h.ao, h.ato⟩,
    ⟨t6, t4, Apt.of_sep hsp h.aF h.tre.lt, fun g hg => Apt.of_sep hsp (h.ao g hg) (h.out.lt g hg)⟩⟩
theorem ComF.app (h : ComF w0 g3 g7 gF V Z A L zs AF n cF l ov os w) (ho : OwnI w' w0.heap.size 3 .i64 ov' (os ++ [z])) (hg : w.grownBy w' ov.ownBlock) (hat : ov'.ownBlock = ov.ownBlock ∨ ov'.ownBlock = some w.heap.size) : ComF w0 g3 g7 gF V Z A L zs AF n cF l ov' (os ++ [z]) w' := by
  have hbel : Below w0.heap.size w0 w' := h.out.below_ h.src.bel h.size hg
  have hapt : Apart L A ov := fun b off hn hA hb => h.ao b hb b off hn hA rfl
  have hapF : Apart n AF ov := fun b off hn hA hb => h.ato b hb b off hn hA rfl
  have hrd : RdP A L zs w' := (Rd.grownA h.src.rd.rd hapt (Nat.le_refl _) hg).mono hg.size
  have hs : DrS w0 g3 g7 V A L zs w' := ⟨h.src.blk.grown h.out (by decide) hg, hbel, hrd, h.src.apt3, h.src.apt7, h.src.le3, h.src.lt, by have := h.src.lt7; have := hg.size; omega⟩
  refine ⟨hs, h.res.grown h.out (by decide) hg, h.tre.grown h.out (by decide) hg, (Rd.grownA h.trd hapF (Nat.le_refl _) hg).mono hg.size, ho, h.lef, h.at3, h.at7, h.atF, h.aF, fun g he => ?_, fun g he => ?_⟩
  · rcases hat with e | e
    · exact h.ao g (by rw [← e]; exact he)
    · rw [he] at e
      injection e with e
      subst e
      exact Apt.of_lt h.src.rd.rd (Nat.le_refl _)
  · rcases hat with e | e
    · exact h.ato g (by rw [← e]; exact he)
    · rw [he] at e
      injection e with e
      subst e
      exact Apt.of_lt h.trd (Nat.le_refl _)
theorem NxtF.app (h : NxtF w0 g3 g7 gF g13 V2 A2 L zs ov w) (hown : OwnI w w0.heap.size 3 .i64 ov os) (hg : w.grownBy w' ov.ownBlock) (hat : ov'.ownBlock = ov.ownBlock ∨ ov'.ownBlock = some w.heap.size) : NxtF w0 g3 g7 gF g13 V2 A2 L zs ov' w' := by
  have hapt : Apart L A2 ov := fun b off hn hA hb => h.apo b hb b off hn hA rfl
  have hrd : RdP A2 L zs w' := (Rd.grownA h.hand.rd.rd hapt (Nat.le_refl _) hg).mono hg.size
  refine ⟨⟨h.hand.blk.grown hown (by decide) hg, hown.below_ h.hand.bel h.hand.bel.size hg, hrd, h.hand.apt, h.hand.ne, h.hand.le⟩, h.ap3, h.apF, fun g he => ?_⟩
  rcases hat with e | e
  · exact h.apo g (by rw [← e]; exact he)
  · rw [he] at e
    injection e with e
    subst e
    exact Apt.of_lt h.hand.rd.rd (Nat.le_refl _)
theorem ComF.put (h : ComF w0 g3 g7 gF V Z A L zs AF n cF l ov os w) (hn : NxtF w0 g3 g7 gF g13 V2 A2 L zs ov w) (hk : Blk w' g3 28 V2) (hs : w'.heap.size = w.heap.size) (hb : ∀ B, B ≤ g3 → Below B w w') (ho : ∀ j, j ≠ g3 → w'.heap[j]? = w.heap[j]?) : ComF w0 g3 g7 gF V2 Z A2 L zs AF n cF l ov os w' :=
  ⟨h.src.put3 hn.hand.rd hn.ap3 hn.hand.apt hk hs hb ho, Blk.other h.res ho (Nat.ne_of_gt h.src.lt), Blk.other h.tre ho h.nf3, Rd.other_ h.trd h.at3 hs ho, OwnI.other h.out h.src.blk (by decide) ho, h.lef, h.at3, h.at7, h.atF, hn.apF, hn.apo, h.ato⟩
theorem ComF.setf (h : ComF w0 g3 g7 gF V Z A L zs AF n cF l ov os w) (hr : Rd .u64 w5 w5.heap.size AF' n (treeL l')) (hf : ∀ b off, AF' = some ⟨b, off, none⟩ → w.heap.size ≤ b) (hb5 : Below w.heap.size w w5) (hk : Blk w' gF 40 #[.slice AF' n cF']) (hs : w'.heap.size = w5.heap.size) (hb : ∀ B, B ≤ gF → Below B w5 w') (ho : ∀ j, j ≠ gF → w'.heap[j]? = w5.heap[j]?) : ComF w0 g3 g7 gF V Z A L zs AF' n cF' l' ov os w' := by
  have h5 := h.below hb5
  have fr : ∀ g, g < w.heap.size → Apt n AF' g := fun g hg b off _ e => by have := hf b off e; omega
  exact ⟨h5.src.store h5.tre ⟨fun e => h.nf3 e.symm, h.aF, h.lef⟩ hs hb ho, Blk.other h5.res ho (fun e => h.nf7 e.symm), hk, Rd.other_ hr (fr gF h.tre.lt) hs ho, OwnI.other h5.out h5.tre (by decide) ho, h.lef, fr _ h.src.lt3, fr _ h.src.lt7, fr _ h.tre.lt, h.aF, h.ao, fun g hg => fr g (h.out.lt g hg)⟩
end
theorem exec_bldI {o : Oper} {a : Act} {w : World} (p : Operand) (x : Int) (ho : o.op = .buildSlice 31 1 #[(0, p)]) (hp : a.eval p = .int .i64 x) :
    (execOp a.eval o).run Tryz.prog w = .ok (.value (.slice (some ⟨w.heap.size, 0, none⟩) 1 1)) (w.alloc (.cells #[.int .i64 x] 3)) := by
  have hr1 : (Instr.buildSlice 31 1 #[(0, .int .i64 x)]).run Tryz.prog w = .ok (.slice (some ⟨w.heap.size, 0, none⟩) 1 1) (w.alloc (.cells #[.int .i64 x] 3)) := by go_simp
  unfold execOp
  simp only [ho, List.map_toArray, List.map_cons, List.map_nil, hp]
  change ((Instr.buildSlice 31 1 #[(0, .int .i64 x)]) >>= fun v => pure (Next.value v)).run Tryz.prog w = _
  simp only [Sem.run_bind, hr1, Result.andThen_ok, Sem.run_pure]
theorem step_bldI {ops : Array Oper} {o : Oper} {a : Act} {w : World} {K : Act → World → Prop} {Q : Exit → Act → World → Prop} {E : Prop} (d : Option Tmp) (hd : o.dst = d) (hw : Region.wanted o (yielded ops a.tmps) = true) (p : Operand) (ho : o.op = .buildSlice 31 1 #[(0, p)])
    (x : Int) (hp : a.eval p = .int .i64 x) (h : ∀ g w', Rd .i64 w' w'.heap.size (some ⟨g, 0, none⟩) 1 [x] → Below w.heap.size w w' → K (a.put d (.slice (some ⟨g, 0, none⟩) 1 1)) w') :
    if Region.wanted o (yielded ops a.tmps) = true then Oper.wp Tryz.prog o a w K Q else E := by
  subst hd
  rw [if_pos hw]
  have he := exec_bldI (w := w) p x ho hp
  unfold Oper.wp
  rw [he]
  exact h _ _ (rdi_one w _ x) ((Below.refl _ _).alloc (Nat.le_refl _) _)
end
section
open Go.ChangeShapes Go.WideShapes Go.ChangeAt Go.RowKit
def tzTab : List Int := Lib.deBruijn64tab.map fun (n : Nat) => (n : Int)
def TzT (w : World) : Prop := Lib.TabIs Tryz.prog w "math/bits.deBruijn64tab" .u8 tzTab
theorem TzT.below {w w' : World} (h : TzT w) (hb : Below w.heap.size w w') : TzT w' := by
  unfold TzT Lib.TabIs World.var? at *
  cases hg : Tryz.prog.globalNamed "math/bits.deBruijn64tab" with
  | none => simp [hg] at h
  | some g =>
    simp only [hg, Option.bind_some] at h ⊢
    have hlt : g < w.heap.size := by
      rcases Nat.lt_or_ge g w.heap.size with h' | h'
      · exact h'
      · rw [Array.getElem?_eq_none h'] at h; simp at h
    rw [hb.block g hlt]
    exact h
theorem TzT.alloc {w : World} (h : TzT w) (o : Obj) : TzT (w.alloc o) := h.below ((Below.refl _ _).alloc (Nat.le_refl _) o)
theorem TzT.drew {w : World} (h : TzT w) : TzT w.drew := h
theorem gTz : Tryz.prog.globalNamed "math/bits.deBruijn64tab" = some 1 := by kernel_rfl
theorem tTz : (Tryz.prog.globals[1]?).map (·.type) = some 137 := by kernel_rfl
end
section
open Go.ChangeShapes Go.WideShapes Go.ChangeAt Go.RowKit
def KstC (w : World) : Prop := 2 < w.heap.size ∧ ∀ j, j < 64 → w.cell? ⟨2, j, none⟩ = some (.int .u32 (constL.getD j 0))
theorem KstC.below {w w' : World} (h : KstC w) (hb : Below w.heap.size w w') : KstC w' :=
  ⟨Nat.lt_of_lt_of_le h.1 hb.size, fun j hj => by rw [hb.cell (p := ⟨2, j, none⟩) h.1]; exact h.2 j hj⟩
def Kst (w : World) : Prop := KstC w ∧ TzT w
theorem Kst.of {w : World} (h : KstC w) (h2 : TzT w) : Kst w := ⟨h, h2⟩
theorem Kst.tz {w : World} (h : Kst w) : TzT w := h.2
theorem Kst.c {w : World} (h : Kst w) : KstC w := h.1
theorem Kst.below {w w' : World} (h : Kst w) (hb : Below w.heap.size w w') : Kst w' := ⟨h.1.below hb, h.2.below hb⟩
theorem Kst.at_ {w : World} (h : Kst w) : ∀ j, j < 64 → w.cell? ⟨2, j, none⟩ = some (.int .u32 (constL.getD j 0)) := h.c.2
theorem Kst.alloc {w : World} (h : Kst w) (o : Obj) : Kst (w.alloc o) := h.below ((Below.refl _ _).alloc (Nat.le_refl _) o)
theorem Kst.drew {w : World} (h : Kst w) : Kst w.drew := h
abbrev laidK : List (String × DataW Unit) := [("drawlot/comp.constants", Rows.laid_drawlot_comp_constants), ("math/bits.deBruijn32tab", Rows.laid_math_bits_deBruijn32tab), ("math/bits.deBruijn64tab", Rows.laid_math_bits_deBruijn64tab)]
abbrev kindsK : List LaidKind := [.data, .data, .data]
theorem laidTzK : (Rows.laid_math_bits_deBruijn64tab : DataW Unit) = Lib.tabData .u8 tzTab := by kernel_rfl
theorem gConsts : Tryz.prog.globalNamed "drawlot/comp.constants" = some 2 := by kernel_rfl
theorem tConsts : (Tryz.prog.globals[2]?).map (·.type) = some 179 := by kernel_rfl
theorem laidD : (Rows.laid_drawlot_comp_constants : DataW Unit) = .agg (constL.map fun z => .lit (.int .u32 z)) := by kernel_rfl
theorem trod_arr_ints {H : Type} {enc : TypeId × Value → H} {P : Program} {w : World} {base n fuel : Nat} {spare : TypeId → Bool} {held : Bool} {t e : TypeId} {q : IntKind} {cs : Array Value} {ys : List Int} {p : List MemPlace} (ht : P.underlying t = some (.array n e)) (he : P.underlying e = some (.int q)) (hc : P.cellsOf e = 1) (hC : P.cellsOf t = n)
    (hf : DataW.trod enc P w base spare held fuel t cs.toList = some (.agg (ys.map fun z => .lit (.int q z)), p)) : ∀ i, i < n → cs[i]? = some (.int q (ys.getD i 0)) := by
  obtain ⟨xs, m, _, hx, hl, hxl, hat⟩ := DataW.trod_array ht hf
  rw [hC] at hl
  rw [hc] at hat
  have hl' : cs.size = n := by simpa using hl
  have hd := congrArg Prod.fst hx
  simp only [DataW.agg.injEq] at hd
  intro i hi
  have h1 := hat i hi
  have e1 : List.take 1 (List.drop (i * 1) cs.toList) = [cs[i]'(by omega)] := by
    simp only [Nat.mul_one]
    rw [List.drop_eq_getElem_cons (by simpa using (show i < cs.size by omega))]
    simp
  rw [e1] at h1
  have hxi : xs[i]? = some (xs[i]'(by omega)) := List.getElem?_eq_getElem (by omega)
  rw [hxi] at h1
  obtain ⟨a, ea, ex, wa⟩ := DataW.trod_int he h1
  have h2 := congrArg (fun l => l[i]?) hd
  simp only [List.getElem?_map, hxi, Option.map_some, ex] at h2
  have h3 : ys[i]? = some a := by
    cases hy : ys[i]? with
    | none => rw [hy] at h2; cases h2
    | some y => rw [hy] at h2; simp only [Option.map_some, Option.some.injEq, DataW.lit.injEq, Lit.int.injEq, true_and] at h2; rw [h2]
  rw [Array.getElem?_eq_getElem (by omega), List.getD_eq_getElem?_getD, h3]
  simpa using ea
theorem kst_of_laid {W : World} (h : laidMetH Tryz.prog laidK W) : Kst W := by
  rw [MakeChecks.laidMetH_plain _ _ _ (by kernel_rfl)] at h
  obtain ⟨ps, ⟨g0, t0, cs0, f0, p0, q0, hg0, ht0, hv0, hd0, ⟨_, _, _, _, _, _, _, _, _, _, ⟨g1, t1, cs1, f1, p1, q1, hg1, ht1, hv1, hd1, _⟩, _⟩, _⟩, _⟩ := h
  obtain rfl := Option.some.inj (gConsts.symm.trans hg0)
  obtain rfl := Option.some.inj (tConsts.symm.trans ht0)
  rw [laidD] at hd0
  have hz := trod_arr_ints Tryz.underlying179 Tryz.underlying62 (by kernel_rfl) (by kernel_rfl) hd0
  have hc : ∀ j, j < 64 → W.cell? ⟨2, j, none⟩ = some (.int .u32 (constL.getD j 0)) := fun j hj => (World.var?_cell hg0 hv0 j).trans (hz j hj)
  have hC : KstC W := by
    refine ⟨?_, hc⟩
    have h0 := hc 0 (by decide)
    by_cases hlt : 2 < W.heap.size
    · exact hlt
    · exfalso
      simp only [World.cell?, Array.getElem?_eq_none (Nat.le_of_not_lt hlt)] at h0
      cases h0
  obtain rfl := Option.some.inj (gTz.symm.trans hg1)
  obtain rfl := Option.some.inj (tTz.symm.trans ht1)
  rw [laidTzK] at hd1
  refine Kst.of hC ?_
  unfold TzT Lib.TabIs
  rw [hv1, ← Lib.cells_of_tab Tryz.underlying137 Tryz.underlying5 (by kernel_rfl) (by kernel_rfl) hd1]
theorem door_met (os : Os) (args : Array Value) : laidMetH Tryz.prog laidK ((World.doorLaid Tryz.prog 400 os).forCall (fun _ _ => 0) ⟨#[], args, []⟩).memory :=
  laidMetH_of_parts3 (fuel := 8) (laidMet_of_run' 8 (by kernel_rfl) (by kernel_rfl)) (by kernel_rfl) (by kernel_rfl)
end
section
open Go.ChangeShapes Go.WideShapes Go.ChangeAt Go.RowKit
theorem q8need_c (n : Int) (n0 : 0 ≤ n) (n1 : n < 18446744073709551616) (w : World) : Calls Tryz.prog 78 #[.int .u64 n] w fun e w' => e = .returned (.int .i64 (needN n : Nat)) ∧ w = w' := by
  by_cases h : n = 0
  · subst h
    go_enter Tryz.func78, Tryz.ntmps78
    go_wp2
    go_ret
    exact ⟨rfl, rfl⟩
  · have HB := Lib.hid (fun W => bits_i (n - 1) (by omega) (by omega) W)
    have hR : needN n = Wd.bitsL (n - 1).toNat := by unfold needN; rw [if_neg h]
    rw [hR]
    obtain ⟨B, hB⟩ : ∃ B, Wd.bitsL (n - 1).toNat = B := ⟨_, rfl⟩
    rw [hB] at HB ⊢
    have t1 : (n == 0) = false := by rw [beq_eq_false_iff_ne]; exact h
    have e1 : IntKind.u64.wrap (n - 1) = n - 1 := by rw [IntKind.wrap_u64]; omega
    clear h hR hB
    go_enter Tryz.func78, Tryz.ntmps78
    go_wp2_with (go_at_call 95; (with_reducible refine (HB.out _).mono ?_); rintro e _ ⟨rfl, rfl⟩)
    go_ret
    exact ⟨rfl, rfl⟩
end
section
open Go.ChangeShapes Go.WideShapes Go.ChangeAt Go.RowKit
theorem pfirst_c (x : Int) (h0 : 0 ≤ x) (h1 : x < 4294967296) (w : World) :
    Calls Tryz.prog 155 #[.int .u32 x] w fun e w' => e = .returned (.int .u32 (mix1 x)) ∧ w = w' := by
  unfold mix1
  go_enter Tryz.func155, Tryz.ntmps155
  go_wp2_with (first
    | (go_at_call 158; (with_reducible refine (rotate_c _ _ (by omega) (by omega) (by omega) (by omega) _).mono ?_); rintro e _ ⟨rfl, rfl⟩)
    | (go_at_call 159; (with_reducible refine (right_c _ _ (by omega) (by omega) (by omega) (by omega) _).mono ?_); rintro e _ ⟨rfl, rfl⟩))
  go_ret
  exact ⟨rfl, rfl⟩
theorem psecond_c (x : Int) (h0 : 0 ≤ x) (h1 : x < 4294967296) (w : World) :
    Calls Tryz.prog 154 #[.int .u32 x] w fun e w' => e = .returned (.int .u32 (mix2 x)) ∧ w = w' := by
  unfold mix2
  go_enter Tryz.func154, Tryz.ntmps154
  go_wp2_with (first
    | (go_at_call 158; (with_reducible refine (rotate_c _ _ (by omega) (by omega) (by omega) (by omega) _).mono ?_); rintro e _ ⟨rfl, rfl⟩)
    | (go_at_call 159; (with_reducible refine (right_c _ _ (by omega) (by omega) (by omega) (by omega) _).mono ?_); rintro e _ ⟨rfl, rfl⟩))
  go_ret
  exact ⟨rfl, rfl⟩
set_option maxHeartbeats 1000000 in
theorem pof_c (b : List Int) (hl : b.length = 64) (hb : ∀ z ∈ b, 0 ≤ z ∧ z < 256) (w : World) :
    Calls Tryz.prog 149 #[.agg (intsA .u8 b)] w fun e w' => e = .returned (.agg (intsA .u32 (planL b))) ∧ Below w.heap.size w w' := by
  go_enter Tryz.func149, Tryz.ntmps149
  go_wp2_with (first
    | (with_reducible refine at_any ?_; refine at_dst 1 rfl ?_; refine wpList_box_ints rfl 137 (.tmp 0) rfl .u8 b rfl ?_; intro w1 hk1 hs1 hb1)
    | (with_reducible refine at_any ?_; refine at_dst 2 rfl ?_; refine wpList_alloc_ints rfl 180 rfl .u32 (List.replicate 64 0) zero_plan ?_; intro w2 hk2 hs2 hb2)
    | (with_reducible refine at_any ?_; refine at_dst 3 rfl ?_; refine wpList_alloc_ints rfl 180 rfl .u32 (List.replicate 64 0) zero_plan ?_; intro w3 hk3 hs3 hb3))
  have HI : In3 w w.heap.size w1.heap.size w2.heap.size 137 180 180 .u8 .u32 .u32 b (List.replicate 64 0) (planF b 0) w3 := by
    rw [planF_zero]
    have q1 := hs1.out
    have q2 := hs2.out
    have q3 := hs3.out
    exact ⟨(hk1.out.below hb2 (by omega)).below hb3 (by omega), hk2.out.below hb3 (by omega), hk3.out, hb1.trans ((hb2.mono (by omega)).trans (hb3.mono (by omega))), by omega, by omega, by omega⟩
  obtain ⟨g1, hg1⟩ : ∃ g, w.heap.size = g := ⟨_, rfl⟩
  obtain ⟨g2, hg2⟩ : ∃ g, w1.heap.size = g := ⟨_, rfl⟩
  obtain ⟨g3, hg3⟩ : ∃ g, w2.heap.size = g := ⟨_, rfl⟩
  have HG2 := Lib.hid (show w.heap.size ≤ g2 by have := hb1.size; omega)
  rw [hg1, hg2, hg3] at HI
  rw [hg1, hg2, hg3]
  clear hk1 hs1 hb1 hk2 hs2 hb2 hk3 hs3 hb3
  go_loopw [7] (fun v wr => ∃ i : Nat, i ≤ 16 ∧ v = .int .i64 i ∧ In3 w g1 g2 g3 137 180 180 .u8 .u32 .u32 b (List.replicate 64 0) (planF b i) wr) (fun v _ => 16 - (intOf v).toNat)
  case atStart => exact ⟨0, by omega, rfl, HI⟩
  case round =>
    clear HI
    obtain ⟨i, hi, rfl, HI⟩ := hrel
    by_cases hlt : i < 16
    · have hpl := planF_len b i (by omega)
      have HW := HI.open_ (i := i) (by omega)
      have hset := fun v hv => planF_set b i (by omega) v hv
      obtain ⟨m, hm⟩ : ∃ m, 4 * i = m := ⟨_, rfl⟩
      obtain ⟨m1, hm1⟩ : ∃ m1, 4 * i + 1 = m1 := ⟨_, rfl⟩
      obtain ⟨m2, hm2⟩ : ∃ m2, 4 * i + 2 = m2 := ⟨_, rfl⟩
      obtain ⟨m3, hm3⟩ : ∃ m3, 4 * i + 3 = m3 := ⟨_, rfl⟩
      have c0 := HW.cell1 (j := m) (by omega)
      have c1 := HW.cell1 (j := m1) (by omega)
      have c2 := HW.cell1 (j := m2) (by omega)
      have c3 := HW.cell1 (j := m3) (by omega)
      have hg : ∀ j, j < 64 → 0 ≤ b.getD j 0 ∧ b.getD j 0 < 256 := by
        intro j hj
        have h : j < b.length := by omega
        simp [h]; exact hb _ (List.getElem_mem h)
      have r0 := hg m (by omega)
      have r1 := hg m1 (by omega)
      have r2 := hg m2 (by omega)
      have r3 := hg m3 (by omega)
      have hv : word4 b i = Wd.get4 (b.getD m 0) (b.getD m1 0) (b.getD m2 0) (b.getD m3 0) := by unfold word4; rw [hm1, hm2, hm3, hm]
      have hsv := hset (word4 b i) (by rw [if_pos hlt])
      have HK : ∀ w', In3W w g1 g2 g3 137 180 180 .u8 .u32 .u32 b (List.replicate 64 0) (planF b i) i w' → w'.cell? ⟨g1, m, none⟩ = some (.int .u8 (b.getD m 0)) ∧ w'.cell? ⟨g1, m1, none⟩ = some (.int .u8 (b.getD m1 0)) ∧ w'.cell? ⟨g1, m2, none⟩ = some (.int .u8 (b.getD m2 0)) ∧ w'.cell? ⟨g1, m3, none⟩ = some (.int .u8 (b.getD m3 0)) ∧ In3W w g1 g2 g3 137 180 180 .u8 .u32 .u32 b (List.replicate 64 0) (planF b i) i w' :=
        fun w' h => ⟨h.cell1 (by omega), h.cell1 (by omega), h.cell1 (by omega), h.cell1 (by omega), h⟩
      have HA : ∀ w', In3W w g1 g2 g3 137 180 180 .u8 .u32 .u32 b (List.replicate 64 0) (planF b i) i w' → (∃ u, w'.cell? ⟨g3, i, none⟩ = some (.int .u32 u)) ∧ w'.frozen? ⟨g3, i, none⟩ = false := fun w' h => h.at_ (by omega)
      obtain ⟨a0, ha0⟩ : ∃ a, b.getD m 0 = a := ⟨_, rfl⟩
      obtain ⟨a1, ha1⟩ : ∃ a, b.getD m1 0 = a := ⟨_, rfl⟩
      obtain ⟨a2, ha2⟩ : ∃ a, b.getD m2 0 = a := ⟨_, rfl⟩
      obtain ⟨a3, ha3⟩ : ∃ a, b.getD m3 0 = a := ⟨_, rfl⟩
      rw [ha0, ha1, ha2, ha3] at HK hv
      rw [ha0] at c0 r0
      rw [ha1] at c1 r1
      rw [ha2] at c2 r2
      rw [ha3] at c3 r3
      rw [hv] at hsv
      have HK' := Lib.hid HK
      have HA' := Lib.hid HA
      have HSV := Lib.hid hsv
      have e0 : IntKind.i64.wrap (4 * (i : Int)) = (m : Int) := by rw [IntWalk.i64_in _ (by omega)]; omega
      have e1 : IntKind.i64.wrap ((m : Int) + 1) = (m1 : Int) := by rw [IntWalk.i64_in _ (by omega)]; omega
      have e2 : IntKind.i64.wrap ((m : Int) + 2) = (m2 : Int) := by rw [IntWalk.i64_in _ (by omega)]; omega
      have e3 : IntKind.i64.wrap ((m : Int) + 3) = (m3 : Int) := by rw [IntWalk.i64_in _ (by omega)]; omega
      have q0 : (0 : Int) ≤ (m : Int) ∧ (m : Int) < 64 := by omega
      have q1 : (0 : Int) ≤ (m1 : Int) ∧ (m1 : Int) < 64 := by omega
      have q2 : (0 : Int) ≤ (m2 : Int) ∧ (m2 : Int) < 64 := by omega
      have q3 : (0 : Int) ≤ (m3 : Int) ∧ (m3 : Int) < 64 := by omega
      have q4 : (0 : Int) ≤ (i : Int) ∧ (i : Int) < 64 := by omega
      obtain ⟨⟨u0, hu0⟩, hf0⟩ := HA _ HW
      clear hset HK HA hg ha0 ha1 ha2 ha3 hm hm1 hm2 hm3 hv hsv hpl HI
      have HWd : In3W w g1 g2 g3 137 180 180 .u8 .u32 .u32 b (List.replicate 64 0) (planF b i) i wr.drew := by obtain ⟨u, hu⟩ := HW; exact ⟨u, hu.drew⟩
      go_wp2
      go_region_held3 (fun w' => w'.cell? ⟨g1, m, none⟩ = some (.int .u8 a0) ∧ w'.cell? ⟨g1, m1, none⟩ = some (.int .u8 a1) ∧ w'.cell? ⟨g1, m2, none⟩ = some (.int .u8 a2) ∧ w'.cell? ⟨g1, m3, none⟩ = some (.int .u8 a3) ∧ In3W w g1 g2 g3 137 180 180 .u8 .u32 .u32 b (List.replicate 64 0) (planF b i) i w')
        (first | assumption | exact HK'.out _ HWd | (go_split_ands; exact HK'.out _ HW5) | (go_split_ands; exact HK'.out _ (HW5.again _)))
        (first
          | (go_at_call 153; (with_reducible refine (get32_c a0 a1 a2 a3 r0.1 r0.2 r1.1 r1.2 r2.1 r2.2 r3.1 r3.2 _).mono ?_); rintro e w5 ⟨rfl, hb5, _⟩; have HW5 := HWd.below hb5; obtain ⟨⟨u5, hu5⟩, hf5⟩ := HA'.out _ HW5))
      all_goals
        go_wp2
        go_roundw
        case rel => exact ⟨i + 1, by omega, by go_num, by rw [← HSV.out]; exact HW5.set_ _⟩
        case measure => simp [intOf]; omega
    · rw [show ((i : Nat) : Int) = 16 by omega]
      obtain rfl : i = 16 := by omega
      clear hi hlt
      go_wp2
      go_loopw [6] (fun v wr => ∃ i : Nat, 16 ≤ i ∧ i ≤ 64 ∧ v = .int .i64 i ∧ In3 w g1 g2 g3 137 180 180 .u8 .u32 .u32 b (List.replicate 64 0) (planF b i) wr) (fun v _ => 64 - (intOf v).toNat)
      case atStart => exact ⟨16, by omega, by omega, rfl, HI⟩
      case round =>
        clear HI
        obtain ⟨i, hi16, hi, rfl, HI⟩ := hrel
        by_cases hlt : i < 64
        · have hpl := planF_len b i (by omega)
          have HW := HI.open_ (i := i) (by omega)
          have hin := planTo_in b hb i
          have hg : ∀ j, j < i → (planF b i).getD j 0 = (planTo b i).getD j 0 ∧ 0 ≤ (planTo b i).getD j 0 ∧ (planTo b i).getD j 0 < 4294967296 := by
            intro j hj
            have h : j < (planTo b i).length := by rw [planTo_len]; exact hj
            refine ⟨planF_at b i j hj, ?_⟩
            simp [h]; exact hin _ (List.getElem_mem h)
          obtain ⟨m2, hm2⟩ : ∃ m, i - 2 = m := ⟨_, rfl⟩
          obtain ⟨m7, hm7⟩ : ∃ m, i - 7 = m := ⟨_, rfl⟩
          obtain ⟨m15, hm15⟩ : ∃ m, i - 15 = m := ⟨_, rfl⟩
          obtain ⟨m16, hm16⟩ : ∃ m, i - 16 = m := ⟨_, rfl⟩
          have hsv := planF_set b i hlt (nextW (planTo b i) i) (by rw [if_neg (by omega)])
          have hv : nextW (planTo b i) i = (mix2 ((planTo b i).getD m2 0) + (planTo b i).getD m7 0 + mix1 ((planTo b i).getD m15 0) + (planTo b i).getD m16 0) % 4294967296 := by unfold nextW; rw [hm2, hm7, hm15, hm16]
          have HK : ∀ w', In3W w g1 g2 g3 137 180 180 .u8 .u32 .u32 b (List.replicate 64 0) (planF b i) i w' → w'.cell? ⟨g3, m2, none⟩ = some (.int .u32 ((planF b i).getD m2 0)) ∧ w'.cell? ⟨g3, m7, none⟩ = some (.int .u32 ((planF b i).getD m7 0)) ∧ w'.cell? ⟨g3, m15, none⟩ = some (.int .u32 ((planF b i).getD m15 0)) ∧ w'.cell? ⟨g3, m16, none⟩ = some (.int .u32 ((planF b i).getD m16 0)) ∧ In3W w g1 g2 g3 137 180 180 .u8 .u32 .u32 b (List.replicate 64 0) (planF b i) i w' :=
            fun w' h => ⟨h.cell3 (by omega) (by omega), h.cell3 (by omega) (by omega), h.cell3 (by omega) (by omega), h.cell3 (by omega) (by omega), h⟩
          obtain ⟨⟨u0, hu0⟩, hf0⟩ := HW.at_ (by omega)
          rw [(hg m2 (by omega)).1, (hg m7 (by omega)).1, (hg m15 (by omega)).1, (hg m16 (by omega)).1] at HK
          have r2 := (hg m2 (by omega)).2
          have r7 := (hg m7 (by omega)).2
          have r15 := (hg m15 (by omega)).2
          have r16 := (hg m16 (by omega)).2
          obtain ⟨x2, hx2⟩ : ∃ a, (planTo b i).getD m2 0 = a := ⟨_, rfl⟩
          obtain ⟨x7, hx7⟩ : ∃ a, (planTo b i).getD m7 0 = a := ⟨_, rfl⟩
          obtain ⟨x15, hx15⟩ : ∃ a, (planTo b i).getD m15 0 = a := ⟨_, rfl⟩
          obtain ⟨x16, hx16⟩ : ∃ a, (planTo b i).getD m16 0 = a := ⟨_, rfl⟩
          rw [hx2, hx7, hx15, hx16] at HK hv
          rw [hx2] at r2
          rw [hx7] at r7
          rw [hx15] at r15
          rw [hx16] at r16
          obtain ⟨c0, c1, c2, c3, _⟩ := HK _ HW
          obtain ⟨y2, hy2⟩ : ∃ a, mix2 x2 = a := ⟨_, rfl⟩
          obtain ⟨y15, hy15⟩ : ∃ a, mix1 x15 = a := ⟨_, rfl⟩
          have k2 := mix2_in x2
          have k15 := mix1_in x15
          rw [hy2, hy15] at hv
          rw [hy2] at k2
          rw [hy15] at k15
          obtain ⟨t1, ht1⟩ : ∃ t, (y2 + x7) % 4294967296 = t := ⟨_, rfl⟩
          obtain ⟨t2, ht2⟩ : ∃ t, (t1 + y15) % 4294967296 = t := ⟨_, rfl⟩
          obtain ⟨t3, ht3⟩ : ∃ t, (t2 + x16) % 4294967296 = t := ⟨_, rfl⟩
          have hv3 : nextW (planTo b i) i = t3 := by rw [hv]; omega
          rw [hv3] at hsv
          have f1 : IntKind.u32.wrap (y2 + x7) = t1 := by rw [IntKind.wrap_u32]; exact ht1
          have f2 : IntKind.u32.wrap (t1 + y15) = t2 := by rw [IntKind.wrap_u32]; exact ht2
          have f3 : IntKind.u32.wrap (t2 + x16) = t3 := by rw [IntKind.wrap_u32]; exact ht3
          have HK' := Lib.hid HK
          have HSV := Lib.hid hsv
          have e2 : IntKind.i64.wrap ((i : Int) - 2) = (m2 : Int) := by rw [IntWalk.i64_in _ (by omega)]; omega
          have e7 : IntKind.i64.wrap ((i : Int) - 7) = (m7 : Int) := by rw [IntWalk.i64_in _ (by omega)]; omega
          have e15 : IntKind.i64.wrap ((i : Int) - 15) = (m15 : Int) := by rw [IntWalk.i64_in _ (by omega)]; omega
          have e16 : IntKind.i64.wrap ((i : Int) - 16) = (m16 : Int) := by rw [IntWalk.i64_in _ (by omega)]; omega
          have q0 : (0 : Int) ≤ (m2 : Int) ∧ (m2 : Int) < 64 := by omega
          have q1 : (0 : Int) ≤ (m7 : Int) ∧ (m7 : Int) < 64 := by omega
          have q2 : (0 : Int) ≤ (m15 : Int) ∧ (m15 : Int) < 64 := by omega
          have q3 : (0 : Int) ≤ (m16 : Int) ∧ (m16 : Int) < 64 := by omega
          have q4 : (0 : Int) ≤ (i : Int) ∧ (i : Int) < 64 := by omega
          have H2 := Lib.hid hy2
          have H15 := Lib.hid hy15
          clear HK hg hin hx2 hx7 hx15 hx16 hm2 hm7 hm15 hm16 hv hv3 hsv hpl HI ht1 ht2 ht3 hy2 hy15
          have HWd : In3W w g1 g2 g3 137 180 180 .u8 .u32 .u32 b (List.replicate 64 0) (planF b i) i wr.drew := by obtain ⟨u, hu⟩ := HW; exact ⟨u, hu.drew⟩
          go_wp2
          go_region_held3 (fun w' => w'.cell? ⟨g3, m2, none⟩ = some (.int .u32 x2) ∧ w'.cell? ⟨g3, m7, none⟩ = some (.int .u32 x7) ∧ w'.cell? ⟨g3, m15, none⟩ = some (.int .u32 x15) ∧ w'.cell? ⟨g3, m16, none⟩ = some (.int .u32 x16) ∧ In3W w g1 g2 g3 137 180 180 .u8 .u32 .u32 b (List.replicate 64 0) (planF b i) i w')
            (first | assumption | exact HK'.out _ HWd | (go_split_ands; exact HK'.out _ (HWd.again _)))
            (first
              | (go_at_call 154; (with_reducible refine (psecond_c x2 r2.1 r2.2 _).mono ?_); rw [H2.out]; rintro e w5 ⟨rfl, rfl⟩)
              | (go_at_call 155; (with_reducible refine (pfirst_c x15 r15.1 r15.2 _).mono ?_); rw [H15.out]; rintro e w5 ⟨rfl, rfl⟩))
          all_goals
            go_wp2
            go_roundw
            case rel => exact ⟨i + 1, by omega, by omega, by go_num, by rw [← HSV.out]; exact (HW.set_ _).drew⟩
            case measure => simp [intOf]; omega
        · rw [show ((i : Nat) : Int) = 64 by omega]
          obtain rfl : i = 64 := by omega
          rw [planF_full] at HI
          obtain ⟨h1, h2, h3, h4, h5, h6, h7⟩ := HI
          have hpl : (planL b).length = 64 := planTo_len b 64
          have HPL := Lib.hid hpl
          have H3 := Lib.hid h3
          have H2 := Lib.hid h2
          have hg2 : w.heap.size ≤ g2 := HG2.out
          clear hpl h1 h2 h3
          go_wp2_with (first
            | (with_reducible refine at_any ?_; refine at_dst 59 rfl ?_; refine wpList_load_ints rfl 180 (.tmp 3) rfl g3 rfl 180 .u32 (planL b) H3.out _ Tryz.underlying180 rfl (by rw [HPL.out]; exact size_plan) ?_)
            | (with_reducible refine at_any ?_; refine at_store 2 rfl ?_; refine wpList_store_ints rfl 180 (.tmp 2) (.tmp 59) rfl g2 rfl 180 .u32 (List.replicate 64 0) (planL b) H2.out rfl (by rw [HPL.out]; simp) (by rw [HPL.out]; exact size_plan) ?_; intro w9 hk9 hs9 hb9 ho9)
            | (refine bodyPost_cell 2 180 rfl g2 rfl 180 .u32 (planL b) hk9.out _ Tryz.underlying180 rfl (by rw [HPL.out]; exact size_plan) rfl ?_))
          rw [← hg1]
          exact h4.trans (hb9 _ hg2)
end
section
open Go.ChangeShapes Go.WideShapes Go.ChangeAt Go.RowKit
theorem cturned_c (x a b c : Int) (h0 : 0 ≤ x) (h1 : x < 4294967296) (a0 : 0 ≤ a) (a1 : a < 32) (b0 : 0 ≤ b) (b1 : b < 32) (c0 : 0 ≤ c) (c1 : c < 32) (w : World) :
    Calls Tryz.prog 160 #[.int .u32 x, .int .i64 a, .int .i64 b, .int .i64 c] w fun e w' => e = .returned (.int .u32 (turn3 x a b c)) ∧ w = w' := by
  unfold turn3
  go_enter Tryz.func160, Tryz.ntmps160
  go_wp2_with (go_at_call 158; (with_reducible refine (rotate_c _ _ (by omega) (by omega) (by omega) (by omega) _).mono ?_); rintro e _ ⟨rfl, rfl⟩)
  go_ret
  exact ⟨rfl, rfl⟩
theorem not_u32 (e : Int) (h0 : 0 ≤ e) (h1 : e < 4294967296) : bits .xor .u32 IntKind.u32.max e = 4294967295 - e := by
  obtain ⟨n, rfl⟩ := Int.eq_ofNat_of_zero_le h0
  have hn : n < 2 ^ 32 := by omega
  have e1 : (4294967295 : Nat) ^^^ n = 4294967295 - n := by
    have h := congrArg BitVec.toNat (BitVec.allOnes_xor (x := BitVec.ofNat 32 n))
    rw [BitVec.toNat_xor, BitVec.toNat_allOnes, BitVec.toNat_not, BitVec.toNat_ofNat, Nat.mod_eq_of_lt hn] at h
    exact h
  have e2 : IntKind.u32.max = ((4294967295 : Nat) : Int) := by decide
  rw [e2, u32_xor_nat _ _ (by omega) (by omega), e1]
  omega
theorem cchoice_c (e f g : Int) (e0 : 0 ≤ e) (e1 : e < 4294967296) (f0 : 0 ≤ f) (f1 : f < 4294967296) (g0 : 0 ≤ g) (g1 : g < 4294967296) (w : World) :
    Calls Tryz.prog 161 #[.int .u32 e, .int .u32 f, .int .u32 g] w fun r w' => r = .returned (.int .u32 (chW e f g)) ∧ w = w' := by
  unfold chW
  have hn := not_u32 e e0 e1
  rw [← hn]
  clear hn
  go_enter Tryz.func161, Tryz.ntmps161
  go_wp2
  go_ret
  exact ⟨rfl, rfl⟩
theorem cmajority_c (a b c : Int) (a0 : 0 ≤ a) (a1 : a < 4294967296) (b0 : 0 ≤ b) (b1 : b < 4294967296) (c0 : 0 ≤ c) (c1 : c < 4294967296) (w : World) :
    Calls Tryz.prog 162 #[.int .u32 a, .int .u32 b, .int .u32 c] w fun r w' => r = .returned (.int .u32 (majW a b c)) ∧ w = w' := by
  unfold majW
  go_enter Tryz.func162, Tryz.ntmps162
  go_wp2
  go_ret
  exact ⟨rfl, rfl⟩
def lowW (e f g : Int) : Int := (turn3 e 6 11 25 + chW e f g) % 4294967296
def uppW (a b c : Int) : Int := (turn3 a 2 13 22 + majW a b c) % 4294967296
theorem clower_c (e f g : Int) (e0 : 0 ≤ e) (e1 : e < 4294967296) (f0 : 0 ≤ f) (f1 : f < 4294967296) (g0 : 0 ≤ g) (g1 : g < 4294967296) (w : World) :
    Calls Tryz.prog 156 #[.int .u32 e, .int .u32 f, .int .u32 g] w fun r w' => r = .returned (.int .u32 (lowW e f g)) ∧ w = w' := by
  obtain ⟨v, hv⟩ : ∃ v, lowW e f g = v := ⟨_, rfl⟩
  rw [hv]
  unfold lowW at hv
  have c1 := fun W => cturned_c e 6 11 25 e0 e1 (by omega) (by omega) (by omega) (by omega) (by omega) (by omega) W
  have c2 := fun W => cchoice_c e f g e0 e1 f0 f1 g0 g1 W
  obtain ⟨y1, hy1⟩ : ∃ y, turn3 e 6 11 25 = y := ⟨_, rfl⟩
  obtain ⟨y2, hy2⟩ : ∃ y, chW e f g = y := ⟨_, rfl⟩
  rw [hy1] at c1 hv
  rw [hy2] at c2 hv
  have f9 : IntKind.u32.wrap (y1 + y2) = v := by rw [IntKind.wrap_u32]; exact hv
  have C1 := Lib.hid c1
  have C2 := Lib.hid c2
  clear hy1 hy2 hv c1 c2
  go_enter Tryz.func156, Tryz.ntmps156
  go_wp2_with (first
    | (go_at_call 160; (with_reducible refine (C1.out _).mono ?_); rintro r _ ⟨rfl, rfl⟩)
    | (go_at_call 161; (with_reducible refine (C2.out _).mono ?_); rintro r _ ⟨rfl, rfl⟩))
  go_ret
  exact ⟨rfl, rfl⟩
theorem cupper_c (e f g : Int) (e0 : 0 ≤ e) (e1 : e < 4294967296) (f0 : 0 ≤ f) (f1 : f < 4294967296) (g0 : 0 ≤ g) (g1 : g < 4294967296) (w : World) :
    Calls Tryz.prog 157 #[.int .u32 e, .int .u32 f, .int .u32 g] w fun r w' => r = .returned (.int .u32 (uppW e f g)) ∧ w = w' := by
  obtain ⟨v, hv⟩ : ∃ v, uppW e f g = v := ⟨_, rfl⟩
  rw [hv]
  unfold uppW at hv
  have c1 := fun W => cturned_c e 2 13 22 e0 e1 (by omega) (by omega) (by omega) (by omega) (by omega) (by omega) W
  have c2 := fun W => cmajority_c e f g e0 e1 f0 f1 g0 g1 W
  obtain ⟨y1, hy1⟩ : ∃ y, turn3 e 2 13 22 = y := ⟨_, rfl⟩
  obtain ⟨y2, hy2⟩ : ∃ y, majW e f g = y := ⟨_, rfl⟩
  rw [hy1] at c1 hv
  rw [hy2] at c2 hv
  have f9 : IntKind.u32.wrap (y1 + y2) = v := by rw [IntKind.wrap_u32]; exact hv
  have C1 := Lib.hid c1
  have C2 := Lib.hid c2
  clear hy1 hy2 hv c1 c2
  go_enter Tryz.func157, Tryz.ntmps157
  go_wp2_with (first
    | (go_at_call 160; (with_reducible refine (C1.out _).mono ?_); rintro r _ ⟨rfl, rfl⟩)
    | (go_at_call 162; (with_reducible refine (C2.out _).mono ?_); rintro r _ ⟨rfl, rfl⟩))
  go_ret
  exact ⟨rfl, rfl⟩
theorem cstart_c (w : World) : Calls Tryz.prog 131 #[] w fun e w' => e = .returned (.agg (intsA .u32 startL)) ∧ Below w.heap.size w w' := by
  have HL := Lib.hid (show Z8.length = startL.length from rfl)
  have HZ := Lib.hid (show (Tryz.prog.info? 159).map (·.size) = some startL.length from size_state)
  go_enter Tryz.func131, Tryz.ntmps131
  go_wp2_with (first
    | (with_reducible refine at_any ?_; refine at_dst 0 rfl ?_; refine wpList_alloc_ints rfl 159 rfl .u32 Z8 zero_state ?_; intro w2 hk2 hs2 hb2)
    | (with_reducible refine at_any ?_; refine at_store 0 rfl ?_; refine wpList_store_ints rfl 159 (.tmp 0) (.tmp 1) rfl w.heap.size rfl 159 .u32 Z8 startL hk2.out (by kernel_rfl) HL.out HZ.out ?_; intro w9 hk9 hs9 hb9 ho9)
    | (refine bodyPost_cell 0 159 rfl w.heap.size rfl 159 .u32 startL hk9.out _ Tryz.underlying159 rfl HZ.out rfl ?_))
  exact hb2.trans (hb9 _ (Nat.le_refl _))
theorem cconst_c (i : Int) (i0 : -9223372036854775808 ≤ i) (i1 : i ≤ 9223372036854775807) (w : World) (hk : Kst w) :
    Calls Tryz.prog 151 #[.int .i64 i] w fun e w' => e = .returned (.int .u32 (constN i)) ∧ w = w' := by
  unfold constN
  by_cases h : 0 ≤ i ∧ i ≤ 63
  · rw [if_pos h]
    obtain ⟨h0, h1⟩ := h
    have hc := hk.at_ i.toNat (by omega)
    obtain ⟨C, hC⟩ : ∃ C, constL.getD i.toNat 0 = C := ⟨_, rfl⟩
    rw [hC] at hc
    rw [hC]
    have f1 : IntKind.u64.wrap i = i := by rw [IntKind.wrap_u64]; omega
    have f2 : i < 64 := by omega
    clear hC hk
    go_enter Tryz.func151, Tryz.ntmps151
    go_wp2
    go_ret
    exact ⟨rfl, rfl⟩
  · rw [if_neg h]
    obtain ⟨u, hu⟩ : ∃ u, IntKind.u64.wrap i = u := ⟨_, rfl⟩
    have f2 : 64 ≤ u := by rw [IntKind.wrap_u64] at hu; omega
    clear h hk
    go_enter Tryz.func151, Tryz.ntmps151
    go_wp2
    go_ret
    exact ⟨rfl, rfl⟩
set_option maxHeartbeats 1000000 in
theorem cround_c (s : List Int) (W K : Int) (hl : s.length = 8) (hs : WIn s) (W0 : 0 ≤ W) (W1 : W < 4294967296) (K0 : 0 ≤ K) (K1 : K < 4294967296) (w : World) :
    Calls Tryz.prog 150 #[.agg (intsA .u32 s), .int .u32 W, .int .u32 K] w fun e w' => e = .returned (.agg (intsA .u32 (roundL s W K))) ∧ Below w.heap.size w w' := by
  have hr0 := hs.at_ 0
  have hr1 := hs.at_ 1
  have hr2 := hs.at_ 2
  have hr3 := hs.at_ 3
  have hr4 := hs.at_ 4
  have hr5 := hs.at_ 5
  have hr6 := hs.at_ 6
  have hr7 := hs.at_ 7
  obtain ⟨a, b, c, d, e, f, p, q, rfl⟩ : ∃ a b c d e f p q, s = [a, b, c, d, e, f, p, q] := ⟨_, _, _, _, _, _, _, _, list8 s hl⟩
  simp only [List.getD_cons_zero, List.getD_cons_succ] at hr0 hr1 hr2 hr3 hr4 hr5 hr6 hr7
  have c1 := fun W => clower_c e f p hr4.1 hr4.2 hr5.1 hr5.2 hr6.1 hr6.2 W
  have c2 := fun W => cupper_c a b c hr0.1 hr0.2 hr1.1 hr1.2 hr2.1 hr2.2 W
  obtain ⟨y1, hy1⟩ : ∃ y, lowW e f p = y := ⟨_, rfl⟩
  obtain ⟨u1, hy2⟩ : ∃ y, uppW a b c = y := ⟨_, rfl⟩
  rw [hy1] at c1
  rw [hy2] at c2
  unfold lowW at hy1
  unfold uppW at hy2
  obtain ⟨t1, ht1⟩ : ∃ t, (q + y1) % 4294967296 = t := ⟨_, rfl⟩
  obtain ⟨t2, ht2⟩ : ∃ t, (t1 + K) % 4294967296 = t := ⟨_, rfl⟩
  obtain ⟨t4, ht4⟩ : ∃ t, (t2 + W) % 4294967296 = t := ⟨_, rfl⟩
  have hres : roundL [a, b, c, d, e, f, p, q] W K = [(t4 + u1) % 4294967296, a, b, c, (d + t4) % 4294967296, e, f, p] := by
    have e1 : (q + turn3 e 6 11 25 + chW e f p + K + W) % 4294967296 = t4 := by omega
    simp only [roundL, List.getD_cons_zero, List.getD_cons_succ]
    rw [e1, hy2]
  rw [hres]
  obtain ⟨v0, hv0⟩ : ∃ t, (t4 + u1) % 4294967296 = t := ⟨_, rfl⟩
  obtain ⟨v4, hv4⟩ : ∃ t, (d + t4) % 4294967296 = t := ⟨_, rfl⟩
  rw [hv0, hv4]
  have f1 : IntKind.u32.wrap (q + y1) = t1 := by rw [IntKind.wrap_u32]; exact ht1
  have f2 : IntKind.u32.wrap (t1 + K) = t2 := by rw [IntKind.wrap_u32]; exact ht2
  have f4 : IntKind.u32.wrap (t2 + W) = t4 := by rw [IntKind.wrap_u32]; exact ht4
  have f6 : IntKind.u32.wrap (t4 + u1) = v0 := by rw [IntKind.wrap_u32]; exact hv0
  have f7 : IntKind.u32.wrap (d + t4) = v4 := by rw [IntKind.wrap_u32]; exact hv4
  have C1 := Lib.hid c1
  have C2 := Lib.hid c2
  clear hy1 hy2 ht1 ht2 ht4 hv0 hv4 hres hs hl c1 c2
  go_enter Tryz.func150, Tryz.ntmps150
  go_wp2_with (first
    | (with_reducible refine at_any ?_; refine at_dst 3 rfl ?_; refine wpList_box_ints rfl 159 (.tmp 0) rfl .u32 _ rfl ?_; intro w1 hk1 hs1 hb1)
    | (with_reducible refine at_any ?_; refine at_dst 6 rfl ?_; refine wpList_alloc_ints rfl 159 rfl .u32 Z8 zero_state ?_; intro w2 hk2 hs2 hb2))
  have HS : St2 w w.heap.size w1.heap.size [a, b, c, d, e, f, p, q] Z8 w2 := by
    have q1 := hs1.out
    exact ⟨hk1.out.below hb2 (by omega), hk2.out, hb1.trans (hb2.mono (by omega)), by omega, by omega⟩
  obtain ⟨g, hg⟩ : ∃ g, w.heap.size = g := ⟨_, rfl⟩
  obtain ⟨r, hr⟩ : ∃ g, w1.heap.size = g := ⟨_, rfl⟩
  have HW := Lib.hid hg
  rw [hg, hr] at HS
  rw [hg, hr]
  clear hk1 hs1 hb1 hk2 hs2 hb2 hg hr
  have HSd := HS.drew
  go_region_held3 (fun w' => w'.cell? ⟨g, 0, none⟩ = some (.int .u32 a) ∧ w'.cell? ⟨g, 1, none⟩ = some (.int .u32 b) ∧ w'.cell? ⟨g, 2, none⟩ = some (.int .u32 c) ∧ w'.cell? ⟨g, 3, none⟩ = some (.int .u32 d) ∧ w'.cell? ⟨g, 4, none⟩ = some (.int .u32 e) ∧ w'.cell? ⟨g, 5, none⟩ = some (.int .u32 f) ∧ w'.cell? ⟨g, 6, none⟩ = some (.int .u32 p) ∧ w'.cell? ⟨g, 7, none⟩ = some (.int .u32 q) ∧ St2 w g r [a, b, c, d, e, f, p, q] Z8 w')
    (first | assumption | exact HSd.cells)
    (fail)
  have HS6 := Lib.hid HSd.snd
  go_wp2_with (first
    | (go_at_call 156; (with_reducible refine (C1.out _).mono ?_); rintro e _ ⟨rfl, rfl⟩)
    | (go_at_call 157; (with_reducible refine (C2.out _).mono ?_); rintro e _ ⟨rfl, rfl⟩)
    | (with_reducible refine at_any ?_; refine at_store 6 rfl ?_; refine wpList_store_ints rfl 159 (.tmp 6) (.tmp 59) rfl r rfl 159 .u32 Z8 [v0, a, b, c, v4, e, f, p] HS6.out (by kernel_rfl) (Z8_len8 _ _ _ _ _ _ _ _) (size_state8 _ _ _ _ _ _ _ _) ?_; intro w9 hk9 hs9 hb9 ho9)
    | (refine bodyPost_cell 6 159 rfl r rfl 159 .u32 [v0, a, b, c, v4, e, f, p] hk9.out _ Tryz.underlying159 rfl (size_state8 _ _ _ _ _ _ _ _) rfl ?_))
  exact HSd.bel.trans (hb9 _ HSd.out)
end
section
open Go.ChangeShapes Go.WideShapes Go.ChangeAt Go.RowKit
theorem In3.store {w w' w'' : World} {g1 g2 g3 : Nat} {t1 t2 t3 : TypeId} {k1 k2 k3 : IntKind} {l1 l2 l3 y : List Int} (h : In3 w g1 g2 g3 t1 t2 t3 k1 k2 k3 l1 l2 l3 w') (hk : BlkI w'' g3 t3 k3 y) (hb : ∀ B, B ≤ g3 → Below B w' w'') (ho : ∀ j, j ≠ g3 → w''.heap[j]? = w'.heap[j]?) : In3 w g1 g2 g3 t1 t2 t3 k1 k2 k3 l1 l2 y w'' := by
  obtain ⟨h1, h2, h3, h4, h5, h6, h7⟩ := h
  exact ⟨h1.other ho h6, h2.other ho h7, hk, h4.trans (hb _ h5), h5, h6, h7⟩
theorem sums_comm (x s : List Int) (hx : x.length = 8) (hs : s.length = 8) : sums x s 8 = sums s x 8 := by
  obtain ⟨a, b, c, d, e, f, p, q, rfl⟩ : ∃ a b c d e f p q, s = [a, b, c, d, e, f, p, q] := ⟨_, _, _, _, _, _, _, _, list8 s hs⟩
  obtain ⟨a', b', c', d', e', f', p', q', rfl⟩ : ∃ a b c d e f p q, x = [a, b, c, d, e, f, p, q] := ⟨_, _, _, _, _, _, _, _, list8 x hx⟩
  simp [sums, Int.add_comm]
theorem index_plan (zs : List Int) (hl : zs.length = 64) (i : Int) (h0 : 0 ≤ i) (h1 : i ≤ 63) (w : World) : (Instr.index 180 (.agg (intsA .u32 zs)) (.int .i64 i)).run Tryz.prog w = .ok (.int .u32 (zs.getD i.toNat 0)) w := by
  obtain ⟨i0, hi, _, hs, _⟩ := info_parts info_u32c
  exact run_index_arr Tryz.underlying180 Tryz.underlying62 hi hs _ _ _ _ h0 (by omega) (intsA_at .u32 zs i.toNat (by omega)) w
def Tz (w : World) (g2 g4 g5 : Nat) (s z : List Int) (w' : World) : Prop := In3 w g2 g4 g5 159 159 159 .u32 .u32 .u32 s Z8 z w' ∧ Kst w' ∧ w.heap.size ≤ g2
def TzW (w : World) (g2 g4 g5 : Nat) (s : List Int) (w' : World) : Prop := ∃ z, Tz w g2 g4 g5 s z w'
section
variable {w w' w'' : World} {g2 g4 g5 : Nat} {s z : List Int}
theorem Tz.kst (h : Tz w g2 g4 g5 s z w') : Kst w' := h.2.1
theorem TzW.kst (h : TzW w g2 g4 g5 s w') : Kst w' := by obtain ⟨z, h⟩ := h; exact h.kst
theorem Tz.drew (h : Tz w g2 g4 g5 s z w') : Tz w g2 g4 g5 s z w'.drew := ⟨h.1.drew, h.2.1.drew, h.2.2⟩
theorem Tz.below (h : Tz w g2 g4 g5 s z w') (hb : Below w'.heap.size w' w'') : Tz w g2 g4 g5 s z w'' := ⟨h.1.below hb, h.2.1.below hb, h.2.2⟩
theorem Tz.store (h : Tz w g2 g4 g5 s z w') (hw : Kst w) {y : List Int} (hk : BlkI w'' g5 159 .u32 y) (hb : ∀ B, B ≤ g5 → Below B w' w'') (ho : ∀ j, j ≠ g5 → w''.heap[j]? = w'.heap[j]?) : Tz w g2 g4 g5 s y w'' := by
  have h1 := h.1.store hk hb ho
  exact ⟨h1, hw.below h1.bel, h.2.2⟩
end
set_option maxHeartbeats 2000000 in
theorem ctake_c (s b : List Int) (hl : s.length = 8) (hs : WIn s) (hbl : b.length = 64) (hb : ∀ z ∈ b, 0 ≤ z ∧ z < 256) (w : World) (hkst : Kst w) :
    Calls Tryz.prog 141 #[.agg (intsA .u32 s), .agg (intsA .u8 b)] w fun e w' => e = .returned (.agg (intsA .u32 (takeL s b))) ∧ Below w.heap.size w w' := by
  obtain ⟨X0, hx⟩ : ∃ x, rounds s b 64 = x := ⟨_, rfl⟩
  obtain ⟨R, hR⟩ : ∃ R, sums s X0 8 = R := ⟨_, rfl⟩
  have hxl := rounds_len s b hl 64
  rw [hx] at hxl
  rw [show takeL s b = R by rw [takeL, hx, sums_comm X0 s hxl hl, hR]]
  have HX := Lib.hid hx
  have HR := Lib.hid hR
  have HXL := Lib.hid hxl
  clear hx hR hxl
  have SZ := Lib.hid (sized s hl)
  have ZL := Lib.hid (show Z8.length = s.length by rw [hl]; rfl)
  have BS := Lib.hid (show (Tryz.prog.info? 137).map (·.size) = some b.length by rw [hbl]; kernel_rfl)
  have KW := Lib.hid hkst
  clear hkst
  have hix := fun W (i : Nat) (hi : i < 64) => index_plan (planL b) (planL_len b) (i : Int) (by omega) (by omega) W
  have co := fun W => pof_c b hbl hb W
  obtain ⟨PA, hPA⟩ : ∃ S, intsA .u32 (planL b) = S := ⟨_, rfl⟩
  rw [hPA] at hix co
  have CO := Lib.hid co
  have HIX := Lib.hid hix
  clear hix co
  go_enter Tryz.func141, Tryz.ntmps141
  go_wp2_with (first
    | (with_reducible refine at_any ?_; refine at_dst 2 rfl ?_; refine wpList_box_ints rfl 159 (.tmp 0) rfl .u32 s rfl ?_; intro w1 hk1 hs1 hb1)
    | (with_reducible refine at_any ?_; refine at_dst 3 rfl ?_; refine wpList_box_ints rfl 137 (.tmp 1) rfl .u8 b rfl ?_; intro w2 hk2 hs2 hb2; have hk1b := Lib.hid (hk1.out.below hb2 hk1.out.lt))
    | (with_reducible refine at_any ?_; refine at_dst 4 rfl ?_; refine wpList_alloc_ints rfl 159 rfl .u32 Z8 zero_state ?_; intro w3 hk3 hs3 hb3; have hk1c := Lib.hid (hk1b.out.below hb3 hk1b.out.lt); have hk2c := Lib.hid (hk2.out.below hb3 hk2.out.lt); have bl3 := Lib.hid (hb1.trans ((hb2.mono hb1.size).trans (hb3.mono (by have := hb1.size; have := hb2.size; omega)))))
    | (with_reducible refine at_any ?_; refine at_dst 9 rfl ?_; refine wpList_load_ints rfl 159 (.tmp 2) rfl w.heap.size rfl 159 .u32 s hk1c.out _ Tryz.underlying159 rfl SZ.out ?_)
    | (with_reducible refine at_any ?_; refine at_dst 5 rfl ?_; refine wpList_alloc_ints rfl 159 rfl .u32 Z8 zero_state ?_; intro w4 hk4 hs4 hb4; have hk1d := Lib.hid (hk1c.out.below hb4 hk1c.out.lt); have hk2d := Lib.hid (hk2c.out.below hb4 hk2c.out.lt); have hk3d := Lib.hid (hk3.out.below hb4 hk3.out.lt); have bl4 := Lib.hid (bl3.out.trans (hb4.mono bl3.out.size)))
    | (with_reducible refine at_any ?_; refine at_store 5 rfl ?_; refine wpList_store_ints rfl 159 (.tmp 5) (.tmp 9) rfl w3.heap.size rfl 159 .u32 Z8 s hk4.out rfl ZL.out SZ.out ?_; intro w5 hk5 hs5 hb5 ho5; have hk1e := Lib.hid (hk1d.out.below (hb5 _ (Nat.le_refl _)) hk1c.out.lt); have hk2e := Lib.hid (hk2d.out.below (hb5 _ (Nat.le_refl _)) hk2c.out.lt); have hk3e := Lib.hid (hk3d.out.below (hb5 _ (Nat.le_refl _)) hk3.out.lt); have bl5 := Lib.hid (bl4.out.trans (hb5 _ bl3.out.size)))
    | (with_reducible refine at_any ?_; refine at_dst 10 rfl ?_; refine wpList_load_ints rfl 137 (.tmp 3) rfl w1.heap.size rfl 137 .u8 b hk2e.out _ Tryz.underlying137 rfl BS.out ?_)
    | (go_at_call 149; (with_reducible refine (CO.out _).mono ?_); rintro e w6 ⟨rfl, hb6⟩))
  have HT : Tz w w.heap.size w2.heap.size w3.heap.size s (rounds s b 0) w6 := by
    have q1 := hk1c.out.lt
    have q3 := hk3.out.lt
    have q2 := hk3.out.lt
    have qa := hb1.size
    have qb := hb2.size
    have qc := hb3.size
    have h3 : In3 w w.heap.size w2.heap.size w3.heap.size 159 159 159 .u32 .u32 .u32 s Z8 s w6 := ⟨hk1e.out.below hb6 hk1e.out.lt, hk3e.out.below hb6 hk3e.out.lt, hk5.out.below hb6 hk5.out.lt, bl5.out.trans (hb6.mono bl5.out.size), bl3.out.size, by omega, by omega⟩
    exact ⟨h3, KW.out.below h3.bel, Nat.le_refl _⟩
  obtain ⟨g2, hg2⟩ : ∃ g, w.heap.size = g := ⟨_, rfl⟩
  obtain ⟨g4, hg4⟩ : ∃ g, w2.heap.size = g := ⟨_, rfl⟩
  obtain ⟨g5, hg5⟩ : ∃ g, w3.heap.size = g := ⟨_, rfl⟩
  have HG4 := Lib.hid (show w.heap.size ≤ g4 ∧ g2 ≠ g4 ∧ g2 ≠ g5 by have := hs1.out; have := hs2.out; have := hs3.out; omega)
  have HW := Lib.hid hg2
  rw [hg2, hg4, hg5] at HT
  rw [hg2, hg4, hg5]
  clear hk1 hs1 hb1 hk2 hs2 hb2 hk1b hk3 hs3 hb3 hk1c hk2c bl3 hk4 hs4 hb4 hk1d hk2d hk3d bl4 hk5 hs5 hb5 ho5 hk1e hk2e hk3e bl5 hb6 hg2 hg4 hg5 BS ZL CO
  go_loopw [12] (fun v wr => ∃ i : Nat, i ≤ 64 ∧ v = .int .i64 i ∧ Tz w g2 g4 g5 s (rounds s b i) wr) (fun v _ => 64 - (intOf v).toNat)
  case atStart => exact ⟨0, by omega, rfl, HT⟩
  case round =>
    clear HT
    obtain ⟨i, hi, rfl, HT⟩ := hrel
    by_cases hlt : i < 64
    · have hxl := rounds_len s b hl i
      have hxi := rounds_in s b hs i
      have hix := fun W => HIX.out W i hlt
      have ry := pw_in b hb i hlt
      rw [show (planL b).getD ((i : Int)).toNat 0 = pw b i by rfl] at hix
      obtain ⟨x, hx⟩ : ∃ x, rounds s b i = x := ⟨_, rfl⟩
      have hnx : rounds s b (i + 1) = roundL x (pw b i) (constN i) := by rw [rounds, hx]
      rw [hx] at hxl hxi HT
      obtain ⟨y, hy⟩ : ∃ y, pw b i = y := ⟨_, rfl⟩
      obtain ⟨k, hk⟩ : ∃ k, constN (i : Int) = k := ⟨_, rfl⟩
      have rk := constN_in (i : Int)
      rw [hy, hk] at hnx
      rw [hy] at hix ry
      rw [hk] at rk
      have d1 := fun W (h : Kst W) => cconst_c (i : Int) (by omega) (by omega) W h
      rw [hk] at d1
      have D1 := Lib.hid d1
      have D2 := Lib.hid (fun W => cround_c x y k hxl hxi ry.1 ry.2 rk.1 rk.2 W)
      have HXS := Lib.hid (sized x hxl)
      have HRS := Lib.hid (sized (roundL x y k) rfl)
      have HLL := Lib.hid (show x.length = (roundL x y k).length by rw [hxl]; rfl)
      have q0 : (0 : Int) ≤ (i : Int) ∧ (i : Int) < 64 := by omega
      have HNX := Lib.hid hnx
      have HTd := HT.drew
      clear hnx hx hy hk d1 hxl hxi rk ry
      go_wp2
      refine wp_region_held_drew (S := TzW w g2 g4 g5 s) (by kernel_rfl) (⟨_, HTd⟩) (fun hH => ?_)
      refine held_val 1 rfl (by kernel_rfl) (by kernel_rfl) (by kernel_rfl) (fun _ _ _ _ h => h) (by rfl) (.int .u32 y) (fun W h => by go_simp) hH ?_
      try simp only [Act.put, List.setIfInBounds_toArray, List.set_cons_zero, List.set_cons_succ]
      refine held_val 2 rfl (by kernel_rfl) (by kernel_rfl) (by kernel_rfl) (fun _ _ _ _ h => h) (by rfl) (.int .i64 (i : Int)) (fun W h => by go_simp) hH ?_
      try simp only [Act.put, List.setIfInBounds_toArray, List.set_cons_zero, List.set_cons_succ]
      refine wpAnyH_ready (rs := [0, 3]) (by kernel_rfl) (by decide) ?_
      refine AllReadyH.cons rfl (fun K hK => ?_) (AllReadyH.cons rfl (fun K hK => ?_) AllReadyH.nil)
      · refine step_load_ints (by rfl) 159 (.tmp 5) rfl g5 (by kernel_rfl) 159 .u32 x HTd.1.trd _ Tryz.underlying159 rfl HXS.out ?_
        refine hK.out _ _ hH (fun _ => ?_)
        clear hK K
        try simp only [Act.put, List.setIfInBounds_toArray, List.set_cons_zero, List.set_cons_succ]
        refine wpAnyH_ready (rs := [3]) (by kernel_rfl) (by decide) ?_
        refine AllReadyH.cons rfl (fun K hK => ?_) AllReadyH.nil
        go_simp
        refine (D1.out _ HTd.kst).mono ?_
        rintro e _ ⟨rfl, rfl⟩
        refine hK.out _ _ hH (fun _ => ?_)
        clear hK K
        try simp only [Act.put, List.setIfInBounds_toArray, List.set_cons_zero, List.set_cons_succ]
        refine wpAnyH_ready (rs := [4]) (by kernel_rfl) (by decide) ?_
        refine AllReadyH.cons rfl (fun K hK => ?_) AllReadyH.nil
        go_simp
        refine (D2.out _).mono ?_
        rintro e w9 ⟨rfl, hbw9⟩
        have h9 := HTd.below hbw9
        refine hK.out _ _ ⟨_, h9⟩ (fun _ => ?_)
        clear hK K
        try simp only [Act.put, List.setIfInBounds_toArray, List.set_cons_zero, List.set_cons_succ]
        refine held_store 5 rfl (by kernel_rfl) (by rfl) 159 (.tmp 5) (.tmp 20) rfl g5 (by kernel_rfl) 159 .u32 x (roundL x y k) (h9.1.trd) (by kernel_rfl) (HLL.out) (HRS.out) ?_
        intro w10 hkw10 hbw10 how10
        refine ⟨⟨_, h9.store KW.out hkw10.out hbw10 how10⟩, ?_⟩
        try simp only [Act.put, List.setIfInBounds_toArray, List.set_cons_zero, List.set_cons_succ]
        refine wpAnyH_done (by kernel_rfl) ?_ _
        have HN := Lib.hid (h9.store KW.out hkw10.out hbw10 how10)
        rw [← HNX.out] at HN
        go_wp2
        go_roundw
        case rel => exact ⟨i + 1, by omega, by go_num, HN.out⟩
        case measure => simp [intOf]; omega
      · go_simp
        refine (D1.out _ HTd.kst).mono ?_
        rintro e _ ⟨rfl, rfl⟩
        refine hK.out _ _ hH (fun _ => ?_)
        clear hK K
        try simp only [Act.put, List.setIfInBounds_toArray, List.set_cons_zero, List.set_cons_succ]
        refine wpAnyH_ready (rs := [0]) (by kernel_rfl) (by decide) ?_
        refine AllReadyH.cons rfl (fun K hK => ?_) AllReadyH.nil
        refine step_load_ints (by rfl) 159 (.tmp 5) rfl g5 (by kernel_rfl) 159 .u32 x HTd.1.trd _ Tryz.underlying159 rfl HXS.out ?_
        refine hK.out _ _ hH (fun _ => ?_)
        clear hK K
        try simp only [Act.put, List.setIfInBounds_toArray, List.set_cons_zero, List.set_cons_succ]
        refine wpAnyH_ready (rs := [4]) (by kernel_rfl) (by decide) ?_
        refine AllReadyH.cons rfl (fun K hK => ?_) AllReadyH.nil
        go_simp
        refine (D2.out _).mono ?_
        rintro e w9 ⟨rfl, hbw9⟩
        have h9 := HTd.below hbw9
        refine hK.out _ _ ⟨_, h9⟩ (fun _ => ?_)
        clear hK K
        try simp only [Act.put, List.setIfInBounds_toArray, List.set_cons_zero, List.set_cons_succ]
        refine held_store 5 rfl (by kernel_rfl) (by rfl) 159 (.tmp 5) (.tmp 20) rfl g5 (by kernel_rfl) 159 .u32 x (roundL x y k) (h9.1.trd) (by kernel_rfl) (HLL.out) (HRS.out) ?_
        intro w10 hkw10 hbw10 how10
        refine ⟨⟨_, h9.store KW.out hkw10.out hbw10 how10⟩, ?_⟩
        try simp only [Act.put, List.setIfInBounds_toArray, List.set_cons_zero, List.set_cons_succ]
        refine wpAnyH_done (by kernel_rfl) ?_ _
        have HN := Lib.hid (h9.store KW.out hkw10.out hbw10 how10)
        rw [← HNX.out] at HN
        go_wp2
        go_roundw
        case rel => exact ⟨i + 1, by omega, by go_num, HN.out⟩
        case measure => simp [intOf]; omega
    · rw [show ((i : Nat) : Int) = 64 by omega]
      obtain rfl : i = 64 := by omega
      have hxl := HXL.out
      rw [HX.out] at HT
      have HI : In3 w g5 g4 g2 159 159 159 .u32 .u32 .u32 X0 Z8 s wr := ⟨HT.1.trd, HT.1.snd, HT.1.fst, HT.1.bel, HT.2.2, Ne.symm HG4.out.2.2, Ne.symm HG4.out.2.1⟩
      clear HT hi hlt
      go_wp2
      go_loopw [22] (fun v wr => ∃ i : Nat, i ≤ 8 ∧ v = .int .i64 i ∧ In3 w g5 g4 g2 159 159 159 .u32 .u32 .u32 X0 Z8 (sums s X0 i) wr) (fun v _ => 8 - (intOf v).toNat)
      case atStart => exact ⟨0, by omega, rfl, HI⟩
      case round =>
        clear HI
        obtain ⟨i, hi, rfl, HI⟩ := hrel
        by_cases hlt : i < 8
        · have hsl := sums_len s X0 i
          have c6 := HI.trd.cell (j := i) (by omega)
          rw [sums_at s X0 i i (Nat.le_refl _)] at c6
          have f6 := HI.trd.frozen i
          have c2 := HI.fst.cell (j := i) (by omega)
          have HN := Lib.hid (HI.set_ i ((s.getD i 0 + X0.getD i 0) % 4294967296)).drew
          rw [← sums] at HN
          obtain ⟨y, hy⟩ : ∃ y, s.getD i 0 = y := ⟨_, rfl⟩
          obtain ⟨z, hz⟩ : ∃ z, X0.getD i 0 = z := ⟨_, rfl⟩
          obtain ⟨v, hv⟩ : ∃ v, (y + z) % 4294967296 = v := ⟨_, rfl⟩
          rw [hy] at c6
          rw [hz] at c2
          rw [hy, hz, hv] at HN
          have e1 : IntKind.u32.wrap (y + z) = v := by rw [IntKind.wrap_u32]; exact hv
          have q0 : (0 : Int) ≤ (i : Int) ∧ (i : Int) < 8 := by omega
          clear HI hy hz hv hsl
          go_wp2
          go_region
          all_goals
            go_wp2
            go_roundw
            case rel => exact ⟨i + 1, by omega, by go_num, HN.out⟩
            case measure => simp [intOf]; omega
        · rw [show ((i : Nat) : Int) = 8 by omega]
          obtain rfl : i = 8 := by omega
          have hsl := sums_len s X0 8
          rw [hl] at hsl
          have RZ := Lib.hid (sized (sums s X0 8) hsl)
          have RL := Lib.hid (show Z8.length = (sums s X0 8).length by rw [hsl]; rfl)
          have H6 := Lib.hid HI.trd
          have H4 := Lib.hid HI.snd
          have HB := Lib.hid HI.bel
          rw [HR.out] at RZ RL H6
          clear HI hi hlt hsl
          go_wp2_with (first
            | (with_reducible refine at_any ?_; refine at_dst 34 rfl ?_; refine wpList_load_ints rfl 159 (.tmp 2) rfl g2 rfl 159 .u32 R H6.out _ Tryz.underlying159 rfl RZ.out ?_)
            | (with_reducible refine at_any ?_; refine at_store 4 rfl ?_; refine wpList_store_ints rfl 159 (.tmp 4) (.tmp 34) rfl g4 rfl 159 .u32 Z8 R H4.out rfl RL.out RZ.out ?_; intro w9 hk9 hs9 hb9 ho9)
            | (refine bodyPost_cell 4 159 rfl g4 rfl 159 .u32 R hk9.out _ Tryz.underlying159 rfl RZ.out rfl ?_))
          first | exact HB.out.trans (hb9 _ HG4.out.1) | (rw [← HW.out]; exact HB.out.trans (hb9 _ HG4.out.1))
end
end Go.Proofs.YtgnclifmfefbcaaGreatDoor

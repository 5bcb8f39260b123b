/-
  Texts of this claim, joined: UniA, RefZc, RefZ, RefZa, SafA, AlsB, AlsD, AlsE, AlsF, AlsG, AlsH, AlsI, AlsA, PikA. What each shows, and its conditions, stand at its own head.
-/
import Derived.Test.YtomkidgmpbjgeaaGreatDoorGd
import Derived.BigQuiet
import Derived.Laws.StructEq
import Derived.Test.YtomkidgmpbjgeaaGreatDoorRows
import Derived.Laws.Externs
import Derived.Lib.Mul64
/-
  What the landed uniform's functions return (Need, bounds, Draw), and that memory is left as it was.
  Conditions: the arguments lie in their types' ranges; the table of constants holds what the text lays.
-/
set_option maxRecDepth 100000
set_option linter.unusedSimpArgs false
namespace Go.Proofs.YtomkidgmpbjgeaaGreatDoor
open Go.ChangeShapes Go.WideShapes Go.ChangeAt Go.RowKit
set_option linter.unusedVariables false
theorem q8need_c (n : Int) (n0 : 0 ≤ n) (n1 : n < 18446744073709551616) (w : World) : Calls Tryz.prog 27 #[.int .u64 n] w fun e w' => e = .returned (.int .i64 (needN n : Nat)) ∧ w = w' := by
  by_cases h : n = 0
  · subst h
    go_enter Tryz.func27, Tryz.ntmps27
    go_wp2
    go_ret
    exact ⟨rfl, rfl⟩
  · have HB := Lib.hid (fun W => bits_i (n - 1) (by omega) (by omega) W)
    have hR : needN n = Wd.bitsL (n - 1).toNat := by unfold needN; rw [if_neg h]
    rw [hR]
    obtain ⟨B, hB⟩ : ∃ B, Wd.bitsL (n - 1).toNat = B := ⟨_, rfl⟩
    rw [hB] at HB ⊢
    have t1 : (n == 0) = false := by rw [beq_eq_false_iff_ne]; exact h
    have e1 : IntKind.u64.wrap (n - 1) = n - 1 := by rw [IntKind.wrap_u64]; omega
    clear h hR hB
    go_enter Tryz.func27, Tryz.ntmps27
    go_wp2_with (go_at_call 43; (with_reducible refine (HB.out _).mono ?_); rintro e _ ⟨rfl, rfl⟩)
    go_ret
    exact ⟨rfl, rfl⟩
/-- Whether a number may be a bound. -/
theorem q8bound_c (n : Int) (n0 : 0 ≤ n) (n1 : n < 18446744073709551616) (w : World) : Calls Tryz.prog 26 #[.int .u64 n] w fun e w' => e = .returned (.bool (decide (1 ≤ n ∧ n < 9223372036854775808))) ∧ w = w' := by
  by_cases h1 : 1 ≤ n
  · by_cases h2 : n < 9223372036854775808
    · rw [decide_eq_true ⟨h1, h2⟩]
      go_enter Tryz.func26, Tryz.ntmps26
      go_wp2
      go_ret
      exact ⟨rfl, rfl⟩
    · rw [decide_eq_false (fun h => h2 h.2)]
      go_enter Tryz.func26, Tryz.ntmps26
      go_wp2
      go_ret
      exact ⟨rfl, rfl⟩
  · rw [decide_eq_false (fun h => h1 h.1)]
    go_enter Tryz.func26, Tryz.ntmps26
    go_wp2
    go_ret
    exact ⟨rfl, rfl⟩
set_option maxHeartbeats 8000000 in
theorem q8draw_c (s : Src) (ok : s.Ok) (n : Int) (n0 : 0 ≤ n) (n1 : n < 18446744073709551616) (a : Int) (a0 : -9223372036854775808 ≤ a) (a1 : a < 9223372036854775808) (A0 : Option Addr) (c0 : Nat) (hc : s.tape.length ≤ c0) (hcm : c0 ≤ maxLen) (w : World) (hrd : Rd .u8 w w.heap.size A0 s.tape.length s.tape) (hkst : Kst w) : Calls Tryz.prog 15 #[.agg (srcV s A0 c0), .int .u64 n, .int .i64 a] w (RetDraw w s A0 (drawR s n a)) := by
  have HRT := Lib.hid (fun W => qsright_c s ok A0 c0 W)
  have HBD := Lib.hid (fun W => q8bound_c n n0 n1 W)
  have HZ0 := Lib.hid zero_src
  have hRd := Lib.hid hrd
  have HKS := Lib.hid hkst
  have HZSS := Lib.hid (fun (t : Src) (h : t.seed.length = 32) A c => srcV_same Src.zero t rfl h none A 0 c)
  obtain ⟨Z, hZ⟩ : ∃ Z, srcV Src.zero none 0 = Z := ⟨_, rfl⟩
  rw [hZ] at HZ0 HZSS
  by_cases hbad : ¬ drawB s n a = true
  · have hE : drawR s n a = (0, s, 1) := by unfold drawR; rw [if_neg hbad]
    have HEND : Hid (∀ w', RdP A0 s.tape.length s.tape w' → Below w.heap.size w w' → RetDraw w s A0 (drawR s n a) (.returned (.tuple #[.int .u64 0, .agg (srcV s A0 c0), .int .i64 1])) w') := Lib.hid (fun w' hr hb => ⟨A0, c0, by rw [hE], hr, hc, hcm, .inl rfl, hb⟩)
    have hcase : (rightS s = false) ∨ (rightS s = true ∧ decide (1 ≤ n ∧ n < 9223372036854775808) = false) ∨ (rightS s = true ∧ decide (1 ≤ n ∧ n < 9223372036854775808) = true ∧ a < 1) ∨ (rightS s = true ∧ decide (1 ≤ n ∧ n < 9223372036854775808) = true ∧ ¬ a < 1 ∧ 64 < a) := by
      cases h : rightS s
      · exact .inl rfl
      · refine .inr ?_
        by_cases h1 : 1 ≤ n ∧ n < 9223372036854775808
        · refine .inr ?_
          by_cases h3 : a < 1
          · exact .inl ⟨rfl, decide_eq_true h1, h3⟩
          · refine .inr ⟨rfl, decide_eq_true h1, h3, Decidable.byContradiction fun h4 => hbad ?_⟩
            unfold drawB
            rw [h, Bool.true_and]
            exact decide_eq_true ⟨h1.1, h1.2, by omega, by omega⟩
        · exact .inl ⟨rfl, decide_eq_false h1⟩
    have SV := Lib.hid (sizedS s ok.sl A0 c0)
    have OV := Lib.hid (srcV_ones s A0 c0)
    have ZV := Lib.hid (HZSS.out s ok.sl A0 c0)
    obtain ⟨V, hV⟩ : ∃ V, srcV s A0 c0 = V := ⟨_, rfl⟩
    rw [hV] at HRT HEND SV OV ZV
    rw [hV]
    obtain ⟨rr, hrr⟩ : ∃ r, drawR s n a = r := ⟨_, rfl⟩
    rw [hrr] at HEND ⊢
    obtain ⟨bd, hbd⟩ : ∃ b, decide (1 ≤ n ∧ n < 9223372036854775808) = b := ⟨_, rfl⟩
    rw [hbd] at HBD hcase
    clear hZ hV hE hbad hrd hkst hrr hbd
    rcases hcase with hr | ⟨hr, rfl⟩ | ⟨hr, rfl, h3⟩ | ⟨hr, rfl, h3, h4⟩
    all_goals
      rw [hr] at HRT
      go_enter Tryz.func15, Tryz.ntmps15
      go_wp2_with (first
        | (with_reducible refine at_any ?_; refine at_dst 3 rfl ?_; refine wpList_box_any rfl 30 (.tmp 0) rfl V rfl ?_; intro w1 hk1 hs1 hb1)
        | (with_reducible refine at_any ?_; refine at_dst 7 rfl ?_; refine wpList_alloc_any rfl 30 rfl Z HZ0.out ?_; intro w2 hk2 hs2 hb2; have k2 := Lib.hid (hk1.out.below hb2 hk1.out.lt))
        | (with_reducible refine at_any ?_; refine at_dst 13 rfl ?_; refine wpList_load_blk rfl 30 (.tmp 3) rfl w.heap.size rfl 30 V k2.out _ Tryz.underlying30 rfl SV.out ?_)
        | (go_at_call 25; (with_reducible refine (HRT.out _).mono ?_); rintro e wz ⟨rfl, hbz⟩)
        | (go_at_call 26; (with_reducible refine (HBD.out _).mono ?_); rintro e _ ⟨rfl, rfl⟩))
      have HS := DrS.mk2 hRd.out hk1.out hb1 hk2.out hb2 hbz
      have HZ : Fx [.blk w1.heap.size 30 Z] wz := ⟨hk2.out.below hbz hk2.out.lt, trivial⟩
      obtain ⟨g3, hg3⟩ : ∃ g, w.heap.size = g := ⟨_, rfl⟩
      obtain ⟨g7, hg7⟩ : ∃ g, w1.heap.size = g := ⟨_, rfl⟩
      obtain ⟨zs, hzs⟩ : ∃ zs, s.tape = zs := ⟨_, rfl⟩
      obtain ⟨L, hL⟩ : ∃ L, zs.length = L := ⟨_, rfl⟩
      rw [hzs, hL] at HEND
      rw [hg3, hg7, hzs, hL] at HS
      rw [hg7] at HZ
      rw [hg3, hg7]
      clear hg3 hg7 hzs hL hk1 hs1 hb1 hk2 hs2 hb2 k2 hbz
      have HZ7 := HZ.drew
      refine wp_region_held_drew (S := (DrS w g3 g7 V A0 L zs)) (by kernel_rfl) HS.drew (fun hH => ?_)
      refine wpAnyH_letter #[false, false, false, false] (by kernel_rfl) (fun _ _ d _ _ h => by cases d <;> exact h) (fun QL HQ1 HQ2 => ?_)
      refine held_row 0 (some 29) rfl (by kernel_rfl) (by kernel_rfl) (by kernel_rfl) (by kernel_rfl) (fun c a v w h => HQ2.out c a _ v w h) (by kernel_rfl) 30 (.tmp 3) rfl g3 (by kernel_rfl) 30 V (fun _ h => h.blk) _ Tryz.underlying30 rfl SV.out hH ?_
      try simp only [Act.put, List.setIfInBounds_toArray, List.set_cons_zero, List.set_cons_succ]
      refine held_v 1 (some 6) rfl (by kernel_rfl) (by kernel_rfl) (by kernel_rfl) (by kernel_rfl) (fun c a v w h => HQ2.out c a _ v w h) (by kernel_rfl) (.int .u64 0) (fun W h => by kernel_rfl) hH ?_
      try simp only [Act.put, List.setIfInBounds_toArray, List.set_cons_zero, List.set_cons_succ]
      refine wpAnyH_ready (rs := [2]) (by kernel_rfl) (by decide) ?_
      refine AllReadyH.cons rfl (fun K hK => ?_) AllReadyH.nil
      refine step_store none (by kernel_rfl) (by kernel_rfl) 30 (.tmp 7) (.tmp 29) rfl g7 (by kernel_rfl) 30 Z V HZ7.1 (by kernel_rfl) ZV.out SV.out OV.out ?_
      intro w41 hkw41 hsw41 hbw41 how41
      have ex42 : Fx [.blk g7 30 V] w41 := ⟨hkw41.out, trivial⟩
      refine hK.out _ _ (hH.store HZ7.1 hH.store7 hsw41.out hbw41 how41) (fun hw41 => ?_)
      clear hK K
      try simp only [Act.put, List.setIfInBounds_toArray, List.set_cons_zero, List.set_cons_succ]
      refine held_v 3 (some 8) rfl (by kernel_rfl) (by kernel_rfl) (by kernel_rfl) (by kernel_rfl) (fun c a v w h => HQ2.out c a _ v w h) (by kernel_rfl) (.int .i64 1) (fun W h => by kernel_rfl) hw41 ?_
      try simp only [Act.put, List.setIfInBounds_toArray, List.set_cons_zero, List.set_cons_succ]
      refine wpAnyH_done (by kernel_rfl) ?_ _
      refine HQ1.out _ _ ?_
      clear HQ1 HQ2
      go_wp2_with (refine bodyPost_mid 6 7 8 30 rfl g7 rfl (.int .u64 0) (.int .i64 1) rfl rfl 30 V ex42.1 _ Tryz.underlying30 rfl SV.out rfl ?_)
      exact HEND.out _ hw41.rd hw41.bel
  · have hgood : drawB s n a = true := Decidable.of_not_not hbad
    have hE : drawR s n a = drawGo (needN n) n a.toNat s := by unfold drawR; rw [if_pos hgood]
    obtain ⟨hr, hd⟩ : rightS s = true ∧ decide (1 ≤ n ∧ n < 9223372036854775808 ∧ 1 ≤ a ∧ a ≤ 64) = true := by unfold drawB at hgood; rwa [Bool.and_eq_true] at hgood
    obtain ⟨nn0, nn1, aa0, aa1⟩ := of_decide_eq_true hd
    rw [decide_eq_true ⟨nn0, nn1⟩] at HBD
    have h3 : ¬ a < 1 := by omega
    have h4 : ¬ 64 < a := by omega
    have hk64 := needN_le n n0 n1
    have HND := Lib.hid (fun W => q8need_c n n0 n1 W)
    obtain ⟨k, hk⟩ : ∃ k, needN n = k := ⟨_, rfl⟩
    rw [hk] at hE hk64 HND
    rw [hE]
    obtain ⟨a, rfl⟩ := Int.eq_ofNat_of_zero_le (show 0 ≤ a by omega)
    rw [Int.toNat_natCast]
    rw [hr] at HRT
    have HTAKE := Lib.hid (fun (t : Src) (okt : t.Ok) (A : Option Addr) (c : Nat) (h1 : t.tape.length ≤ c) (h2 : c ≤ maxLen) (W : World) (h3 : Rd .u8 W W.heap.size A t.tape.length t.tape) (kk : Kst W) => qstake_c t okt (k : Int) (by omega) (by omega) A c h1 h2 W h3 kk)
    have SV := Lib.hid (sizedS s ok.sl A0 c0)
    have HL0 : Hid (∀ g3 g7 W, DrS w g3 g7 (srcV s A0 c0) A0 s.tape.length s.tape W → Fx [.blk g7 30 Z] W → DrL w g3 g7 s k n a A0 Z 0 W) := Lib.hid (fun g3 g7 W h1 h2 => ⟨s, A0, c0, rfl, ok, rfl, h1, h2, .inl rfl, hc, hcm⟩)
    obtain ⟨V, hV⟩ : ∃ V, srcV s A0 c0 = V := ⟨_, rfl⟩
    rw [hV] at HRT SV HL0
    rw [hV]
    obtain ⟨rr, hrr⟩ : ∃ r, drawGo k n a s = r := ⟨_, rfl⟩
    rw [hrr]
    have HRR := Lib.hid hrr
    clear hZ hV hE hbad hrd hkst hrr hgood hd hr hk a0 a1 aa0 hc hcm
    have aa2 : a ≤ 64 := by omega
    clear aa1
    go_enter Tryz.func15, Tryz.ntmps15
    go_wp2_with (first
      | (with_reducible refine at_any ?_; refine at_dst 3 rfl ?_; refine wpList_box_any rfl 30 (.tmp 0) rfl V rfl ?_; intro w1 hk1 hs1 hb1)
      | (with_reducible refine at_any ?_; refine at_dst 7 rfl ?_; refine wpList_alloc_any rfl 30 rfl Z HZ0.out ?_; intro w2 hk2 hs2 hb2; have k2 := Lib.hid (hk1.out.below hb2 hk1.out.lt))
      | (with_reducible refine at_any ?_; refine at_dst 13 rfl ?_; refine wpList_load_blk rfl 30 (.tmp 3) rfl w.heap.size rfl 30 V k2.out _ Tryz.underlying30 rfl SV.out ?_)
      | (go_at_call 25; (with_reducible refine (HRT.out _).mono ?_); rintro e wz ⟨rfl, hbz⟩)
      | (go_at_call 26; (with_reducible refine (HBD.out _).mono ?_); rintro e _ ⟨rfl, rfl⟩)
      | (go_at_call 27; (with_reducible refine (HND.out _).mono ?_); rintro e _ ⟨rfl, rfl⟩))
    have HS := DrS.mk2 hRd.out hk1.out hb1 hk2.out hb2 hbz
    have HZ : Fx [.blk w1.heap.size 30 Z] wz := ⟨hk2.out.below hbz hk2.out.lt, trivial⟩
    have HL := Lib.hid (HL0.out _ _ _ HS HZ)
    obtain ⟨g3, hg3⟩ : ∃ g, w.heap.size = g := ⟨_, rfl⟩
    obtain ⟨g7, hg7⟩ : ∃ g, w1.heap.size = g := ⟨_, rfl⟩
    rw [hg3, hg7] at HL
    rw [hg3, hg7]
    clear hg3 hg7 hk1 hs1 hb1 hk2 hs2 hb2 k2 hbz HS HZ HL0 HRT SV HBD h3 h4
    go_loopw [33] (fun cc wr => ∃ i : Nat, i ≤ a ∧ cc = .int .i64 i ∧ DrL w g3 g7 s k n a A0 Z i wr) (fun cc _ => a - (intOf cc).toNat)
    case atStart => exact ⟨0, by omega, rfl, HL.out⟩
    case round =>
      clear HL
      obtain ⟨i, hi, rfl, si, A, c, hgo, oki, htp, HS, HZ, hsp, hcl, hcm⟩ := hrel
      have SV := Lib.hid (sizedS si oki.sl A c)
      have OV := Lib.hid (srcV_ones si A c)
      have ZV := Lib.hid (HZSS.out si oki.sl A c)
      have HSP := Lib.hid hsp
      rw [HRR.out] at hgo
      by_cases hlt : i < a
      · have HTK := Lib.hid (fun (W : World) (h3 : RdP A s.tape.length s.tape W) (kk : Kst W) => HTAKE.out si oki A c (by rw [htp]; exact hcl) hcm W (by rw [htp]; exact h3) kk)
        have hst : a - i = a - i - 1 + 1 := by omega
        rw [hst] at hgo
        have hti := takeE_in si k
        have hvi := takeV_in si k
        have htok := takeS_ok oki k
        have http := takeS_tape si k
        rw [htp] at http
        have hgz : takeE si k ≠ 0 → rr = (0, si, takeE si k) := fun h => by rw [hgo, drawGo_err h]
        have hgh : takeE si k = 0 → takeV si k < n → rr = (takeV si k, takeS si k, 0) := fun h h2 => by rw [hgo, drawGo_hit h h2]
        have hgm : takeE si k = 0 → ¬ takeV si k < n → rr = drawGo k n (a - (i + 1)) (takeS si k) := fun h h2 => by rw [hgo, drawGo_miss h h2, show a - i - 1 = a - (i + 1) by omega]
        have hsi : takeE si k ≠ 0 → takeS si k = si := fun h => by unfold takeS; rw [if_neg h]
        unfold RetTake at HTK
        rw [htp] at HTK
        obtain ⟨X, hX⟩ : ∃ X, takeV si k = X := ⟨_, rfl⟩
        obtain ⟨E, hE⟩ : ∃ E, takeE si k = E := ⟨_, rfl⟩
        obtain ⟨t, ht⟩ : ∃ t, takeS si k = t := ⟨_, rfl⟩
        rw [hX, hE, ht] at HTK
        rw [hX] at hvi hgh hgm
        rw [hE] at hti hgz hgh hgm hsi
        rw [ht] at htok http hgh hgm hsi
        have ST := Lib.hid (fun A c => sizedS t htok.sl A c)
        have OT := Lib.hid (fun A c => srcV_ones t A c)
        have ZT := Lib.hid (fun A c => HZSS.out t htok.sl A c)
        obtain ⟨zs, hzs⟩ : ∃ zs, s.tape = zs := ⟨_, rfl⟩
        obtain ⟨L, hL⟩ : ∃ L, zs.length = L := ⟨_, rfl⟩
        have HG1 : Hid (∀ A2 c2 g11 W, DrS w g3 g7 (srcV si A c) A L zs W → Blk W g7 30 Z → Blk W g11 30 (srcV t A2 c2) → RdP A2 L zs W → Apt L A2 g3 → Apt L A2 g7 → Sep w A0 A2 → L ≤ c2 → c2 ≤ maxLen → g3 ≠ g11 → g7 ≠ g11 → True) := Lib.hid (fun _ _ _ _ _ _ _ _ _ _ _ _ _ _ _ => trivial)
        have HEZ : Hid (E ≠ 0 → ∀ w', RdP A L zs w' → Below w.heap.size w w' → RetDraw w s A0 rr (.returned (.tuple #[.int .u64 0, .agg (srcV si A c), .int .i64 E])) w') := Lib.hid (fun h w' hr hb => ⟨A, c, by rw [hgz h], by rw [hzs, hL]; exact hr, hcl, hcm, hsp, hb⟩)
        have HEH : Hid (E = 0 → X < n → ∀ A2 c2 w', Sep w A0 A2 → L ≤ c2 → c2 ≤ maxLen → RdP A2 L zs w' → Below w.heap.size w w' → RetDraw w s A0 rr (.returned (.tuple #[.int .u64 X, .agg (srcV t A2 c2), .int .i64 0])) w') := Lib.hid (fun h h2 A2 c2 w' h3 h4 h5 hr hb => ⟨A2, c2, by rw [hgh h h2], by rw [hzs, hL]; exact hr, by rw [hzs, hL]; exact h4, h5, h3, hb⟩)
        have HEM : Hid (E = 0 → ¬ X < n → ∀ A2 c2 W, DrS w g3 g7 (srcV t A2 c2) A2 L zs W → Fx [.blk g7 30 Z] W → Sep w A0 A2 → L ≤ c2 → c2 ≤ maxLen → DrL w g3 g7 s k n a A0 Z (i + 1) W) := Lib.hid (fun h h2 A2 c2 W h3 h4 h5 h6 h7 => ⟨t, A2, c2, by rw [HRR.out]; exact hgm h h2, htok, by rw [http, hzs], by rw [hzs, hL]; exact h3, h4, h5, by rw [hzs, hL]; exact h6, h7⟩)
        rw [hzs, hL] at HTK
        rw [hzs, hL] at HS hcl
        clear hgo oki htp hsp hst htok http hgz hgh hgm hsi hX hE ht hzs hL HG1
        obtain ⟨V, hV⟩ : ∃ V, srcV si A c = V := ⟨_, rfl⟩
        rw [hV] at SV OV ZV HS HTK HEZ
        clear hV HTAKE HZSS
        by_cases hE0 : E = 0
        · have t1 : (E == 0) = true := by rw [beq_iff_eq]; exact hE0
          have t2 : (E != 0) = false := by rw [bne, t1]; rfl
          by_cases hx : X < n
          · have t0 : True := trivial
            go_wp2_with (first
              | (with_reducible refine at_any ?_; refine at_dst 36 rfl ?_; refine wpList_load_blk rfl 30 (.tmp 3) rfl g3 rfl 30 V HS.blk _ Tryz.underlying30 rfl SV.out ?_)
              | (go_at_call 28; (with_reducible refine (HTK.out _ HS.rd (HKS.out.below HS.bel)).mono ?_); rintro e w5 ⟨A2, c2, rfl, hrd2, hc2, hm2, hsp2, hb5⟩; obtain ⟨V2, hV2⟩ : ∃ V2, srcV t A2 c2 = V2 := ⟨_, rfl⟩; have SV2 := Lib.hid (ST.out A2 c2); have OV2 := Lib.hid (OT.out A2 c2); have ZV2 := Lib.hid (ZT.out A2 c2); have HM2 := Lib.hid (fun h h2 W h3 h4 => HEM.out h h2 A2 c2 W h3 h4 (Sep.trans HSP.out hsp2 HS.bel.size) hc2 hm2); have HH2 := Lib.hid (fun h h2 w' h3 h4 => HEH.out h h2 A2 c2 w' (Sep.trans HSP.out hsp2 HS.bel.size) hc2 hm2 h3 h4); rw [hV2] at SV2 OV2 ZV2 HM2 HH2 ⊢; clear hV2 hc2 hm2)
              | (with_reducible refine at_any ?_; refine at_dst 11 rfl ?_; refine wpList_alloc_any rfl 30 rfl Z HZ0.out ?_; intro w6 hk6 hs6 hb6)
              | (with_reducible refine at_any ?_; refine at_store 11 rfl ?_; refine wpList_store_any rfl 30 (.tmp 11) (.tmp 40) rfl w5.heap.size rfl 30 Z V2 hk6.out rfl ZV2.out SV2.out OV2.out ?_; intro w7 hk7 hs7 hb7 ho7; have T := Lib.hid (HS.took HZ hrd2 hsp2 hb5 hb6 hk6.out hk7.out hs7.out hb7 ho7)))
            obtain ⟨-, HZ, -, -, -, HD⟩ := T.out
            obtain ⟨g11, hg11⟩ : ∃ g, w5.heap.size = g := ⟨_, rfl⟩
            rw [hg11] at HD
            try rw [hg11]
            have HZ7 := HZ.drew
            refine wp_region_held_drew (S := (DrH w g7 g11 V2 A2 L zs)) (by kernel_rfl) HD.drew (fun hH => ?_)
            refine wpAnyH_letter #[false, false, false, false, false] (by kernel_rfl) (fun _ _ d _ _ h => by cases d <;> exact h) (fun QL HQ1 HQ2 => ?_)
            refine held_v 0 (some 49) rfl (by kernel_rfl) (by kernel_rfl) (by kernel_rfl) (by kernel_rfl) (fun c a v w h => HQ2.out c a _ v w h) (by kernel_rfl) (.int .u64 X) (fun W h => by kernel_rfl) hH ?_
            try simp only [Act.put, List.setIfInBounds_toArray, List.set_cons_zero, List.set_cons_succ]
            refine held_row 1 (some 50) rfl (by kernel_rfl) (by kernel_rfl) (by kernel_rfl) (by kernel_rfl) (fun c a v w h => HQ2.out c a _ v w h) (by kernel_rfl) 30 (.tmp 11) rfl g11 (by kernel_rfl) 30 V2 (fun _ h => h.blk) _ Tryz.underlying30 rfl SV2.out hH ?_
            try simp only [Act.put, List.setIfInBounds_toArray, List.set_cons_zero, List.set_cons_succ]
            refine held_v 2 (some 6) rfl (by kernel_rfl) (by kernel_rfl) (by kernel_rfl) (by kernel_rfl) (fun c a v w h => HQ2.out c a _ v w h) (by kernel_rfl) (.int .u64 X) (fun W h => by kernel_rfl) hH ?_
            try simp only [Act.put, List.setIfInBounds_toArray, List.set_cons_zero, List.set_cons_succ]
            refine wpAnyH_ready (rs := [3]) (by kernel_rfl) (by decide) ?_
            refine AllReadyH.cons rfl (fun K hK => ?_) AllReadyH.nil
            refine step_store none (by kernel_rfl) (by kernel_rfl) 30 (.tmp 7) (.tmp 50) rfl g7 (by kernel_rfl) 30 Z V2 HZ7.1 (by kernel_rfl) ZV2.out SV2.out OV2.out ?_
            intro w141 hkw141 hsw141 hbw141 how141
            have ex142 : Fx [.blk g7 30 V2] w141 := ⟨hkw141.out, trivial⟩
            refine hK.out _ _ (hH.store HZ7.1 hH.store7 hsw141.out hbw141 how141) (fun hw141 => ?_)
            clear hK K
            try simp only [Act.put, List.setIfInBounds_toArray, List.set_cons_zero, List.set_cons_succ]
            refine held_v 4 (some 8) rfl (by kernel_rfl) (by kernel_rfl) (by kernel_rfl) (by kernel_rfl) (fun c a v w h => HQ2.out c a _ v w h) (by kernel_rfl) (.int .i64 0) (fun W h => by kernel_rfl) hw141 ?_
            try simp only [Act.put, List.setIfInBounds_toArray, List.set_cons_zero, List.set_cons_succ]
            refine wpAnyH_done (by kernel_rfl) ?_ _
            refine HQ1.out _ _ ?_
            clear HQ1 HQ2
            go_wp2_with (refine bodyPost_mid 6 7 8 30 rfl g7 rfl (.int .u64 X) (.int .i64 0) rfl rfl 30 V2 ex142.1 _ Tryz.underlying30 rfl SV2.out rfl ?_)
            exact HH2.out hE0 hx _ hw141.rd.rd hw141.bel
          · have hx2 : n ≤ X := by omega
            go_wp2_with (first
              | (with_reducible refine at_any ?_; refine at_dst 36 rfl ?_; refine wpList_load_blk rfl 30 (.tmp 3) rfl g3 rfl 30 V HS.blk _ Tryz.underlying30 rfl SV.out ?_)
              | (go_at_call 28; (with_reducible refine (HTK.out _ HS.rd (HKS.out.below HS.bel)).mono ?_); rintro e w5 ⟨A2, c2, rfl, hrd2, hc2, hm2, hsp2, hb5⟩; obtain ⟨V2, hV2⟩ : ∃ V2, srcV t A2 c2 = V2 := ⟨_, rfl⟩; have SV2 := Lib.hid (ST.out A2 c2); have OV2 := Lib.hid (OT.out A2 c2); have ZV2 := Lib.hid (ZT.out A2 c2); have HM2 := Lib.hid (fun h h2 W h3 h4 => HEM.out h h2 A2 c2 W h3 h4 (Sep.trans HSP.out hsp2 HS.bel.size) hc2 hm2); have HH2 := Lib.hid (fun h h2 w' h3 h4 => HEH.out h h2 A2 c2 w' (Sep.trans HSP.out hsp2 HS.bel.size) hc2 hm2 h3 h4); rw [hV2] at SV2 OV2 ZV2 HM2 HH2 ⊢; clear hV2 hc2 hm2)
              | (with_reducible refine at_any ?_; refine at_dst 11 rfl ?_; refine wpList_alloc_any rfl 30 rfl Z HZ0.out ?_; intro w6 hk6 hs6 hb6)
              | (with_reducible refine at_any ?_; refine at_store 11 rfl ?_; refine wpList_store_any rfl 30 (.tmp 11) (.tmp 40) rfl w5.heap.size rfl 30 Z V2 hk6.out rfl ZV2.out SV2.out OV2.out ?_; intro w7 hk7 hs7 hb7 ho7; have T := Lib.hid (HS.took HZ hrd2 hsp2 hb5 hb6 hk6.out hk7.out hs7.out hb7 ho7))
              | (with_reducible refine at_any ?_; refine at_dst 51 rfl ?_; refine wpList_load_blk rfl 30 (.tmp 11) rfl w5.heap.size rfl 30 V2 hk7.out _ Tryz.underlying30 rfl SV2.out ?_)
              | (with_reducible refine at_any ?_; refine at_store 3 rfl ?_; refine wpList_store_any rfl 30 (.tmp 3) (.tmp 51) rfl g3 rfl 30 V V2 T.out.1.blk rfl (ZV.out.symm.trans ZV2.out) SV2.out OV2.out ?_; intro w9 hk9 hs9 hb9 ho9; have HS9 := Lib.hid (T.out.1.put3 T.out.2.2.1 T.out.2.2.2.1 T.out.2.2.2.2.1 hk9.out hs9.out hb9 ho9); have HZ9 := Lib.hid (T.out.2.1.store T.out.1.blk (T.out.1.hof Z) hs9.out hb9 ho9)))
            have HF := Lib.hid (HM2.out hE0 (by first | exact hx2 | exact Int.not_lt.2 hx2) _ HS9.out HZ9.out)
            clear HS9 HZ9 T
            go_roundw
            case rel => exact ⟨i + 1, by omega, by go_num, HF.out⟩
            case measure => simp [intOf]; omega
        · have t1 : (E == 0) = false := by rw [beq_eq_false_iff_ne]; exact hE0
          have t2 : (E != 0) = true := by rw [bne, t1]; rfl
          go_wp2_with (first
            | (with_reducible refine at_any ?_; refine at_dst 36 rfl ?_; refine wpList_load_blk rfl 30 (.tmp 3) rfl g3 rfl 30 V HS.blk _ Tryz.underlying30 rfl SV.out ?_)
            | (go_at_call 28; (with_reducible refine (HTK.out _ HS.rd (HKS.out.below HS.bel)).mono ?_); rintro e w5 ⟨A2, c2, rfl, hrd2, hc2, hm2, hsp2, hb5⟩; obtain ⟨V2, hV2⟩ : ∃ V2, srcV t A2 c2 = V2 := ⟨_, rfl⟩; have SV2 := Lib.hid (ST.out A2 c2); have OV2 := Lib.hid (OT.out A2 c2); have ZV2 := Lib.hid (ZT.out A2 c2); have HM2 := Lib.hid (fun h h2 W h3 h4 => HEM.out h h2 A2 c2 W h3 h4 (Sep.trans HSP.out hsp2 HS.bel.size) hc2 hm2); have HH2 := Lib.hid (fun h h2 w' h3 h4 => HEH.out h h2 A2 c2 w' (Sep.trans HSP.out hsp2 HS.bel.size) hc2 hm2 h3 h4); rw [hV2] at SV2 OV2 ZV2 HM2 HH2 ⊢; clear hV2 hc2 hm2)
            | (with_reducible refine at_any ?_; refine at_dst 11 rfl ?_; refine wpList_alloc_any rfl 30 rfl Z HZ0.out ?_; intro w6 hk6 hs6 hb6)
            | (with_reducible refine at_any ?_; refine at_store 11 rfl ?_; refine wpList_store_any rfl 30 (.tmp 11) (.tmp 40) rfl w5.heap.size rfl 30 Z V2 hk6.out rfl ZV2.out SV2.out OV2.out ?_; intro w7 hk7 hs7 hb7 ho7; have T := Lib.hid (HS.took HZ hrd2 hsp2 hb5 hb6 hk6.out hk7.out hs7.out hb7 ho7)))
          obtain ⟨HS7, HZ, -⟩ := T.out
          have HZ7 := HZ.drew
          refine wp_region_held_drew (S := (DrS w g3 g7 V A L zs)) (by kernel_rfl) HS7.drew (fun hH => ?_)
          refine wpAnyH_letter #[false, false, false, false, false] (by kernel_rfl) (fun _ _ d _ _ h => by cases d <;> exact h) (fun QL HQ1 HQ2 => ?_)
          refine held_row 0 (some 44) rfl (by kernel_rfl) (by kernel_rfl) (by kernel_rfl) (by kernel_rfl) (fun c a v w h => HQ2.out c a _ v w h) (by kernel_rfl) 30 (.tmp 3) rfl g3 (by kernel_rfl) 30 V (fun _ h => h.blk) _ Tryz.underlying30 rfl SV.out hH ?_
          try simp only [Act.put, List.setIfInBounds_toArray, List.set_cons_zero, List.set_cons_succ]
          refine held_v 1 (some 45) rfl (by kernel_rfl) (by kernel_rfl) (by kernel_rfl) (by kernel_rfl) (fun c a v w h => HQ2.out c a _ v w h) (by kernel_rfl) (.int .i64 E) (fun W h => by kernel_rfl) hH ?_
          try simp only [Act.put, List.setIfInBounds_toArray, List.set_cons_zero, List.set_cons_succ]
          refine held_v 2 (some 6) rfl (by kernel_rfl) (by kernel_rfl) (by kernel_rfl) (by kernel_rfl) (fun c a v w h => HQ2.out c a _ v w h) (by kernel_rfl) (.int .u64 0) (fun W h => by kernel_rfl) hH ?_
          try simp only [Act.put, List.setIfInBounds_toArray, List.set_cons_zero, List.set_cons_succ]
          refine wpAnyH_ready (rs := [3]) (by kernel_rfl) (by decide) ?_
          refine AllReadyH.cons rfl (fun K hK => ?_) AllReadyH.nil
          refine step_store none (by kernel_rfl) (by kernel_rfl) 30 (.tmp 7) (.tmp 44) rfl g7 (by kernel_rfl) 30 Z V HZ7.1 (by kernel_rfl) ZV.out SV.out OV.out ?_
          intro w141 hkw141 hsw141 hbw141 how141
          have ex142 : Fx [.blk g7 30 V] w141 := ⟨hkw141.out, trivial⟩
          refine hK.out _ _ (hH.store HZ7.1 hH.store7 hsw141.out hbw141 how141) (fun hw141 => ?_)
          clear hK K
          try simp only [Act.put, List.setIfInBounds_toArray, List.set_cons_zero, List.set_cons_succ]
          refine held_v 4 (some 8) rfl (by kernel_rfl) (by kernel_rfl) (by kernel_rfl) (by kernel_rfl) (fun c a v w h => HQ2.out c a _ v w h) (by kernel_rfl) (.int .i64 E) (fun W h => by kernel_rfl) hw141 ?_
          try simp only [Act.put, List.setIfInBounds_toArray, List.set_cons_zero, List.set_cons_succ]
          refine wpAnyH_done (by kernel_rfl) ?_ _
          refine HQ1.out _ _ ?_
          clear HQ1 HQ2
          go_wp2_with (refine bodyPost_mid 6 7 8 30 rfl g7 rfl (.int .u64 0) (.int .i64 E) rfl rfl 30 V ex142.1 _ Tryz.underlying30 rfl SV.out rfl ?_)
          exact HEZ.out hE0 _ hw141.rd.rd hw141.bel
      · obtain rfl : i = a := by omega
        rw [Nat.sub_self, drawGo_zero] at hgo
        have HEND : Hid (∀ w', RdP A s.tape.length s.tape w' → Below w.heap.size w w' → RetDraw w s A0 rr (.returned (.tuple #[.int .u64 0, .agg (srcV si A c), .int .i64 9])) w') := Lib.hid (fun w' hr hb => ⟨A, c, by rw [hgo], hr, hcl, hcm, hsp, hb⟩)
        obtain ⟨zs, hzs⟩ : ∃ zs, s.tape = zs := ⟨_, rfl⟩
        obtain ⟨L, hL⟩ : ∃ L, zs.length = L := ⟨_, rfl⟩
        rw [hzs, hL] at HEND HS
        obtain ⟨V, hV⟩ : ∃ V, srcV si A c = V := ⟨_, rfl⟩
        rw [hV] at SV OV ZV HEND HS
        clear hgo oki htp hsp hcl hcm hzs hL hV HTAKE HND HZSS
        go_wp2_with fail
        have HZ7 := HZ.drew
        refine wp_region_held_drew (S := (DrS w g3 g7 V A L zs)) (by kernel_rfl) HS.drew (fun hH => ?_)
        refine wpAnyH_letter #[false, false, false, false] (by kernel_rfl) (fun _ _ d _ _ h => by cases d <;> exact h) (fun QL HQ1 HQ2 => ?_)
        refine held_row 0 (some 53) rfl (by kernel_rfl) (by kernel_rfl) (by kernel_rfl) (by kernel_rfl) (fun c a v w h => HQ2.out c a _ v w h) (by kernel_rfl) 30 (.tmp 3) rfl g3 (by kernel_rfl) 30 V (fun _ h => h.blk) _ Tryz.underlying30 rfl SV.out hH ?_
        try simp only [Act.put, List.setIfInBounds_toArray, List.set_cons_zero, List.set_cons_succ]
        refine held_v 1 (some 6) rfl (by kernel_rfl) (by kernel_rfl) (by kernel_rfl) (by kernel_rfl) (fun c a v w h => HQ2.out c a _ v w h) (by kernel_rfl) (.int .u64 0) (fun W h => by kernel_rfl) hH ?_
        try simp only [Act.put, List.setIfInBounds_toArray, List.set_cons_zero, List.set_cons_succ]
        refine wpAnyH_ready (rs := [2]) (by kernel_rfl) (by decide) ?_
        refine AllReadyH.cons rfl (fun K hK => ?_) AllReadyH.nil
        refine step_store none (by kernel_rfl) (by kernel_rfl) 30 (.tmp 7) (.tmp 53) rfl g7 (by kernel_rfl) 30 Z V HZ7.1 (by kernel_rfl) ZV.out SV.out OV.out ?_
        intro w41 hkw41 hsw41 hbw41 how41
        have ex42 : Fx [.blk g7 30 V] w41 := ⟨hkw41.out, trivial⟩
        refine hK.out _ _ (hH.store HZ7.1 hH.store7 hsw41.out hbw41 how41) (fun hw41 => ?_)
        clear hK K
        try simp only [Act.put, List.setIfInBounds_toArray, List.set_cons_zero, List.set_cons_succ]
        refine held_v 3 (some 8) rfl (by kernel_rfl) (by kernel_rfl) (by kernel_rfl) (by kernel_rfl) (fun c a v w h => HQ2.out c a _ v w h) (by kernel_rfl) (.int .i64 9) (fun W h => by kernel_rfl) hw41 ?_
        try simp only [Act.put, List.setIfInBounds_toArray, List.set_cons_zero, List.set_cons_succ]
        refine wpAnyH_done (by kernel_rfl) ?_ _
        refine HQ1.out _ _ ?_
        clear HQ1 HQ2
        go_wp2_with (refine bodyPost_mid 6 7 8 30 rfl g7 rfl (.int .u64 0) (.int .i64 9) rfl rfl 30 V ex42.1 _ Tryz.underlying30 rfl SV.out rfl ?_)
        exact HEND.out _ hw41.rd hw41.bel
end Go.Proofs.YtomkidgmpbjgeaaGreatDoor
/-
  What drawlotref14 returns: whether two tables are the same.
  Conditions: the numbers lie in their types' ranges; the cells read as pairs.
-/
set_option maxRecDepth 100000
set_option linter.unusedVariables false
set_option linter.unusedSimpArgs false
namespace Go.Proofs.YtomkidgmpbjgeaaGreatDoor
open Go.ChangeShapes Go.WideShapes Go.ChangeAt Go.RowKit
theorem eq_cell (a b c d : Int) (W : World) : (Op.equalIn 10000 58 (.agg #[.int .u64 a, .int .i64 b]) (.agg #[.int .u64 c, .int .i64 d])).run Tryz.prog W = .ok (decide (a = c ∧ b = d)) W := by
  by_cases h : a = c
  · by_cases h2 : b = d
    · subst h h2
      go_simp
    · subst h
      have h3 : (b == d) = false := by rw [beq_eq_false_iff_ne]; exact h2
      go_simp
  · have h3 : (a == c) = false := by rw [beq_eq_false_iff_ne]; exact h
    go_simp
theorem size_cell : (Tryz.prog.info? 58).map (·.size) = some 2 := by kernel_rfl
theorem range_cell {w : World} {b off : Nat} {u v : Value} (h : w.cell? ⟨b, off, none⟩ = some u) (h2 : w.cell? ⟨b, off + 1, none⟩ = some v) : w.rangeAt b off [u, v] := by
  intro j z hz
  match j, hz with
  | 0, hz => injection hz with hz; subst hz; exact h
  | 1, hz => injection hz with hz; subst hz; exact h2
  | j + 2, hz => simp at hz
theorem ext_cell {xs ys : List (Int × Int)} (h : xs.length = ys.length) (h2 : ∀ j, j < xs.length → cellL xs j = cellL ys j) : xs = ys := by
  apply List.ext_getElem h
  intro j h3 h4
  have h5 := h2 j h3
  simpa [cellL, List.getD_eq_getElem?_getD, List.getElem?_eq_getElem h3, List.getElem?_eq_getElem h4] using h5
end Go.Proofs.YtomkidgmpbjgeaaGreatDoor
/-
  What drawlotref14 returns of a table: whether it may be.
  Conditions: the numbers lie in their types' ranges; the cells read as pairs.
-/
set_option maxRecDepth 100000
set_option linter.unusedVariables false
set_option linter.unusedSimpArgs false
namespace Go.Proofs.YtomkidgmpbjgeaaGreatDoor
open Go.ChangeShapes Go.WideShapes Go.ChangeAt Go.RowKit
theorem ret_iiT {a b c d : Int} (h : a = b) (h2 : c = d) : Ending.returned (.tuple #[.int .i64 a, .int .i64 c]) = .returned (.tuple #[.int .i64 b, .int .i64 d]) := by rw [h, h2]
set_option maxHeartbeats 2000000 in
theorem r14right_c (T : Int) (T0 : 0 ≤ T) (T1 : T < 18446744073709551616) (ts : List (Int × Int)) (hts : PrOk ts) (A : Option Addr) (n c : Nat) (hn : n ≤ maxLen) (w : World) (hrd : RdPr .u64 .i64 w w.heap.size A n ts) :
    Calls Tryz.prog 17 #[.agg #[.int .u64 T, .slice A n c]] w fun e w' => e = .returned (.bool (tabR T ts)) ∧ Below w.heap.size w w' := by
  have hnm : (n : Int) ≤ 9223372036854775807 := by unfold maxLen at hn; omega
  have HM := Lib.hid (fun W => r9mul_c (n : Int) T (by omega) (by omega) T0 T1 W)
  have hlen := hrd.len
  by_cases hok : 0 < n ∧ 0 < T ∧ (n : Int) * T < 9223372036854775808
  · obtain ⟨hn0, hT0, hmul⟩ := hok
    have HOK : Hid (0 < ts.length ∧ 0 < T ∧ (ts.length : Int) * T < 9223372036854775808) := Lib.hid (by rw [hlen]; exact ⟨hn0, hT0, hmul⟩)
    rw [(mulV_ok hmul).1, (mulV_ok hmul).2] at HM
    obtain ⟨m, hm⟩ : ∃ m, (n : Int) * T = m := ⟨_, rfl⟩
    rw [hm] at HM
    obtain ⟨b, off, rfl, hb, -⟩ := hrd.cells hn0
    have HR := Lib.hid hrd
    have HTS := Lib.hid hts
    have tn : ((n : Int) == 0) = false := by rw [beq_eq_false_iff_ne]; omega
    have tT : (T == 0) = false := by rw [beq_eq_false_iff_ne]; omega
    have HS := Lib.hid (TbS.new w T (some ⟨b, off, none⟩) n c)
    clear hrd hts hmul hm hn
    go_enter Tryz.func17, Tryz.ntmps17
    go_wp2_with (first
      | (go_at_call 23; (with_reducible refine (HM.out _).mono ?_); rintro e _ ⟨rfl, rfl⟩))
    obtain ⟨g, hg⟩ : ∃ g, w.heap.size = g := ⟨_, rfl⟩
    rw [hg] at HS ⊢
    go_loopw [6] (fun i wr => ∃ k : Nat, k ≤ n ∧ i = .int .i64 (k : Int) ∧ (∀ j, j < k → (cellL ts j).1 ≤ T ∧ 0 ≤ (cellL ts j).2 ∧ (cellL ts j).2 < ts.length) ∧ TbS w g T (some ⟨b, off, none⟩) n c wr) (fun i _ => n - (intOf i).toNat)
    case atStart => exact ⟨0, by omega, rfl, fun j h => absurd h (by omega), HS.out⟩
    case round =>
      obtain ⟨k, hk, rfl, hall, hS⟩ := hrel
      have h0 := hS.c0
      have h1 := hS.c1
      have HSS := Lib.hid hS
      have HAL := Lib.hid hall
      by_cases hlt : k < n
      · obtain ⟨b', off', e, hb', hcc⟩ := (HSS.out.pr HR.out).cells (by omega)
        cases e
        have hc := hcc k hlt
        have hz := HTS.out.at_ (k := k) (by omega)
        have hc0 := hc.1
        have hc1 := hc.2
        have g0 := hS.c0
        have g1 := hS.c1
        have g2 := fun o => (hS.alloc o).c0
        have g3 := fun o => (hS.alloc o).c1
        clear hc hcc hb' hall hS h0 h1
        have hE : Hid (¬ ((cellL ts k).1 ≤ T ∧ 0 ≤ (cellL ts k).2 ∧ (cellL ts k).2 < (n : Int)) → tabR T ts = false) := Lib.hid (fun h => tabR_cell (k := k) (by omega) (by rw [hlen]; exact h))
        have hN : Hid (((cellL ts k).1 ≤ T ∧ 0 ≤ (cellL ts k).2 ∧ (cellL ts k).2 < (n : Int)) → ∀ j, j < k + 1 → (cellL ts j).1 ≤ T ∧ 0 ≤ (cellL ts j).2 ∧ (cellL ts j).2 < ts.length) := Lib.hid (fun h j hj => by
          by_cases e : j = k
          · rw [e, hlen]; exact h
          · exact HAL.out j (by omega))
        obtain ⟨x, hx⟩ : ∃ x, (cellL ts k).1 = x := ⟨_, rfl⟩
        obtain ⟨y, hy⟩ : ∃ x, (cellL ts k).2 = x := ⟨_, rfl⟩
        rw [hx, hy] at hz hE hN
        rw [hx] at hc0
        rw [hy] at hc1
        clear hx hy HAL
        have i0 : (0 : Int) ≤ (k : Int) := by omega
        have i1 : (k : Int) < (n : Int) := by omega
        by_cases c1 : x ≤ T
        · by_cases c2 : 0 ≤ y
          · by_cases c3 : y < (n : Int)
            · have HNN := Lib.hid (hN.out ⟨c1, c2, c3⟩)
              clear hE hN
              go_wp2
              go_roundw
              case rel => exact ⟨k + 1, by omega, by go_num, HNN.out, HSS.out.alloc _⟩
              case measure => simp [intOf]; omega
            · (have HF := Lib.hid (hE.out (fun h => by omega)); clear hE hN; go_wp2; go_ret; exact ⟨ret_bool HF.out.symm, (by first | exact (HSS.out.alloc _).bel | (rw [← hg]; exact (HSS.out.alloc _).bel))⟩)
          · (have HF := Lib.hid (hE.out (fun h => by omega)); clear hE hN; go_wp2; go_ret; exact ⟨ret_bool HF.out.symm, (by first | exact (HSS.out.alloc _).bel | (rw [← hg]; exact (HSS.out.alloc _).bel))⟩)
        · (have HF := Lib.hid (hE.out (fun h => by omega)); clear hE hN; go_wp2; go_ret; exact ⟨ret_bool HF.out.symm, (by first | exact (HSS.out.alloc _).bel | (rw [← hg]; exact (HSS.out.alloc _).bel))⟩)
      · obtain rfl : k = n := by omega
        have HT : Hid (tabR T ts = true) := Lib.hid (tabR_all HOK.out (fun j hj => hall j (by omega)))
        clear hall
        go_wp2
        go_ret
        exact ⟨ret_bool HT.out.symm, HSS.out.bel⟩
  · have HT := Lib.hid (tabR_no (T := T) (ts := ts) (by rw [hlen]; exact hok))
    have HS := Lib.hid (TbS.new w T A n c)
    by_cases h1 : (n : Int) * T < 9223372036854775808
    · rw [(mulV_ok h1).1, (mulV_ok h1).2] at HM
      obtain ⟨m, hm⟩ : ∃ m, (n : Int) * T = m := ⟨_, rfl⟩
      rw [hm] at HM h1 hok
      clear hm hts hrd
      by_cases h2 : n = 0
      · subst h2
        rw [show ((0 : Nat) : Int) = 0 from rfl] at HM
        go_enter Tryz.func17, Tryz.ntmps17
        go_wp2_with (first
          | (go_at_call 23; (with_reducible refine (HM.out _).mono ?_); rintro e _ ⟨rfl, rfl⟩))
        go_ret
        exact ⟨ret_bool HT.out.symm, HS.out.bel⟩
      · have h3 : T = 0 := by omega
        subst h3
        have tn : ((n : Int) == 0) = false := by rw [beq_eq_false_iff_ne]; omega
        clear hok
        go_enter Tryz.func17, Tryz.ntmps17
        go_wp2_with (first
          | (go_at_call 23; (with_reducible refine (HM.out _).mono ?_); rintro e _ ⟨rfl, rfl⟩))
        go_ret
        exact ⟨ret_bool HT.out.symm, HS.out.bel⟩
    · rw [(mulV_no h1).1, (mulV_no h1).2] at HM
      have hn0 : n ≠ 0 := by rintro rfl; simp at h1
      have hT0 : T ≠ 0 := by rintro rfl; simp at h1
      have tn : ((n : Int) == 0) = false := by rw [beq_eq_false_iff_ne]; omega
      have tT : (T == 0) = false := by rw [beq_eq_false_iff_ne]; exact hT0
      clear h1 hok hts hrd
      go_enter Tryz.func17, Tryz.ntmps17
      go_wp2_with (first
        | (go_at_call 23; (with_reducible refine (HM.out _).mono ?_); rintro e _ ⟨rfl, rfl⟩))
      go_ret
      exact ⟨ret_bool HT.out.symm, HS.out.bel⟩
end Go.Proofs.YtomkidgmpbjgeaaGreatDoor
/-
  What drawlotref14 returns of a table: its size, a lookup, an owner, how many, whether two are the same.
  Conditions: the numbers lie in their types' ranges; the cells read as pairs.
-/
set_option maxRecDepth 100000
set_option linter.unusedVariables false
set_option linter.unusedSimpArgs false
namespace Go.Proofs.YtomkidgmpbjgeaaGreatDoor
open Go.ChangeShapes Go.WideShapes Go.ChangeAt Go.RowKit
section
variable (T : Int) (T0 : 0 ≤ T) (T1 : T < 18446744073709551616) (ts : List (Int × Int)) (hts : PrOk ts) (A : Option Addr) (n c : Nat) (hn : n ≤ maxLen) (w : World) (hrd : RdPr .u64 .i64 w w.heap.size A n ts)
include T0 T1 hts hn hrd
set_option maxHeartbeats 2000000 in
theorem r14size_c : Calls Tryz.prog 19 #[.agg #[.int .u64 T, .slice A n c]] w fun e w' => e = .returned (.int .u64 (tabZ T ts)) ∧ Below w.heap.size w w' := by
  have hlen := hrd.len
  have HC := Lib.hid (fun W h => r14right_c T T0 T1 ts hts A n c hn W h)
  have HR := Lib.hid hrd
  have HS := Lib.hid (TbS.new w T A n c)
  cases hr : tabR T ts
  · rw [hr] at HC
    have HZ : Hid (tabZ T ts = 0) := Lib.hid (if_neg (by rw [hr]; simp))
    clear hrd hts hr
    go_enter Tryz.func19, Tryz.ntmps19
    go_wp2_with (first
      | (go_at_call 17; (with_reducible refine (HC.out _ (HS.out.pr HR.out)).mono ?_); rintro e w1 ⟨rfl, hb1⟩; have HS1 := Lib.hid (HS.out.below hb1)))
    go_ret
    exact ⟨ret_u64v HZ.out.symm, HS1.out.bel⟩
  · rw [hr] at HC
    have HZ : Hid (tabZ T ts = (n : Int) * T) := Lib.hid (by unfold tabZ; rw [if_pos hr, hlen])
    have hm := (tabR_iff.1 hr).2.2.1
    have hm0 := Int.mul_nonneg (show 0 ≤ (n : Int) by omega) T0
    rw [hlen] at hm
    clear hrd hts hr
    have hnm : (n : Int) ≤ 9223372036854775807 := by unfold maxLen at hn; omega
    have hw : IntKind.u64.wrap ((n : Int) * T) = (n : Int) * T := by rw [IntKind.wrap_u64]; omega
    clear hm hm0
    go_enter Tryz.func19, Tryz.ntmps19
    go_wp2_with (first
      | (go_at_call 17; (with_reducible refine (HC.out _ (HS.out.pr HR.out)).mono ?_); rintro e w1 ⟨rfl, hb1⟩; have HS1 := Lib.hid (HS.out.below hb1); have c0 := HS1.out.c0; have c1 := HS1.out.c1))
    go_ret
    exact ⟨ret_u64v HZ.out.symm, HS1.out.bel⟩
set_option maxHeartbeats 2000000 in
theorem r14lookup_c (i u : Int) (i0 : -9223372036854775808 ≤ i) (i1 : i < 9223372036854775808) (u0 : 0 ≤ u) (u1 : u < 18446744073709551616) : Calls Tryz.prog 33 #[.agg #[.int .u64 T, .slice A n c], .int .i64 i, .int .u64 u] w fun e w' => e = .returned (.tuple #[.int .i64 (lkV T ts i u), .int .i64 (lkE T ts i u)]) ∧ Below w.heap.size w w' := by
  have hlen := hrd.len
  have HC := Lib.hid (fun W h => r14right_c T T0 T1 ts hts A n c hn W h)
  have HR := Lib.hid hrd
  have HS := Lib.hid (TbS.new w T A n c)
  cases hr : tabR T ts
  · rw [hr] at HC
    have HE : Hid (lkE T ts i u = 1 ∧ lkV T ts i u = 0) := Lib.hid (by
      have h : lkE T ts i u = 1 := if_neg (by rw [hr]; simp)
      exact ⟨h, if_neg (by rw [h]; decide)⟩)
    clear hrd hts hr
    go_enter Tryz.func33, Tryz.ntmps33
    go_wp2_with (first
      | (go_at_call 17; (with_reducible refine (HC.out _ (HS.out.pr HR.out)).mono ?_); rintro e w1 ⟨rfl, hb1⟩; have HS1 := Lib.hid (HS.out.below hb1)))
    go_ret2
    exact ⟨ret_iiT HE.out.2.symm HE.out.1.symm, HS1.out.bel⟩
  · rw [hr] at HC
    have hin := (tabR_iff.1 hr).2.2.2
    by_cases ho : 0 ≤ i ∧ i < (n : Int) ∧ u < T
    · have HE : Hid (lkE T ts i u = 0) := Lib.hid (by unfold lkE; rw [if_pos hr, if_pos (by rw [hlen]; exact ho)])
      obtain ⟨o0, o1, o2⟩ := ho
      obtain ⟨k, rfl⟩ := Int.eq_ofNat_of_zero_le o0
      have HV : Hid (lkV T ts (k : Int) u = if u < (cellL ts k).1 then (k : Int) else (cellL ts k).2) := Lib.hid (by unfold lkV; rw [if_pos HE.out]; rfl)
      obtain ⟨b, off, rfl, hb, -⟩ := hrd.cells (by omega)
      have HCL := Lib.hid (fun (W : World) (h : RdPr .u64 .i64 W W.heap.size (some ⟨b, off, none⟩) n ts) => h.cellAt (k := k) (by omega))
      have hz := hts.at_ (k := k) (by omega)
      obtain ⟨x, hx⟩ : ∃ x, (cellL ts k).1 = x := ⟨_, rfl⟩
      obtain ⟨y, hy⟩ : ∃ x, (cellL ts k).2 = x := ⟨_, rfl⟩
      rw [hx, hy] at hz HCL HV
      clear hrd hts hr hin hx hy i0 o0 i1
      by_cases hu : u < x
      · rw [if_pos hu] at HV
        go_enter Tryz.func33, Tryz.ntmps33
        go_wp2_with (first
          | (go_at_call 17; (with_reducible refine (HC.out _ (HS.out.pr HR.out)).mono ?_); rintro e w1 ⟨rfl, hb1⟩; have HS1 := Lib.hid (HS.out.below hb1); have c0 := HS1.out.c0; have c1 := HS1.out.c1; have c2 := (HCL.out _ (HS1.out.pr HR.out)).1; have c3 := (HCL.out _ (HS1.out.pr HR.out)).2))
        go_ret2
        exact ⟨ret_iiT HV.out.symm HE.out.symm, HS1.out.bel⟩
      · rw [if_neg hu] at HV
        go_enter Tryz.func33, Tryz.ntmps33
        go_wp2_with (first
          | (go_at_call 17; (with_reducible refine (HC.out _ (HS.out.pr HR.out)).mono ?_); rintro e w1 ⟨rfl, hb1⟩; have HS1 := Lib.hid (HS.out.below hb1); have c0 := HS1.out.c0; have c1 := HS1.out.c1; have c2 := (HCL.out _ (HS1.out.pr HR.out)).1; have c3 := (HCL.out _ (HS1.out.pr HR.out)).2))
        go_ret2
        exact ⟨ret_iiT HV.out.symm HE.out.symm, HS1.out.bel⟩
    · have HE : Hid (lkE T ts i u = 3 ∧ lkV T ts i u = 0) := Lib.hid (by
        have h : lkE T ts i u = 3 := by unfold lkE; rw [if_pos hr, if_neg (by rw [hlen]; exact ho)]
        exact ⟨h, if_neg (by rw [h]; decide)⟩)
      clear hrd hts hr hin
      have hnm : (n : Int) ≤ 9223372036854775807 := by unfold maxLen at hn; omega
      have HNO := Lib.hid ho
      clear ho
      go_enter Tryz.func33, Tryz.ntmps33
      by_cases d1 : i < 0
      · go_wp2_with (first
          | (go_at_call 17; (with_reducible refine (HC.out _ (HS.out.pr HR.out)).mono ?_); rintro e w1 ⟨rfl, hb1⟩; have HS1 := Lib.hid (HS.out.below hb1); have c0 := HS1.out.c0; have c1 := HS1.out.c1))
        go_ret2
        exact ⟨ret_iiT HE.out.2.symm HE.out.1.symm, HS1.out.bel⟩
      · by_cases d2 : (n : Int) ≤ i
        · go_wp2_with (first
            | (go_at_call 17; (with_reducible refine (HC.out _ (HS.out.pr HR.out)).mono ?_); rintro e w1 ⟨rfl, hb1⟩; have HS1 := Lib.hid (HS.out.below hb1); have c0 := HS1.out.c0; have c1 := HS1.out.c1))
          go_ret2
          exact ⟨ret_iiT HE.out.2.symm HE.out.1.symm, HS1.out.bel⟩
        · have d3 : T ≤ u := by have := HNO.out; omega
          go_wp2_with (first
            | (go_at_call 17; (with_reducible refine (HC.out _ (HS.out.pr HR.out)).mono ?_); rintro e w1 ⟨rfl, hb1⟩; have HS1 := Lib.hid (HS.out.below hb1); have c0 := HS1.out.c0; have c1 := HS1.out.c1))
          go_ret2
          exact ⟨ret_iiT HE.out.2.symm HE.out.1.symm, HS1.out.bel⟩
end
end Go.Proofs.YtomkidgmpbjgeaaGreatDoor
/-
  What the program's safe returns: sums, differences and products below 2^63, or refused, over the library's carries.
  Conditions: the numbers lie in their type's range; the slices read as lists.
-/
set_option maxRecDepth 100000
set_option linter.unusedSimpArgs false
namespace Go.Proofs.YtomkidgmpbjgeaaGreatDoor
open Go.ChangeShapes Go.WideShapes Go.ChangeAt Go.RowKit
set_option linter.unusedVariables false
theorem bits_lo {x : Int} (x0 : 0 ≤ x) (x1 : x < 18446744073709551616) : IntKind.u64.wrap x = x := by rw [IntKind.wrap_u64]; omega
theorem mask_lo (a : Int) (a0 : 0 ≤ a) (a1 : a < 18446744073709551616) : bits .and .u64 a 4294967295 = a % 4294967296 := by
  obtain ⟨n, rfl⟩ := Int.eq_ofNat_of_zero_le a0
  have h := bits_and_u64_nat n 4294967295 (by omega) (by omega)
  rw [Nat.and_two_pow_sub_one_eq_mod n 32] at h
  exact h
/-- bits.Add64 with no carry: the model's own entry, run. -/
theorem ext_add (a b : Int) (a0 : 0 ≤ a) (b0 : 0 ≤ b) (w : World) : (callFunc 58 #[.int .u64 a, .int .u64 b, .int .u64 0]).run Tryz.prog w = .ok (.value (.tuple #[.int .u64 ((a + b) % 18446744073709551616), .int .u64 ((a + b) / 18446744073709551616)])) w := by
  rw [run_callFunc_extern Tryz.func58 (by kernel_rfl) (by kernel_rfl) (by kernel_rfl) (e := add64Entry) (by kernel_rfl), run_add64 a b 0 a0 b0 (by omega) (by omega)]
  simp only [Result.andThen, Int.add_zero]
/-- bits.Mul64: the library's own text, walked. -/
theorem mul_c (a b : Int) (a0 : 0 ≤ a) (a1 : a < 18446744073709551616) (b0 : 0 ≤ b) (b1 : b < 18446744073709551616) (w : World) : Calls Tryz.prog 50 #[.int .u64 a, .int .u64 b] w fun e w' => e = .returned (.tuple #[.int .u64 (a * b / 18446744073709551616), .int .u64 (a * b % 18446744073709551616)]) ∧ w = w' := by
  obtain ⟨x, hx⟩ := Int.eq_ofNat_of_zero_le a0
  obtain ⟨y, hy⟩ := Int.eq_ofNat_of_zero_le b0
  obtain ⟨g1, g2, g3, g4⟩ := Lib.mul64_hi x y (by omega) (by omega)
  have p1 := Lib.half_mul_le (a := x / 4294967296) (b := y / 4294967296) (by omega) (by omega)
  have p2 := Lib.half_mul_le (a := x / 4294967296) (b := y % 4294967296) (by omega) (by omega)
  have p3 := Lib.half_mul_le (a := x % 4294967296) (b := y / 4294967296) (by omega) (by omega)
  have p4 := Lib.half_mul_le (a := x % 4294967296) (b := y % 4294967296) (by omega) (by omega)
  have q1 : a / 4294967296 * (b / 4294967296) = ((x / 4294967296 * (y / 4294967296) : Nat) : Int) := by rw [hx, hy, Int.natCast_mul, Int.natCast_ediv, Int.natCast_ediv]; rfl
  have q2 : a / 4294967296 * (b % 4294967296) = ((x / 4294967296 * (y % 4294967296) : Nat) : Int) := by rw [hx, hy, Int.natCast_mul, Int.natCast_ediv, Int.natCast_emod]; rfl
  have q3 : a % 4294967296 * (b / 4294967296) = ((x % 4294967296 * (y / 4294967296) : Nat) : Int) := by rw [hx, hy, Int.natCast_mul, Int.natCast_emod, Int.natCast_ediv]; rfl
  have q4 : a % 4294967296 * (b % 4294967296) = ((x % 4294967296 * (y % 4294967296) : Nat) : Int) := by rw [hx, hy, Int.natCast_mul, Int.natCast_emod, Int.natCast_emod]; rfl
  have q5 : a * b = ((x * y : Nat) : Int) := by rw [hx, hy, Int.natCast_mul]
  generalize x / 4294967296 * (y / 4294967296) = P1 at *
  generalize x / 4294967296 * (y % 4294967296) = P2 at *
  generalize x % 4294967296 * (y / 4294967296) = P3 at *
  generalize x % 4294967296 * (y % 4294967296) = P4 at *
  generalize x * y = P5 at *
  have HQ := Lib.hid (And.intro q1 (And.intro q2 (And.intro q3 (And.intro q4 q5))))
  have m1 := mask_lo a a0 a1
  have m2 := mask_lo b b0 b1
  have HG := Lib.hid (And.intro g1 (And.intro g2 (And.intro g3 g4)))
  have HP := Lib.hid (And.intro p1 (And.intro p2 (And.intro p3 p4)))
  clear q1 q2 q3 q4 q5 g1 g2 g3 g4 p1 p2 p3 p4 hx hy
  go_enter Tryz.func50, Tryz.ntmps50
  go_wp2
  obtain ⟨q1, q2, q3, q4, q5⟩ := HQ.out
  obtain ⟨g1, g2, g3, g4⟩ := HG.out
  obtain ⟨p1, p2, p3, p4⟩ := HP.out
  clear HQ HG HP
  have w1 : IntKind.u64.wrap (P1 : Int) = P1 := bits_lo (by omega) (by omega)
  have w2 : IntKind.u64.wrap (P2 : Int) = P2 := bits_lo (by omega) (by omega)
  have w3 : IntKind.u64.wrap (P3 : Int) = P3 := bits_lo (by omega) (by omega)
  have w4 : IntKind.u64.wrap (P4 : Int) = P4 := bits_lo (by omega) (by omega)
  have w5 : IntKind.u64.wrap (P5 : Int) = P5 % 18446744073709551616 := IntKind.wrap_u64 _
  have wT : IntKind.u64.wrap ((P2 : Int) + P4 / 4294967296) = P2 + P4 / 4294967296 := bits_lo (by omega) (by omega)
  have mT := mask_lo ((P2 : Int) + P4 / 4294967296) (by omega) (by omega)
  have wW : IntKind.u64.wrap (((P2 : Int) + P4 / 4294967296) % 4294967296 + P3) = ((P2 : Int) + P4 / 4294967296) % 4294967296 + P3 := bits_lo (by omega) (by omega)
  have wH : IntKind.u64.wrap ((P1 : Int) + (P2 + P4 / 4294967296) / 4294967296) = (P1 : Int) + (P2 + P4 / 4294967296) / 4294967296 := bits_lo (by omega) (by omega)
  have wI : IntKind.u64.wrap ((P1 : Int) + (P2 + P4 / 4294967296) / 4294967296 + (((P2 : Int) + P4 / 4294967296) % 4294967296 + P3) / 4294967296) = P5 / 18446744073709551616 := by rw [bits_lo (by omega) (by omega)]; omega
  simp only [q1, q2, q3, q4, q5, w1, w2, w3, w4, w5, wT, mT, wW, wH, wI]
  go_ret2
  exact ⟨by first | rfl | (rw [q5]), rfl⟩
theorem q9fits_c (a : Int) (a0 : 0 ≤ a) (a1 : a < 18446744073709551616) (w : World) : Calls Tryz.prog 59 #[.int .u64 a] w fun e w' => e = .returned (.bool (decide (a < 9223372036854775808))) ∧ w = w' := by
  go_enter Tryz.func59, Tryz.ntmps59
  go_wp2
  go_ret
  exact ⟨rfl, rfl⟩
theorem q9bel_ok (l : Int) (l0 : 0 ≤ l) (l1 : l < 9223372036854775808) (w : World) : Calls Tryz.prog 51 #[.int .u64 0, .int .u64 l] w fun e w' => e = .returned (.tuple #[.int .u64 l, .bool true]) ∧ w = w' := by
  have hf := q9fits_c l l0 (by omega)
  rw [decide_eq_true l1] at hf
  have HF := Lib.hid hf
  clear hf
  go_enter Tryz.func51, Tryz.ntmps51
  go_wp2_with (first
    | (go_at_call 59; (with_reducible refine (HF.out _).mono ?_); rintro e _ ⟨rfl, rfl⟩))
  go_ret2
  exact ⟨rfl, rfl⟩
theorem q9bel_no (h l : Int) (h0 : 0 ≤ h) (h1 : h < 18446744073709551616) (l0 : 0 ≤ l) (l1 : l < 18446744073709551616) (hno : h = 0 → ¬ l < 9223372036854775808) (w : World) : Calls Tryz.prog 51 #[.int .u64 h, .int .u64 l] w fun e w' => e = .returned (.tuple #[.int .u64 0, .bool false]) ∧ w = w' := by
  have hf := q9fits_c l l0 l1
  by_cases hz : h = 0
  · subst hz
    rw [decide_eq_false (hno rfl)] at hf
    have HF := Lib.hid hf
    clear hf hno
    go_enter Tryz.func51, Tryz.ntmps51
    go_wp2_with (first
      | (go_at_call 59; (with_reducible refine (HF.out _).mono ?_); rintro e _ ⟨rfl, rfl⟩))
    go_ret2
    exact ⟨rfl, rfl⟩
  · have tz : (h == 0) = false := by rw [beq_eq_false_iff_ne]; exact hz
    clear hf hno
    go_enter Tryz.func51, Tryz.ntmps51
    go_wp2
    go_ret2
    exact ⟨rfl, rfl⟩
theorem q9add_c (a b : Int) (a0 : 0 ≤ a) (a1 : a < 18446744073709551616) (b0 : 0 ≤ b) (b1 : b < 18446744073709551616) (w : World) : Calls Tryz.prog 49 #[.int .u64 a, .int .u64 b] w fun e w' => e = .returned (.tuple #[.int .u64 (addV a b), .bool (addO a b)]) ∧ w = w' := by
  have hx := ext_add a b a0 b0
  obtain ⟨s, hs⟩ : ∃ s, (a + b) % 18446744073709551616 = s := ⟨_, rfl⟩
  obtain ⟨c, hc⟩ : ∃ c, (a + b) / 18446744073709551616 = c := ⟨_, rfl⟩
  rw [hs, hc] at hx
  by_cases h : a + b < 9223372036854775808
  · obtain rfl : c = 0 := by omega
    obtain rfl : s = a + b := by omega
    have hb := q9bel_ok (a + b) (by omega) h
    rw [(addV_ok h).1, (addV_ok h).2]
    have HB := Lib.hid hb
    clear hb hs hc h
    go_enter Tryz.func49, Tryz.ntmps49
    go_wp2_with (first
      | (go_at_call 51; (with_reducible refine (HB.out _).mono ?_); rintro e _ ⟨rfl, rfl⟩)
      | (simp only [hx]))
    go_ret2
    exact ⟨rfl, rfl⟩
  · have hb := q9bel_no c s (by omega) (by omega) (by omega) (by omega) (by omega)
    rw [(addV_no h).1, (addV_no h).2]
    have HB := Lib.hid hb
    clear hb hs hc h
    go_enter Tryz.func49, Tryz.ntmps49
    go_wp2_with (first
      | (go_at_call 51; (with_reducible refine (HB.out _).mono ?_); rintro e _ ⟨rfl, rfl⟩)
      | (simp only [hx]))
    go_ret2
    exact ⟨rfl, rfl⟩
theorem q9mul_c (a b : Int) (a0 : 0 ≤ a) (a1 : a < 18446744073709551616) (b0 : 0 ≤ b) (b1 : b < 18446744073709551616) (w : World) : Calls Tryz.prog 35 #[.int .u64 a, .int .u64 b] w fun e w' => e = .returned (.tuple #[.int .u64 (mulV a b), .bool (mulO a b)]) ∧ w = w' := by
  have hx := mul_c a b a0 a1 b0 b1
  have hm := Int.mul_nonneg a0 b0
  have hl : a * b ≤ 18446744073709551615 * 18446744073709551615 := Int.mul_le_mul (by omega) (by omega) b0 (by omega)
  by_cases h : a * b < 9223372036854775808
  · rw [(mulV_ok h).1, (mulV_ok h).2]
    generalize a * b = m at *
    obtain ⟨s, hs⟩ : ∃ s, m % 18446744073709551616 = s := ⟨_, rfl⟩
    obtain ⟨c, hc⟩ : ∃ c, m / 18446744073709551616 = c := ⟨_, rfl⟩
    rw [hs, hc] at hx
    obtain rfl : c = 0 := by omega
    obtain rfl : s = m := by omega
    have hb := q9bel_ok s (by omega) h
    have HB := Lib.hid hb
    have HX := Lib.hid hx
    clear hb hx hs hc h hm hl
    go_enter Tryz.func35, Tryz.ntmps35
    go_wp2_with (first
      | (go_at_call 51; (with_reducible refine (HB.out _).mono ?_); rintro e _ ⟨rfl, rfl⟩)
      | (go_at_call 50; (with_reducible refine (HX.out _).mono ?_); rintro e _ ⟨rfl, rfl⟩))
    go_ret2
    exact ⟨rfl, rfl⟩
  · rw [(mulV_no h).1, (mulV_no h).2]
    generalize a * b = m at *
    obtain ⟨s, hs⟩ : ∃ s, m % 18446744073709551616 = s := ⟨_, rfl⟩
    obtain ⟨c, hc⟩ : ∃ c, m / 18446744073709551616 = c := ⟨_, rfl⟩
    rw [hs, hc] at hx
    have hb := q9bel_no c s (by omega) (by omega) (by omega) (by omega) (by omega)
    have HB := Lib.hid hb
    have HX := Lib.hid hx
    clear hb hx hs hc h hm hl
    go_enter Tryz.func35, Tryz.ntmps35
    go_wp2_with (first
      | (go_at_call 51; (with_reducible refine (HB.out _).mono ?_); rintro e _ ⟨rfl, rfl⟩)
      | (go_at_call 50; (with_reducible refine (HX.out _).mono ?_); rintro e _ ⟨rfl, rfl⟩))
    go_ret2
    exact ⟨rfl, rfl⟩
set_option maxHeartbeats 2000000 in
theorem q9total_c (zs : List Int) (hz : ∀ z ∈ zs, 0 ≤ z ∧ z < 18446744073709551616) (A : Option Addr) (n c : Nat) (hn : n ≤ maxLen) (w : World) (hrd : Rd .u64 w w.heap.size A n zs) : Calls Tryz.prog 34 #[.slice A n c] w fun e w' => e = .returned (.tuple #[.int .u64 (sumV zs), .bool (sumO zs)]) ∧ w = w' := by
  have HR := Lib.hid hrd
  have HZ := Lib.hid hz
  have hlen := hrd.len
  have hnm : (n : Int) ≤ 9223372036854775807 := by unfold maxLen at hn; omega
  have hle := fun k => sumL_le (l := zs) (fun z h => (hz z h).1) k
  have hst := fun k h => sumL_take (l := zs) (k := k) h
  have htk : zs.take n = zs := by rw [← hlen, List.take_length]
  have HLE := Lib.hid hle
  have HST := Lib.hid hst
  clear hrd hz hn hle hst
  go_enter Tryz.func34, Tryz.ntmps34
  go_wp2
  go_loopw [4, 10] (fun s i wr => ∃ k : Nat, k ≤ n ∧ i = .int .i64 (k : Int) ∧ s = .int .u64 (sumL (zs.take k)) ∧ 0 ≤ sumL (zs.take k) ∧ sumL (zs.take k) < 9223372036854775808 ∧ wr = w) (fun _ i _ => n - (intOf i).toNat)
  case atStart => exact ⟨0, by omega, rfl, rfl, Int.le_refl _, (by show (0 : Int) < 9223372036854775808; omega), by first | rfl | trivial⟩
  case round =>
    obtain ⟨k, hk, rfl, rfl, h0, h1, rfl⟩ := hrel
    by_cases hlt : k < n
    · obtain ⟨b, off, rfl, _, hc⟩ := HR.out.at_ (by omega)
      have hck := hc k hlt
      have hzk := HZ.out _ (getD_in (l := zs) (k := k) (by omega))
      have hsk := HST.out k (by omega)
      have hl1 := HLE.out (k + 1)
      have HSK := Lib.hid hsk
      obtain ⟨z, hzz⟩ : ∃ z, zs.getD k 0 = z := ⟨_, rfl⟩
      obtain ⟨S, hS⟩ : ∃ S, sumL (zs.take k) = S := ⟨_, rfl⟩
      obtain ⟨S1, hS1⟩ : ∃ S, sumL (zs.take (k + 1)) = S := ⟨_, rfl⟩
      rw [hzz, hS] at HSK
      rw [hzz] at hck hzk hsk
      rw [hS] at h0 h1 hsk ⊢
      rw [hS1] at hl1 hsk
      have hadd := fun W => q9add_c S z h0 (by omega) hzk.1 hzk.2 W
      by_cases hs : S + z < 9223372036854775808
      · rw [(addV_ok hs).1, (addV_ok hs).2] at hadd
        have HADD := Lib.hid hadd
        clear hadd hc hzz hS hS1 hsk hl1
        go_wp2_with (first
          | (go_at_call 49; (with_reducible refine (HADD.out _).mono ?_); rintro e _ ⟨rfl, rfl⟩))
        go_roundw
        case rel => exact ⟨k + 1, by omega, by go_num, by rw [HSK.out], by rw [HSK.out]; omega, by rw [HSK.out]; exact hs, by first | rfl | trivial⟩
        case measure => simp [intOf]; omega
      · rw [(addV_no hs).1, (addV_no hs).2] at hadd
        have hno : ¬ sumL zs < 9223372036854775808 := by omega
        have HADD := Lib.hid hadd
        have HNO := Lib.hid (sumV_no hno)
        clear hadd hc hzz hS hS1 hsk hl1 hno
        go_wp2_with (first
          | (go_at_call 49; (with_reducible refine (HADD.out _).mono ?_); rintro e _ ⟨rfl, rfl⟩))
        go_ret2
        exact ⟨ret_pair (sym2 HNO.out), by first | rfl | trivial⟩
    · obtain rfl : k = n := by omega
      rw [htk] at h0 h1 ⊢
      have HOK := Lib.hid (sumV_ok h1)
      go_wp2
      go_ret2
      exact ⟨ret_pair (sym2 HOK.out), by first | rfl | trivial⟩
end Go.Proofs.YtomkidgmpbjgeaaGreatDoor
/-
  What the landed alias tells of a column, and of a cell: whether there is such a column, who owns an offset in it, whether a cell may not be.
  Conditions: the numbers lie in their types' ranges; the cells read as pairs.
-/
set_option maxRecDepth 100000
set_option linter.unusedVariables false
set_option linter.unusedSimpArgs false
namespace Go.Proofs.YtomkidgmpbjgeaaGreatDoor
open Go.ChangeShapes Go.WideShapes Go.ChangeAt Go.RowKit
theorem ret_intv {a b : Int} (h : a = b) : Ending.returned (.int .i64 a) = .returned (.int .i64 b) := by rw [h]
theorem q14col_c (T : Int) (A : Option Addr) (n c : Nat) (hn : n ≤ maxLen) (i : Int) (i0 : -9223372036854775808 ≤ i) (i1 : i < 9223372036854775808) (w : World) : Calls Tryz.prog 41 #[.agg #[.int .u64 T, .slice A n c], .int .i64 i] w fun e w' => e = .returned (.bool (decide (0 ≤ i ∧ i < (n : Int)))) ∧ Below w.heap.size w w' := by
  have hnm : (n : Int) ≤ 9223372036854775807 := by unfold maxLen at hn; omega
  have HS := Lib.hid (TbS.new w T A n c)
  by_cases h1 : 0 ≤ i
  · by_cases h2 : i < (n : Int)
    · have HV := Lib.hid (decide_eq_true (And.intro h1 h2))
      go_enter Tryz.func41, Tryz.ntmps41
      go_wp2
      go_ret
      exact ⟨ret_bool (by first | exact HV.out.symm | (rw [HV.out]; simp; omega) | (simp; omega)), HS.out.bel⟩
    · have HV := Lib.hid (decide_eq_false (fun h : 0 ≤ i ∧ i < (n : Int) => h2 h.2))
      go_enter Tryz.func41, Tryz.ntmps41
      go_wp2
      go_ret
      exact ⟨ret_bool (by first | exact HV.out.symm | (rw [HV.out]; simp; omega) | (simp; omega)), HS.out.bel⟩
  · have HV := Lib.hid (decide_eq_false (fun h : 0 ≤ i ∧ i < (n : Int) => h1 h.1))
    go_enter Tryz.func41, Tryz.ntmps41
    go_wp2
    go_ret
    exact ⟨ret_bool (by first | exact HV.out.symm | (rw [HV.out]; simp; omega) | (simp; omega)), HS.out.bel⟩
def lkC (ts : List (Int × Int)) (k : Nat) (u : Int) : Int := if u < (cellL ts k).1 then (k : Int) else (cellL ts k).2
set_option maxHeartbeats 2000000 in
theorem q14of_c (T : Int) (ts : List (Int × Int)) (hts : PrOk ts) (A : Option Addr) (n c : Nat) (hn : n ≤ maxLen) (w : World) (hrd : RdPr .u64 .i64 w w.heap.size A n ts) (k : Nat) (hk : k < n) (u : Int) (u0 : 0 ≤ u) (u1 : u < 18446744073709551616) :
    Calls Tryz.prog 29 #[.agg #[.int .u64 T, .slice A n c], .int .i64 (k : Int), .int .u64 u] w fun e w' => e = .returned (.int .i64 (lkC ts k u)) ∧ Below w.heap.size w w' := by
  have hlen := hrd.len
  have hnm : (n : Int) ≤ 9223372036854775807 := by unfold maxLen at hn; omega
  obtain ⟨b, off, rfl, hb, -⟩ := hrd.cells (by omega)
  have HS := Lib.hid (TbS.new w T (some ⟨b, off, none⟩) n c)
  have c0 := HS.out.c0
  have c1 := HS.out.c1
  obtain ⟨c2, c3⟩ := (HS.out.pr hrd).cellAt hk
  have hz := hts.at_ (k := k) (by omega)
  have HV : Hid (lkC ts k u = if u < (cellL ts k).1 then (k : Int) else (cellL ts k).2) := Lib.hid rfl
  obtain ⟨x, hx⟩ : ∃ x, (cellL ts k).1 = x := ⟨_, rfl⟩
  obtain ⟨y, hy⟩ : ∃ x, (cellL ts k).2 = x := ⟨_, rfl⟩
  rw [hx, hy] at hz HV
  rw [hx] at c2
  rw [hy] at c3
  have i0 : (0 : Int) ≤ (k : Int) := by omega
  have i1 : (k : Int) < (n : Int) := by omega
  clear hrd hts hx hy
  by_cases hu : u < x
  · rw [if_pos hu] at HV
    go_enter Tryz.func29, Tryz.ntmps29
    go_wp2
    go_ret
    exact ⟨ret_intv HV.out.symm, (HS.out.alloc _).bel⟩
  · rw [if_neg hu] at HV
    go_enter Tryz.func29, Tryz.ntmps29
    go_wp2
    go_ret
    exact ⟨ret_intv HV.out.symm, (HS.out.alloc _).bel⟩
/-- A cell that may not be, in a table of n cells. -/
def badC (T : Int) (n : Nat) (p : Int × Int) : Bool := decide (¬ (p.1 ≤ T ∧ 0 ≤ p.2 ∧ p.2 < (n : Int)))
set_option maxHeartbeats 2000000 in
theorem q14bad_c (T : Int) (T0 : 0 ≤ T) (T1 : T < 18446744073709551616) (A : Option Addr) (n c : Nat) (hn : n ≤ maxLen) (x y : Int) (x0 : 0 ≤ x) (x1 : x < 18446744073709551616) (y0 : -9223372036854775808 ≤ y) (y1 : y < 9223372036854775808) (w0 : World) (g : Nat) (w : World) (hS : TbS w0 g T A n c w) :
    Calls Tryz.prog 40 #[.agg #[.int .u64 x, .int .i64 y], .pointer (some ⟨g, 0, none⟩)] w fun e w' => e = .returned (.bool (badC T n (x, y))) ∧ Below w.heap.size w w' := by
  have HS := Lib.hid (hS.alloc (.cells #[.int .u64 x, .int .i64 y] 58))
  have c0 := HS.out.c0
  have c1 := HS.out.c1
  have HB := Lib.hid ((Below.refl w.heap.size w).alloc (Nat.le_refl _) (.cells #[.int .u64 x, .int .i64 y] 58))
  have hcl := fun W => q14col_c T A n c hn y y0 y1 W
  clear hS
  by_cases h1 : x ≤ T
  · by_cases h2 : 0 ≤ y ∧ y < (n : Int)
    · have HV : Hid (badC T n (x, y) = false) := Lib.hid (decide_eq_false (fun h => h ⟨h1, h2⟩))
      rw [decide_eq_true h2] at hcl
      have HCL := Lib.hid hcl
      clear hcl h2
      go_enter Tryz.func40, Tryz.ntmps40
      go_wp2_with (first
        | (go_at_call 41; (with_reducible refine (HCL.out _).mono ?_); rintro e w1 ⟨rfl, hb1⟩; have HB1 := Lib.hid (HB.out.trans (hb1.mono HB.out.size))))
      go_ret
      exact ⟨ret_bool (by first | exact HV.out.symm | (rw [HV.out]; simp; omega) | (simp; omega)), HB1.out⟩
    · have HV : Hid (badC T n (x, y) = true) := Lib.hid (decide_eq_true (fun h => h2 h.2))
      rw [decide_eq_false h2] at hcl
      have HCL := Lib.hid hcl
      clear hcl h2
      go_enter Tryz.func40, Tryz.ntmps40
      go_wp2_with (first
        | (go_at_call 41; (with_reducible refine (HCL.out _).mono ?_); rintro e w1 ⟨rfl, hb1⟩; have HB1 := Lib.hid (HB.out.trans (hb1.mono HB.out.size))))
      go_ret
      exact ⟨ret_bool (by first | exact HV.out.symm | (rw [HV.out]; simp; omega) | (simp; omega)), HB1.out⟩
  · have HV : Hid (badC T n (x, y) = true) := Lib.hid (decide_eq_true (fun h => h1 h.1))
    clear hcl
    go_enter Tryz.func40, Tryz.ntmps40
    go_wp2
    go_ret
    exact ⟨ret_bool (by first | exact HV.out.symm | (rw [HV.out]; simp; omega) | (simp; omega)), HB.out⟩
end Go.Proofs.YtomkidgmpbjgeaaGreatDoor
/-
  What the landed alias tells of a table: whether it may be, its size, a lookup.
  Conditions: the numbers lie in their types' ranges; the cells read as pairs.
-/
set_option maxRecDepth 100000
set_option linter.unusedVariables false
set_option linter.unusedSimpArgs false
namespace Go.Proofs.YtomkidgmpbjgeaaGreatDoor
open Go.ChangeShapes Go.WideShapes Go.ChangeAt Go.RowKit
set_option maxHeartbeats 2000000 in
theorem q14ix_c (T : Int) (T0 : 0 ≤ T) (T1 : T < 18446744073709551616) (ts : List (Int × Int)) (hts : PrOk ts) (A : Option Addr) (n c : Nat) (hn : n ≤ maxLen) (w0 : World) (hrd : RdPr .u64 .i64 w0 w0.heap.size A n ts) (g : Nat) (w : World) (hS : TbS w0 g T A n c w) :
    Calls Tryz.prog 54 #[.slice A n c, .func (.func 40) #[] #[.pointer (some ⟨g, 0, none⟩)]] w fun e w' => (∃ r : Int, e = .returned (.int .i64 r) ∧ (r < 0 ↔ ∀ k, k < n → badC T n (cellL ts k) = false)) ∧ Below w.heap.size w w' := by
  have hlen := hrd.len
  have hnm : (n : Int) ≤ 9223372036854775807 := by unfold maxLen at hn; omega
  have HB := Lib.hid (fun W hW x y x0 x1 y0 y1 => q14bad_c T T0 T1 A n c hn x y x0 x1 y0 y1 w0 g W hW)
  have HR := Lib.hid hrd
  have HTS := Lib.hid hts
  have HS := Lib.hid hS
  clear hrd hts hS hn T0 T1
  go_enter Tryz.func54, Tryz.ntmps54
  go_wp2
  go_loopw [8] (fun i wr => ∃ k : Nat, k ≤ n ∧ i = .int .i64 (k : Int) ∧ (∀ j, j < k → badC T n (cellL ts j) = false) ∧ TbS w0 g T A n c wr ∧ Below w.heap.size w wr) (fun i _ => n - (intOf i).toNat)
  case atStart => exact ⟨0, by omega, rfl, fun j h => absurd h (by omega), HS.out, Below.refl _ _⟩
  case round =>
    obtain ⟨k, hk, rfl, hall, hS, hW⟩ := hrel
    have HSS := Lib.hid hS
    have HAL := Lib.hid hall
    have HWW := Lib.hid hW
    clear hall hS hW
    by_cases hlt : k < n
    · obtain ⟨b, off, rfl, hb, hcc⟩ := (HSS.out.pr HR.out).cells (by omega)
      obtain ⟨hc0, hc1⟩ := hcc k hlt
      have hz := HTS.out.at_ (k := k) (by omega)
      have HC0 := Lib.hid (HB.out _ HSS.out _ _ hz.1 hz.2.1 hz.2.2.1 hz.2.2.2)
      have HNX : Hid (badC T n ((cellL ts k).1, (cellL ts k).2) = false → ∀ j, j < k + 1 → badC T n (cellL ts j) = false) := Lib.hid (fun h j hj => by
        by_cases e : j = k
        · rw [e]; exact h
        · exact HAL.out j (by omega))
      have HNO : Hid (badC T n ((cellL ts k).1, (cellL ts k).2) = true → ¬ ∀ j, j < n → badC T n (cellL ts j) = false) := Lib.hid (fun h h2 => by
        have h3 := h2 k hlt
        rw [show cellL ts k = ((cellL ts k).1, (cellL ts k).2) from rfl, h] at h3
        cases h3)
      obtain ⟨x, hx⟩ : ∃ x, (cellL ts k).1 = x := ⟨_, rfl⟩
      obtain ⟨y, hy⟩ : ∃ x, (cellL ts k).2 = x := ⟨_, rfl⟩
      rw [hx, hy] at HC0 HNX HNO
      rw [hx] at hc0
      rw [hy] at hc1
      have i0 : (0 : Int) ≤ (k : Int) := by omega
      have i1 : (k : Int) < (n : Int) := by omega
      clear hcc hb hx hy hz
      cases hbd : badC T n (x, y)
      · rw [hbd] at HC0
        have HNN := Lib.hid (HNX.out hbd)
        clear hbd HNX HNO HAL
        go_wp2_with (first
          | (go_at_call 40; (with_reducible refine HC0.out.mono ?_); rintro e w1 ⟨rfl, hb1⟩; have HS1 := Lib.hid (HSS.out.below hb1); have HW1 := Lib.hid (HWW.out.trans (hb1.mono HWW.out.size))))
        go_roundw
        case rel => exact ⟨k + 1, by omega, by go_num, HNN.out, HS1.out, HW1.out⟩
        case measure => simp [intOf]; omega
      · rw [hbd] at HC0
        have HNN := Lib.hid (HNO.out hbd)
        clear hbd HNX HNO HAL
        go_wp2_with (first
          | (go_at_call 40; (with_reducible refine HC0.out.mono ?_); rintro e w1 ⟨rfl, hb1⟩; have HS1 := Lib.hid (HSS.out.below hb1); have HW1 := Lib.hid (HWW.out.trans (hb1.mono HWW.out.size))))
        go_ret
        exact ⟨⟨_, rfl, fun h => absurd h (by omega), fun h => absurd h HNN.out⟩, HW1.out⟩
    · obtain rfl : k = n := by omega
      go_wp2
      go_ret
      exact ⟨⟨_, rfl, fun _ => HAL.out, fun _ => by decide⟩, HWW.out⟩
theorem q14has_c (T : Int) (T0 : 0 ≤ T) (T1 : T < 18446744073709551616) (ts : List (Int × Int)) (hts : PrOk ts) (A : Option Addr) (n c : Nat) (hn : n ≤ maxLen) (w0 : World) (hrd : RdPr .u64 .i64 w0 w0.heap.size A n ts) (g : Nat) (w : World) (hS : TbS w0 g T A n c w) (p : Bool) (hp : p = false ↔ ∀ k, k < n → badC T n (cellL ts k) = false) :
    Calls Tryz.prog 39 #[.slice A n c, .func (.func 40) #[] #[.pointer (some ⟨g, 0, none⟩)]] w fun e w' => e = .returned (.bool p) ∧ Below w.heap.size w w' := by
  have HI := Lib.hid (q14ix_c T T0 T1 ts hts A n c hn w0 hrd g w hS)
  have HP := Lib.hid hp
  clear hts hrd hS hn hp
  go_enter Tryz.func39, Tryz.ntmps39
  go_wp2_with (first
    | (go_at_call 54; (with_reducible refine HI.out.mono ?_); rintro e w1 ⟨⟨r, rfl, hr⟩, hb1⟩; have HB1 := Lib.hid hb1; have HRR := Lib.hid hr; clear hb1 hr))
  go_ret
  refine ⟨ret_bool ?_, HB1.out⟩
  have h := HRR.out.trans HP.out.symm
  cases p
  · have := h.2 rfl
    simp; omega
  · have : ¬ r < 0 := fun h2 => by have := h.1 h2; cases this
    simp; omega
section
variable (T : Int) (T0 : 0 ≤ T) (T1 : T < 18446744073709551616) (ts : List (Int × Int)) (hts : PrOk ts) (A : Option Addr) (n c : Nat) (hn : n ≤ 1000) (hc : n ≤ c) (hcm : c ≤ maxLen) (w : World) (hrd : RdPr .u64 .i64 w w.heap.size A n ts)
include T0 T1 hts hn hrd
set_option maxHeartbeats 2000000 in
theorem q14rightB_c : Calls Tryz.prog 24 #[.agg #[.int .u64 T, .slice A n c]] w fun e w' => e = .returned (.bool (tabR T ts)) ∧ Below w.heap.size w w' := by
  have hlen := hrd.len
  have hmx : n ≤ maxLen := by unfold maxLen; omega
  have HM := Lib.hid (fun W => q9mul_c (n : Int) T (by omega) (by omega) T0 T1 W)
  have HS := Lib.hid (TbS.new w T A n c)
  have c0 := HS.out.c0
  have c1 := HS.out.c1
  by_cases h1 : (n : Int) * T < 9223372036854775808
  · rw [(mulV_ok h1).1, (mulV_ok h1).2] at HM
    by_cases h2 : (n : Int) * T = 0
    · have HT := Lib.hid (tabR_no (T := T) (ts := ts) (by
        rw [hlen]
        rintro ⟨a, b, -⟩
        have := Int.mul_pos (show (0 : Int) < (n : Int) by omega) b
        omega))
      rw [h2] at HM
      have hnm : (n : Int) ≤ 1000 := by omega
      clear h1 h2 hrd hts
      go_enter Tryz.func24, Tryz.ntmps24
      go_wp2_with (first
        | (go_at_call 35; (with_reducible refine (HM.out _).mono ?_); rintro e _ ⟨rfl, rfl⟩))
      go_ret
      exact ⟨ret_bool HT.out.symm, HS.out.bel⟩
    · have hT0 : 0 < T := by
        rcases Int.lt_or_le 0 T with h | h
        · exact h
        · exact absurd (show (n : Int) * T = 0 by rw [show T = 0 by omega]; simp) h2
      have hn0 : 0 < n := by
        rcases Nat.eq_zero_or_pos n with h | h
        · exact absurd (show (n : Int) * T = 0 by rw [h]; simp) h2
        · exact h
      have HH := Lib.hid (fun p hp => q14has_c T T0 T1 ts hts A n c hmx w hrd w.heap.size _ HS.out p hp)
      have hT : tabR T ts = !(tabR T ts == false) := by cases tabR T ts <;> rfl
      have HHP : Hid ((!tabR T ts) = false ↔ ∀ k, k < n → badC T n (cellL ts k) = false) := Lib.hid (by
        constructor
        · intro h k hk
          have h3 : tabR T ts = true := by simpa using h
          have h4 := (tabR_iff.1 h3).2.2.2 k (by omega)
          rw [hlen] at h4
          exact decide_eq_false (fun h5 => h5 h4)
        · intro h
          rw [tabR_all (T := T) (ts := ts) (by rw [hlen]; exact ⟨hn0, hT0, h1⟩) (fun k hk => by
            rw [hlen]
            exact Decidable.not_not.1 (of_decide_eq_false (h k (by omega))))]
          rfl)
      have HH2 := Lib.hid (HH.out _ HHP.out)
      clear HH HHP hT
      have hnm : (n : Int) ≤ 1000 := by omega
      have t1 : ((n : Int) * T == 0) = false := by rw [beq_eq_false_iff_ne]; exact h2
      obtain ⟨m, hm⟩ : ∃ m, (n : Int) * T = m := ⟨_, rfl⟩
      rw [hm] at HM t1
      obtain ⟨q, hq⟩ : ∃ q, tabR T ts = q := ⟨_, rfl⟩
      rw [hq] at HH2 ⊢
      clear h1 h2 hrd hts hm hq
      go_enter Tryz.func24, Tryz.ntmps24
      go_wp2_with (first
        | (go_at_call 35; (with_reducible refine (HM.out _).mono ?_); rintro e _ ⟨rfl, rfl⟩)
        | (go_at_call 39; (with_reducible refine HH2.out.mono ?_); rintro e w1 ⟨rfl, hb1⟩; have HS1 := Lib.hid (HS.out.below hb1)))
      go_ret
      exact ⟨ret_bool (by cases q <;> rfl), HS1.out.bel⟩
  · rw [(mulV_no h1).1, (mulV_no h1).2] at HM
    have HT := Lib.hid (tabR_no (T := T) (ts := ts) (by rw [hlen]; exact fun h => h1 h.2.2))
    have hnm : (n : Int) ≤ 1000 := by omega
    clear h1 hrd hts
    go_enter Tryz.func24, Tryz.ntmps24
    go_wp2_with (first
      | (go_at_call 35; (with_reducible refine (HM.out _).mono ?_); rintro e _ ⟨rfl, rfl⟩))
    go_ret
    exact ⟨ret_bool HT.out.symm, HS.out.bel⟩
set_option maxHeartbeats 2000000 in
theorem q14sizeB_c : Calls Tryz.prog 14 #[.agg #[.int .u64 T, .slice A n c]] w fun e w' => e = .returned (.int .u64 (tabZ T ts)) ∧ Below w.heap.size w w' := by
  have hlen := hrd.len
  have HC := Lib.hid (fun W h => q14rightB_c T T0 T1 ts hts A n c hn W h)
  have HR := Lib.hid hrd
  have HS := Lib.hid (TbS.new w T A n c)
  have c00 := HS.out.c0
  have c01 := HS.out.c1
  cases hr : tabR T ts
  · rw [hr] at HC
    have HZ : Hid (tabZ T ts = 0) := Lib.hid (if_neg (by rw [hr]; simp))
    clear hrd hts hr
    go_enter Tryz.func14, Tryz.ntmps14
    go_wp2_with (first
      | (go_at_call 24; (with_reducible refine (HC.out _ (HS.out.pr HR.out)).mono ?_); rintro e w1 ⟨rfl, hb1⟩; have HS1 := Lib.hid (HS.out.below hb1)))
    go_ret
    exact ⟨ret_u64v HZ.out.symm, HS1.out.bel⟩
  · rw [hr] at HC
    have HZ : Hid (tabZ T ts = (n : Int) * T) := Lib.hid (by unfold tabZ; rw [if_pos hr, hlen])
    have hm := (tabR_iff.1 hr).2.2.1
    have hm0 := Int.mul_nonneg (show 0 ≤ (n : Int) by omega) T0
    rw [hlen] at hm
    clear hrd hts hr
    have hnm : (n : Int) ≤ 9223372036854775807 := by omega
    have hw : IntKind.u64.wrap ((n : Int) * T) = (n : Int) * T := by rw [IntKind.wrap_u64]; omega
    clear hm hm0
    go_enter Tryz.func14, Tryz.ntmps14
    go_wp2_with (first
      | (go_at_call 24; (with_reducible refine (HC.out _ (HS.out.pr HR.out)).mono ?_); rintro e w1 ⟨rfl, hb1⟩; have HS1 := Lib.hid (HS.out.below hb1); have c0 := HS1.out.c0; have c1 := HS1.out.c1))
    go_ret
    exact ⟨ret_u64v HZ.out.symm, HS1.out.bel⟩
end
end Go.Proofs.YtomkidgmpbjgeaaGreatDoor
/-
  What the landed alias tells of a table: an owner, how many a place owns, whether two are the same.
  Conditions: the numbers lie in their types' ranges; the cells read as pairs; there are at most 1000.
-/
set_option maxRecDepth 100000
set_option linter.unusedVariables false
set_option linter.unusedSimpArgs false
namespace Go.Proofs.YtomkidgmpbjgeaaGreatDoor
open Go.ChangeShapes Go.WideShapes Go.ChangeAt Go.RowKit
theorem size_tabE : (Tryz.prog.info? 25).map (·.size) = some 2 := by kernel_rfl
/-- What the columns give to the place as their other one. -/
def alN (T : Int) (ts : List (Int × Int)) (i : Int) : Nat → Int
  | 0 => 0
  | k + 1 => alN T ts i k + (if (cellL ts k).2 = i then T - (cellL ts k).1 else 0)
theorem own_al {T i : Int} {ts : List (Int × Int)} (i0 : 0 ≤ i) : ∀ k : Nat, ownsN T ts i k = (if i < (k : Int) then (cellL ts i.toNat).1 else 0) + alN T ts i k
  | 0 => by rw [if_neg (by omega)]; rfl
  | k + 1 => by
    show ownsN T ts i k + ownK T i k (cellL ts k) = _ + (alN T ts i k + _)
    rw [own_al i0 k]
    unfold ownK
    by_cases h : (k : Int) = i
    · rw [if_neg (show ¬ i < (k : Int) by omega), if_pos h, if_pos (show i < ((k + 1 : Nat) : Int) by omega), show i.toNat = k by omega]; omega
    · by_cases h2 : i < (k : Int)
      · rw [if_pos h2, if_neg h, if_pos (show i < ((k + 1 : Nat) : Int) by omega)]; omega
      · rw [if_neg h2, if_neg h, if_neg (show ¬ i < ((k + 1 : Nat) : Int) by omega)]; omega
theorem al_in {T i : Int} {ts : List (Int × Int)} (T0 : 0 ≤ T) : ∀ k : Nat, (∀ j, j < k → 0 ≤ (cellL ts j).1 ∧ (cellL ts j).1 ≤ T) → 0 ≤ alN T ts i k ∧ alN T ts i k ≤ (k : Int) * T
  | 0, _ => by simp [alN]
  | k + 1, h => by
    have h1 := al_in (i := i) T0 k (fun j hj => h j (by omega))
    have h2 := h k (by omega)
    have h3 : ((k + 1 : Nat) : Int) * T = (k : Int) * T + T := by rw [Int.natCast_add, Int.add_mul]; simp
    show 0 ≤ alN T ts i k + _ ∧ alN T ts i k + _ ≤ _
    split <;> omega
section
variable (T : Int) (T0 : 0 ≤ T) (T1 : T < 18446744073709551616) (ts : List (Int × Int)) (hts : PrOk ts) (A : Option Addr) (n c : Nat) (hn : n ≤ 1000) (w : World) (hrd : RdPr .u64 .i64 w w.heap.size A n ts)
include T0 T1 hts hn hrd
set_option maxHeartbeats 4000000 in
theorem q14ownerB_c (u : Int) (u0 : 0 ≤ u) (u1 : u < 18446744073709551616) : Calls Tryz.prog 16 #[.agg #[.int .u64 T, .slice A n c], .int .u64 u] w fun e w' => e = .returned (.tuple #[.int .i64 (owV T ts u), .int .i64 (owE T ts u)]) ∧ Below w.heap.size w w' := by
  have hlen := hrd.len
  have hmx : n ≤ maxLen := by unfold maxLen; omega
  have HZ := Lib.hid (fun W h => q14sizeB_c T T0 T1 ts hts A n c hn W h)
  have HR := Lib.hid hrd
  have HS := Lib.hid (TbS.new w T A n c)
  have c00 := HS.out.c0
  have c01 := HS.out.c1
  cases hr : tabR T ts
  · have hz : tabZ T ts = 0 := by unfold tabZ; rw [if_neg (by rw [hr]; simp)]
    rw [hz] at HZ
    have HE := Lib.hid (ow_no (T := T) (u := u) hr)
    clear hrd hts hr hz
    go_enter Tryz.func16, Tryz.ntmps16
    go_wp2_with (first
      | (go_at_call 14; (with_reducible refine (HZ.out _ (HS.out.pr HR.out)).mono ?_); rintro e w1 ⟨rfl, hb1⟩; have HS1 := Lib.hid (HS.out.below hb1); clear hb1))
    go_ret2
    exact ⟨ret_iiT HE.out.2.symm HE.out.1.symm, HS1.out.bel⟩
  have hz : tabZ T ts = (ts.length : Int) * T := by unfold tabZ; rw [if_pos hr]
  rw [hz] at HZ
  have hzp : 0 < (ts.length : Int) * T := Int.mul_pos (by have := (tabR_iff.1 hr).1; omega) (tabR_iff.1 hr).2.1
  have tz : ((ts.length : Int) * T == 0) = false := by rw [beq_eq_false_iff_ne]; omega
  by_cases hu : u < (ts.length : Int) * T
  · obtain ⟨h1, h2, h3, q0, q1, r0, r1⟩ := ow_ok hr u0 hu
    have hT := (tabR_iff.1 hr).2.1
    obtain ⟨q, hq⟩ : ∃ q : Nat, u / T = (q : Int) := Int.eq_ofNat_of_zero_le q0
    obtain ⟨r, hr2⟩ : ∃ r, u % T = r := ⟨_, rfl⟩
    have e1 : u.tdiv T = (q : Int) := (Int.tdiv_eq_ediv_of_nonneg u0).trans hq
    have e2 : u.tmod T = r := (Int.tmod_eq_emod_of_nonneg u0).trans hr2
    rw [hq, hr2] at h2 h3
    rw [hq] at q0 q1
    rw [hr2] at r0 r1
    have hl : lkV T ts (q : Int) r = lkC ts q r := by unfold lkV; rw [if_pos h3]; rfl
    have HL := Lib.hid (fun W h => q14of_c T ts hts A n c hmx W h q (by omega) r r0 (by omega))
    have tN : T ≠ 0 := by omega
    have HV : Hid (lkC ts q r = owV T ts u ∧ (0 : Int) = owE T ts u) := Lib.hid ⟨hl.symm.trans h2.symm, h1.symm⟩
    obtain ⟨V, hV⟩ : ∃ V, lkC ts q r = V := ⟨_, rfl⟩
    rw [hV] at HL HV
    have e3 : IntKind.i64.wrap (q : Int) = (q : Int) := by rw [IntKind.wrap_i64]; omega
    have e4 : IntKind.u64.wrap (q : Int) = (q : Int) := by rw [IntKind.wrap_u64]; omega
    have e5 : IntKind.u64.wrap r = r := by rw [IntKind.wrap_u64]; omega
    obtain ⟨Z, hZ⟩ : ∃ Z, (ts.length : Int) * T = Z := ⟨_, rfl⟩
    rw [hZ] at hu HZ tz
    clear hrd hts hr h1 h2 h3 hq hr2 hz hZ hV hl hzp hn hmx
    go_enter Tryz.func16, Tryz.ntmps16
    go_wp2_with (first
      | (go_at_call 14; (with_reducible refine (HZ.out _ (HS.out.pr HR.out)).mono ?_); rintro e w1 ⟨rfl, hb1⟩; have HS1 := Lib.hid (HS.out.below hb1); clear hb1))
    have hD := HS1.out.drew
    refine wp_region_held_drew (S := (TbS w w.heap.size T A n c)) (by kernel_rfl) hD (fun hH => ?_)
    refine wpAnyH_letter #[false, false, false, false, false, false, false, false, false, false, false, false, false] (by kernel_rfl) (fun _ _ d _ _ h => by cases d <;> exact h) (fun QL HQ1 HQ2 => ?_)
    refine held_row 0 (some 14) rfl (by kernel_rfl) (by kernel_rfl) (by kernel_rfl) (by kernel_rfl) (fun c a v w h => HQ2.out c a _ v w h) (by kernel_rfl) 25 (.tmp 2) rfl w.heap.size (by kernel_rfl) 25 #[.int .u64 T, .slice A n c] (fun _ h => h.b) _ Tryz.underlying25 rfl size_tabE hD ?_
    try simp only [Act.put, List.setIfInBounds_toArray, List.set_cons_zero, List.set_cons_succ]
    refine held_v 1 (some 15) rfl (by kernel_rfl) (by kernel_rfl) (by kernel_rfl) (by kernel_rfl) (fun c a v w h => HQ2.out c a _ v w h) (by kernel_rfl) (.int .u64 u) (fun W h => by kernel_rfl) hD ?_
    try simp only [Act.put, List.setIfInBounds_toArray, List.set_cons_zero, List.set_cons_succ]
    refine held_v 2 (some 16) rfl (by kernel_rfl) (by kernel_rfl) (by kernel_rfl) (by kernel_rfl) (fun c a v w h => HQ2.out c a _ v w h) (by kernel_rfl) (.pointer (some ⟨w.heap.size, 0, none⟩)) (fun W h => by kernel_rfl) hD ?_
    try simp only [Act.put, List.setIfInBounds_toArray, List.set_cons_zero, List.set_cons_succ]
    refine held_v 3 (some 17) rfl (by kernel_rfl) (by kernel_rfl) (by kernel_rfl) (by kernel_rfl) (fun c a v w h => HQ2.out c a _ v w h) (by kernel_rfl) (.int .u64 T) (fun W h => by have p := h.c0; go_simp) hD ?_
    try simp only [Act.put, List.setIfInBounds_toArray, List.set_cons_zero, List.set_cons_succ]
    refine held_v 4 (some 18) rfl (by kernel_rfl) (by kernel_rfl) (by kernel_rfl) (by kernel_rfl) (fun c a v w h => HQ2.out c a _ v w h) (by kernel_rfl) (.int .u64 (q : Int)) (fun W h => by have p := e1; have p2 := tN; have p3 := e4; go_simp) hD ?_
    try simp only [Act.put, List.setIfInBounds_toArray, List.set_cons_zero, List.set_cons_succ]
    refine held_v 5 (some 19) rfl (by kernel_rfl) (by kernel_rfl) (by kernel_rfl) (by kernel_rfl) (fun c a v w h => HQ2.out c a _ v w h) (by kernel_rfl) (.int .i64 (q : Int)) (fun W h => by have p := e3; go_simp) hD ?_
    try simp only [Act.put, List.setIfInBounds_toArray, List.set_cons_zero, List.set_cons_succ]
    refine held_v 6 (some 20) rfl (by kernel_rfl) (by kernel_rfl) (by kernel_rfl) (by kernel_rfl) (fun c a v w h => HQ2.out c a _ v w h) (by kernel_rfl) (.int .u64 u) (fun W h => by kernel_rfl) hD ?_
    try simp only [Act.put, List.setIfInBounds_toArray, List.set_cons_zero, List.set_cons_succ]
    refine held_v 7 (some 21) rfl (by kernel_rfl) (by kernel_rfl) (by kernel_rfl) (by kernel_rfl) (fun c a v w h => HQ2.out c a _ v w h) (by kernel_rfl) (.pointer (some ⟨w.heap.size, 0, none⟩)) (fun W h => by kernel_rfl) hD ?_
    try simp only [Act.put, List.setIfInBounds_toArray, List.set_cons_zero, List.set_cons_succ]
    refine held_v 8 (some 22) rfl (by kernel_rfl) (by kernel_rfl) (by kernel_rfl) (by kernel_rfl) (fun c a v w h => HQ2.out c a _ v w h) (by kernel_rfl) (.int .u64 T) (fun W h => by have p := h.c0; go_simp) hD ?_
    try simp only [Act.put, List.setIfInBounds_toArray, List.set_cons_zero, List.set_cons_succ]
    refine held_v 9 (some 23) rfl (by kernel_rfl) (by kernel_rfl) (by kernel_rfl) (by kernel_rfl) (fun c a v w h => HQ2.out c a _ v w h) (by kernel_rfl) (.int .u64 r) (fun W h => by have p := e2; have p2 := tN; have p3 := e5; go_simp) hD ?_
    try simp only [Act.put, List.setIfInBounds_toArray, List.set_cons_zero, List.set_cons_succ]
    refine wpAnyH_ready (rs := [10]) (by kernel_rfl) (by decide) ?_
    refine AllReadyH.cons rfl (fun K hK => ?_) AllReadyH.nil
    refine step_call (some 24) (by kernel_rfl) (by kernel_rfl) _ _ (by kernel_rfl) _ (HL.out _ (hD.pr HR.out)) ?_
    rintro e w41 ⟨rfl, hbw41⟩
    refine ⟨_, rfl, ?_⟩
    refine hK.out _ _ (hD.below hbw41) (fun hw41 => ?_)
    clear hK K
    try simp only [Act.put, List.setIfInBounds_toArray, List.set_cons_zero, List.set_cons_succ]
    refine held_v 11 (some 4) rfl (by kernel_rfl) (by kernel_rfl) (by kernel_rfl) (by kernel_rfl) (fun c a v w h => HQ2.out c a _ v w h) (by kernel_rfl) (.int .i64 V) (fun W h => by kernel_rfl) hw41 ?_
    try simp only [Act.put, List.setIfInBounds_toArray, List.set_cons_zero, List.set_cons_succ]
    refine held_v 12 (some 5) rfl (by kernel_rfl) (by kernel_rfl) (by kernel_rfl) (by kernel_rfl) (fun c a v w h => HQ2.out c a _ v w h) (by kernel_rfl) (.int .i64 0) (fun W h => by kernel_rfl) hw41 ?_
    try simp only [Act.put, List.setIfInBounds_toArray, List.set_cons_zero, List.set_cons_succ]
    refine wpAnyH_done (by kernel_rfl) ?_ _
    refine HQ1.out _ _ ?_
    clear HQ1 HQ2
    go_wp2_with fail
    go_ret2
    exact ⟨ret_iiT HV.out.1 HV.out.2, hw41.bel⟩
  · have HE := Lib.hid (ow_big hr hu)
    obtain ⟨Z, hZ⟩ : ∃ Z, (ts.length : Int) * T = Z := ⟨_, rfl⟩
    rw [hZ] at hu HZ tz
    clear hrd hts hr hz hZ hzp
    go_enter Tryz.func16, Tryz.ntmps16
    go_wp2_with (first
      | (go_at_call 14; (with_reducible refine (HZ.out _ (HS.out.pr HR.out)).mono ?_); rintro e w1 ⟨rfl, hb1⟩; have HS1 := Lib.hid (HS.out.below hb1); clear hb1))
    go_ret2
    exact ⟨ret_iiT HE.out.2.symm HE.out.1.symm, HS1.out.bel⟩
end
end Go.Proofs.YtomkidgmpbjgeaaGreatDoor
/-
  A table that the landed alias builds, in memory: a block of five cells (the table, what each place still has, the small and the large ones); what is taken off a list, and put behind one.
  Conditions: those that each theorem names.
-/
set_option maxRecDepth 100000
set_option linter.unusedVariables false
set_option linter.unusedSimpArgs false
namespace Go.Proofs.YtomkidgmpbjgeaaGreatDoor
open Go.ChangeShapes Go.WideShapes Go.ChangeAt Go.RowKit
theorem OwnI.cell1 {w : World} {base : Nat} {e : TypeId} {k : IntKind} {v : Value} {zs : List Int} (h : OwnI w base e k v zs) : v.cells = #[v] ∧ v.oneCell' = true := by
  obtain ⟨A, c, rfl, _, _⟩ := h.form
  exact ⟨rfl, rfl⟩
/-- The table that is built lies at g, what places have at gH, its cells at gC; small and large places in rows of the call's own. -/
structure LayS (w0 : World) (g gH gC n : Nat) (T : Int) (hs : List Int) (ts : List (Int × Int)) (vS vL : Value) (sm lg : List Int) (w : World) : Prop where
  bY : Blk w g 69 #[.int .u64 T, .slice (some ⟨gC, 0, none⟩) n n, .slice (some ⟨gH, 0, none⟩) n n, vS, vL]
  bH : Blk w gH 22 (intsA .u64 hs)
  bC : Blk w gC 58 (cellsA ts)
  oS : OwnI w w0.heap.size 3 .i64 vS sm
  oL : OwnI w w0.heap.size 3 .i64 vL lg
  ap : ∀ g, vS.ownBlock = some g → vL.ownBlock ≠ some g
  bel : Below w0.heap.size w0 w
  leY : w0.heap.size ≤ g
  leH : w0.heap.size ≤ gH
  leC : w0.heap.size ≤ gC
section
variable {w0 w w' w'' : World} {g gH gC n c j k : Nat} {T : Int} {hs sm lg : List Int} {ts : List (Int × Int)} {vS vL v' : Value} {A : Option Addr} {x y : Int}
theorem LayS.below (h : LayS w0 g gH gC n T hs ts vS vL sm lg w) (hb : Below w.heap.size w w') : LayS w0 g gH gC n T hs ts vS vL sm lg w' :=
  ⟨h.bY.below hb h.bY.lt, h.bH.below hb h.bH.lt, h.bC.below hb h.bC.lt, h.oS.below hb, h.oL.below hb, h.ap, h.bel.trans (hb.mono h.bel.size), h.leY, h.leH, h.leC⟩
theorem LayS.alloc (h : LayS w0 g gH gC n T hs ts vS vL sm lg w) (o : Obj) : LayS w0 g gH gC n T hs ts vS vL sm lg (w.alloc o) := h.below ((Below.refl _ _).alloc (Nat.le_refl _) _)
theorem LayS.drew (h : LayS w0 g gH gC n T hs ts vS vL sm lg w) : LayS w0 g gH gC n T hs ts vS vL sm lg w.drew := h.below (Below.refl _ _).drew
theorem LayS.drewN (h : LayS w0 g gH gC n T hs ts vS vL sm lg w) (m : Nat) : LayS w0 g gH gC n T hs ts vS vL sm lg (w.drewN m) := h.below (below_drewN (Below.refl _ _) _)
theorem LayS.size (h : LayS w0 g gH gC n T hs ts vS vL sm lg w) : w0.heap.size ≤ w.heap.size := h.bel.size
theorem LayS.rd (h : LayS w0 g gH gC n T hs ts vS vL sm lg w) {l : List Int} {m : Nat} (hr : Rd .u64 w0 w0.heap.size A m l) : Rd .u64 w w.heap.size A m l := (hr.below h.bel).mono h.size
theorem LayS.c0 (h : LayS w0 g gH gC n T hs ts vS vL sm lg w) : w.cell? ⟨g, 0, none⟩ = some (.int .u64 T) := by rw [h.bY.cell]; rfl
theorem LayS.c1 (h : LayS w0 g gH gC n T hs ts vS vL sm lg w) : w.cell? ⟨g, 1, none⟩ = some (.slice (some ⟨gC, 0, none⟩) n n) := by rw [h.bY.cell]; rfl
theorem LayS.c2 (h : LayS w0 g gH gC n T hs ts vS vL sm lg w) : w.cell? ⟨g, 2, none⟩ = some (.slice (some ⟨gH, 0, none⟩) n n) := by rw [h.bY.cell]; rfl
theorem LayS.c3 (h : LayS w0 g gH gC n T hs ts vS vL sm lg w) : w.cell? ⟨g, 3, none⟩ = some vS := by rw [h.bY.cell]; rfl
theorem LayS.c4 (h : LayS w0 g gH gC n T hs ts vS vL sm lg w) : w.cell? ⟨g, 4, none⟩ = some vL := by rw [h.bY.cell]; rfl
theorem LayS.atH (h : LayS w0 g gH gC n T hs ts vS vL sm lg w) (hk : k < hs.length) : w.cell? ⟨gH, k, none⟩ = some (.int .u64 (hs.getD k 0)) := by
  rw [h.bH.cell]
  simp [intsA, hk]
theorem LayS.putH (h : LayS w0 g gH gC n T hs ts vS vL sm lg w) (hk : Blk w' gH 22 ((intsA .u64 hs).setIfInBounds k (.int .u64 x))) (ho : Only gH w w') : LayS w0 g gH gC n T (hs.set k x) ts vS vL sm lg w' := by
  have nY : g ≠ gH := h.bY.ne h.bH (by decide)
  have nC : gC ≠ gH := h.bC.ne h.bH (by decide)
  refine ⟨h.bY.only ho nY, ?_, h.bC.only ho nC, h.oS.only h.bH (by decide) ho, h.oL.only h.bH (by decide) ho, h.ap, h.bel.trans (ho.below h.leH h.size), h.leY, h.leH, h.leC⟩
  have e : (intsA .u64 hs).setIfInBounds k (.int .u64 x) = intsA .u64 (hs.set k x) := by
    apply Array.ext'
    simp [intsA, List.map_set]
  rw [← e]
  exact hk
theorem LayS.putC (h : LayS w0 g gH gC n T hs ts vS vL sm lg w) (hk : Blk w' gC 58 (putAll (cellsA ts) (k * 2) [.int .u64 x, .int .i64 y])) (ho : Only gC w w') : LayS w0 g gH gC n T hs (ts.set k (x, y)) vS vL sm lg w' := by
  have nY : g ≠ gC := h.bY.ne h.bC (by decide)
  have nH : gH ≠ gC := h.bH.ne h.bC (by decide)
  refine ⟨h.bY.only ho nY, h.bH.only ho nH, ?_, h.oS.only h.bC (by decide) ho, h.oL.only h.bC (by decide) ho, h.ap, h.bel.trans (ho.below h.leC h.size), h.leY, h.leH, h.leC⟩
  rw [← cellsA_put]
  exact hk
/-- The small ones grow, and their slice is stored. -/
theorem LayS.growS (h : LayS w0 g gH gC n T hs ts vS vL sm lg w) (hg : w.grownBy w' vS.ownBlock) (ho : OwnI w' w0.heap.size 3 .i64 v' (sm ++ [x])) (hat : v'.ownBlock = vS.ownBlock ∨ v'.ownBlock = some w.heap.size)
    (hk : Blk w'' g 69 (#[.int .u64 T, .slice (some ⟨gC, 0, none⟩) n n, .slice (some ⟨gH, 0, none⟩) n n, vS, vL].setIfInBounds 3 v')) (h2 : Only g w' w'') : LayS w0 g gH gC n T hs ts v' vL (sm ++ [x]) lg w'' := by
  have bY := h.bY.grown h.oS (by decide) hg
  have bH := h.bH.grown h.oS (by decide) hg
  have bC := h.bC.grown h.oS (by decide) hg
  have oL := h.oL.other_row (fun g e1 e2 => h.ap g e2 e1) hg
  have be := h.oS.below_ h.bel h.size hg
  refine ⟨hk, bH.only h2 (bH.ne bY (by decide)), bC.only h2 (bC.ne bY (by decide)), ho.only bY (by decide) h2, oL.only bY (by decide) h2, fun g e => ?_, be.trans (h2.below h.leY be.size), h.leY, h.leH, h.leC⟩
  rcases hat with e2 | e2
  · exact h.ap g (by rw [← e2]; exact e)
  · intro e3
    have := h.oL.block_lt g e3
    rw [e] at e2
    injection e2 with e2
    omega
theorem LayS.growL (h : LayS w0 g gH gC n T hs ts vS vL sm lg w) (hg : w.grownBy w' vL.ownBlock) (ho : OwnI w' w0.heap.size 3 .i64 v' (lg ++ [x])) (hat : v'.ownBlock = vL.ownBlock ∨ v'.ownBlock = some w.heap.size)
    (hk : Blk w'' g 69 (#[.int .u64 T, .slice (some ⟨gC, 0, none⟩) n n, .slice (some ⟨gH, 0, none⟩) n n, vS, vL].setIfInBounds 4 v')) (h2 : Only g w' w'') : LayS w0 g gH gC n T hs ts vS v' sm (lg ++ [x]) w'' := by
  have bY := h.bY.grown h.oL (by decide) hg
  have bH := h.bH.grown h.oL (by decide) hg
  have bC := h.bC.grown h.oL (by decide) hg
  have oS := h.oS.other_row h.ap hg
  have be := h.oL.below_ h.bel h.size hg
  refine ⟨hk, bH.only h2 (bH.ne bY (by decide)), bC.only h2 (bC.ne bY (by decide)), oS.only bY (by decide) h2, ho.only bY (by decide) h2, fun g e1 e => ?_, be.trans (h2.below h.leY be.size), h.leY, h.leH, h.leC⟩
  rcases hat with e2 | e2
  · exact h.ap g e1 (by rw [← e2]; exact e)
  · have := h.oS.block_lt g e1
    rw [e] at e2
    injection e2 with e2
    omega
theorem LayS.cutS (h : LayS w0 g gH gC n T hs ts (.slice A k c) vL sm lg w) (hj : j ≤ sm.length)
    (hk : Blk w' g 69 (#[.int .u64 T, .slice (some ⟨gC, 0, none⟩) n n, .slice (some ⟨gH, 0, none⟩) n n, .slice A k c, vL].setIfInBounds 3 (.slice A j c))) (h2 : Only g w w') : LayS w0 g gH gC n T hs ts (.slice A j c) vL (sm.take j) lg w' :=
  ⟨hk, h.bH.only h2 (h.bH.ne h.bY (by decide)), h.bC.only h2 (h.bC.ne h.bY (by decide)), (h.oS.cut hj).only h.bY (by decide) h2, h.oL.only h.bY (by decide) h2, fun g e => h.ap g (by rw [own_slice A k j c c]; exact e), h.bel.trans (h2.below h.leY h.size), h.leY, h.leH, h.leC⟩
theorem LayS.cutL (h : LayS w0 g gH gC n T hs ts vS (.slice A k c) sm lg w) (hj : j ≤ lg.length)
    (hk : Blk w' g 69 (#[.int .u64 T, .slice (some ⟨gC, 0, none⟩) n n, .slice (some ⟨gH, 0, none⟩) n n, vS, .slice A k c].setIfInBounds 4 (.slice A j c))) (h2 : Only g w w') : LayS w0 g gH gC n T hs ts vS (.slice A j c) sm (lg.take j) w' :=
  ⟨hk, h.bH.only h2 (h.bH.ne h.bY (by decide)), h.bC.only h2 (h.bC.ne h.bY (by decide)), h.oS.only h.bY (by decide) h2, (h.oL.cut hj).only h.bY (by decide) h2, fun g e => by rw [own_slice A j k c c]; exact h.ap g e, h.bel.trans (h2.below h.leY h.size), h.leY, h.leH, h.leC⟩
end
theorem size_sli : (Tryz.prog.info? 56).map (·.size) = some 1 := by kernel_rfl
theorem info_intF : (Tryz.prog.info? 3).map (fun i => (i.zero, i.size, i.bytes)) = some (some (.int .i64 0), 1, 8) := by kernel_rfl
/-- The last one is taken off a list whose slice lies in a cell of a block. -/
theorem q14last_c (g k gS p c : Nat) (hp : p < 1000000) (hpc : p + 1 ≤ c) (hcm : c ≤ maxLen) (x : Int) (t : TypeId) (cs : Array Value) (hk : k < cs.size) (w : World) (hb : Blk w g t cs) (hv : cs[k]? = some (.slice (some ⟨gS, 0, none⟩) (p + 1) c)) (hx : w.cell? ⟨gS, p, none⟩ = some (.int .i64 x)) :
    Calls Tryz.prog 53 #[.pointer (some ⟨g, k, none⟩)] w fun e w' => e = .returned (.int .i64 x) ∧ Blk w' g t (cs.setIfInBounds k (.slice (some ⟨gS, 0, none⟩) p c)) ∧ Only g w w' := by
  have HB := Lib.hid hb
  have HK := Lib.hid hk
  have c0 : w.cell? ⟨g, k, none⟩ = some (.slice (some ⟨gS, 0, none⟩) (p + 1) c) := by rw [hb.cell]; exact hv
  have i0 : (0 : Int) ≤ (p : Int) := by omega
  have i1 : (p : Int) < 1000000 := by omega
  have i2 : ((p + 1 : Nat) : Int) - 1 = (p : Int) := by omega
  have i3 : (c : Int) ≤ 9223372036854775807 := by unfold maxLen at hcm; omega
  have i4 : (p : Int) + 1 ≤ (c : Int) := by omega
  clear hb hk hv hcm hp hpc
  go_enter Tryz.func53, Tryz.ntmps53
  go_wp2_with (first
    | (with_reducible refine at_any ?_; refine at_store 22 rfl ?_; refine wpList_store_cell rfl 56 (.tmp 22) (.tmp 21) rfl g k rfl t cs HB.out (.slice (some ⟨gS, 0, none⟩) p c) rfl HK.out size_sli rfl rfl ?_; intro w1 hk1 ho1; have HK1 := Lib.hid hk1.out; have HO1 := Lib.hid ho1))
  go_ret
  exact ⟨rfl, HK1.out, HO1.out⟩
theorem lay3 (a b c d e : Value) : 3 < (#[a, b, c, d, e] : Array Value).size := by simp
theorem lay4 (a b c d e : Value) : 4 < (#[a, b, c, d, e] : Array Value).size := by simp
/-- A place comes to the end of the small ones, or of the large ones. -/
theorem q14sort_c {w0 : World} {g gH gC n : Nat} {T : Int} {hs sm lg : List Int} {ts : List (Int × Int)} {vS vL : Value} (k : Nat) (hk : k < n) (hn : n ≤ 1000) (hl : hs.length = n) (hx0 : 0 ≤ hs.getD k 0) (hx1 : hs.getD k 0 < 18446744073709551616) (T0 : 0 ≤ T) (T1 : T < 18446744073709551616) (hsm : sm.length ≤ 1000) (hlg : lg.length ≤ 1000) (w : World) (hY : LayS w0 g gH gC n T hs ts vS vL sm lg w) :
    Calls Tryz.prog 52 #[.pointer (some ⟨g, 0, none⟩), .int .i64 (k : Int)] w fun e w' => e = .returned (.tuple #[]) ∧ ∃ vS' vL', LayS w0 g gH gC n T hs ts vS' vL' (if hs.getD k 0 < T then sm ++ [(k : Int)] else sm) (if hs.getD k 0 < T then lg else lg ++ [(k : Int)]) w' := by
  obtain ⟨ti, hti, hz0, hz1, hzb⟩ := info_parts info_intF
  obtain ⟨AS, cS, rfl, hcS, hmS⟩ := hY.oS.form
  obtain ⟨AL, cL, rfl, hcL, hmL⟩ := hY.oL.form
  have HYN := Lib.hid (fun M => hY.drewN M)
  have c0 := hY.c0
  have c2 := hY.c2
  have cx := hY.atH (k := k) (by omega)
  have HC3 := Lib.hid (fun M => (hY.drewN M).c3)
  have HC4 := Lib.hid (fun M => (hY.drewN M).c4)
  have HSN := Lib.hid hsm
  have HLN := Lib.hid hlg
  obtain ⟨x, hx⟩ : ∃ x, hs.getD k 0 = x := ⟨_, rfl⟩
  rw [hx] at hx0 hx1 cx ⊢
  obtain ⟨p, hp⟩ : ∃ p, sm.length = p := ⟨_, rfl⟩
  obtain ⟨q, hq⟩ : ∃ q, lg.length = q := ⟨_, rfl⟩
  rw [hp] at HYN HC3 HSN hcS
  rw [hq] at HYN HC4 HLN hcL
  have HPL := Lib.hid hp
  have HQL := Lib.hid hq
  have i0 : (0 : Int) ≤ (k : Int) := by omega
  have i1 : (k : Int) < (n : Int) := by omega
  have i2 : (n : Int) ≤ 1000 := by omega
  clear hY hx hp hq hcS hmS hcL hmL hsm hlg hl hk hn
  by_cases hlt : x < T
  · simp only [if_pos hlt]
    go_enter Tryz.func52, Tryz.ntmps52
    go_wp2
    go_quiet (fail)
    have c3 := HC3.out nq
    have HQ := Lib.hid (HYN.out nq)
    go_wp2_with (first
      | (at_builtin; refine wpList_append_ints _ rfl (.tmp 21) (.tmp 23) 56 rfl w0.heap.size 3 ti _ 8 .i64 Tryz.underlying56 hti hz0 hz1 hzb rfl (.slice AS p cS) sm rfl (HQ.out.alloc _).oS _ _ 1 1 [(k : Int)] rfl (rd_one _ 3 .i64 (k : Int)) (by have := HSN.out; have := HPL.out; simp only [maxLen]; omega) (by have := HSN.out; have := HPL.out; omega) (HQ.out.alloc _).size ?_; intro v4 w4 ho4 hg4 hat4; have B4 := Lib.hid ((HQ.out.alloc _).bY.grown (HQ.out.alloc _).oS (by decide) hg4); have K4 := Lib.hid (fun W h1 h2 => LayS.growS (w'' := W) (HQ.out.alloc _) hg4 ho4 hat4 h1 h2); have C4 := Lib.hid ho4.cell1; clear hg4 ho4 hat4)
      | (with_reducible refine at_any ?_; refine at_store 26 rfl ?_; refine wpList_store_cell rfl 56 (.tmp 26) (.tmp 24) rfl g 3 rfl 69 _ B4.out v4 rfl (lay3 _ _ _ _ _) size_sli C4.out.1 C4.out.2 ?_; intro w5 hk5 ho5; have HY5 := Lib.hid (K4.out _ hk5.out ho5)))
    go_end0
    exact ⟨rfl, _, _, HY5.out⟩
  · simp only [if_neg hlt]
    go_enter Tryz.func52, Tryz.ntmps52
    go_wp2
    go_quiet (fail)
    have c3 := HC4.out nq
    have HQ := Lib.hid (HYN.out nq)
    go_wp2_with (first
      | (at_builtin; refine wpList_append_ints _ rfl (.tmp 31) (.tmp 33) 56 rfl w0.heap.size 3 ti _ 8 .i64 Tryz.underlying56 hti hz0 hz1 hzb rfl (.slice AL q cL) lg rfl (HQ.out.alloc _).oL _ _ 1 1 [(k : Int)] rfl (rd_one _ 3 .i64 (k : Int)) (by have := HLN.out; have := HQL.out; simp only [maxLen]; omega) (by have := HLN.out; have := HQL.out; omega) (HQ.out.alloc _).size ?_; intro v4 w4 ho4 hg4 hat4; have B4 := Lib.hid ((HQ.out.alloc _).bY.grown (HQ.out.alloc _).oL (by decide) hg4); have K4 := Lib.hid (fun W h1 h2 => LayS.growL (w'' := W) (HQ.out.alloc _) hg4 ho4 hat4 h1 h2); have C4 := Lib.hid ho4.cell1; clear hg4 ho4 hat4)
      | (with_reducible refine at_any ?_; refine at_store 36 rfl ?_; refine wpList_store_cell rfl 56 (.tmp 36) (.tmp 34) rfl g 4 rfl 69 _ B4.out v4 rfl (lay4 _ _ _ _ _) size_sli C4.out.1 C4.out.2 ?_; intro w5 hk5 ho5; have HY5 := Lib.hid (K4.out _ hk5.out ho5)))
    go_end0
    exact ⟨rfl, _, _, HY5.out⟩
/-- What is read while a cell is laid. -/
structure LayR (g gH gC n : Nat) (T : Int) (hs : List Int) (vS vL : Value) (w : World) : Prop where
  bY : Blk w g 69 #[.int .u64 T, .slice (some ⟨gC, 0, none⟩) n n, .slice (some ⟨gH, 0, none⟩) n n, vS, vL]
  bH : Blk w gH 22 (intsA .u64 hs)
/-- What is read while what a place has is changed. -/
structure LayG (g gH gC n : Nat) (T : Int) (vS vL : Value) (w : World) : Prop where
  bY : Blk w g 69 #[.int .u64 T, .slice (some ⟨gC, 0, none⟩) n n, .slice (some ⟨gH, 0, none⟩) n n, vS, vL]
section
variable {w0 w : World} {g gH gC n k : Nat} {T : Int} {hs sm lg : List Int} {ts : List (Int × Int)} {vS vL : Value}
theorem LayS.toR (h : LayS w0 g gH gC n T hs ts vS vL sm lg w) : LayR g gH gC n T hs vS vL w := ⟨h.bY, h.bH⟩
theorem LayS.toG (h : LayS w0 g gH gC n T hs ts vS vL sm lg w) : LayG g gH gC n T vS vL w := ⟨h.bY⟩
theorem LayR.c0 (h : LayR g gH gC n T hs vS vL w) : w.cell? ⟨g, 0, none⟩ = some (.int .u64 T) := by rw [h.bY.cell]; rfl
theorem LayR.c1 (h : LayR g gH gC n T hs vS vL w) : w.cell? ⟨g, 1, none⟩ = some (.slice (some ⟨gC, 0, none⟩) n n) := by rw [h.bY.cell]; rfl
theorem LayR.c2 (h : LayR g gH gC n T hs vS vL w) : w.cell? ⟨g, 2, none⟩ = some (.slice (some ⟨gH, 0, none⟩) n n) := by rw [h.bY.cell]; rfl
theorem LayR.atH (h : LayR g gH gC n T hs vS vL w) (hk : k < hs.length) : w.cell? ⟨gH, k, none⟩ = some (.int .u64 (hs.getD k 0)) := by
  rw [h.bH.cell]
  simp [intsA, hk]
theorem LayG.c0 (h : LayG g gH gC n T vS vL w) : w.cell? ⟨g, 0, none⟩ = some (.int .u64 T) := by rw [h.bY.cell]; rfl
theorem LayG.c1 (h : LayG g gH gC n T vS vL w) : w.cell? ⟨g, 1, none⟩ = some (.slice (some ⟨gC, 0, none⟩) n n) := by rw [h.bY.cell]; rfl
theorem LayG.c2 (h : LayG g gH gC n T vS vL w) : w.cell? ⟨g, 2, none⟩ = some (.slice (some ⟨gH, 0, none⟩) n n) := by rw [h.bY.cell]; rfl
end
section
variable {P : Program} {w : World} {ops : Array Oper} {o : Oper} {a : Act} {Q : Exit → Act → World → Prop}
/-- A struct is stored into a part of a block, where it comes up. -/
theorem step_store_mid {K : Act → World → Prop} {E : Prop} (d : Option Tmp) (hd : o.dst = d) (hw : Region.wanted o (yielded ops a.tmps) = true) (ty : TypeId) (x y : Operand) (ho : o.op = .store ty x y) (g off : Nat) (hx : a.eval x = .pointer (some ⟨g, off, none⟩)) (t : TypeId) (cs ys : Array Value) (hb : Blk w g t cs)
    (hy : a.eval y = .agg ys) (hl : off + ys.size ≤ cs.size) (hz : (P.info? ty).map (·.size) = some ys.size) (h1 : ys.all (·.oneCell') = true)
    (h : ∀ w', Hid (Blk w' g t (putAll cs off ys.toList)) → Only g w w' → K (a.put d undef) w') :
    if Region.wanted o (yielded ops a.tmps) = true then Oper.wp P o a w K Q else E := by
  subst hd
  rw [if_pos hw]
  exact wp_store_mid ty x y ho g off ys hx hy (hb.there off ys.size hl) hz h1 (h _ (Blk.setCells _ _ hb) (Only.setCells g _ _ _))
end
theorem size_cellF (u v : Value) : (Tryz.prog.info? 58).map (·.size) = some (#[u, v] : Array Value).size := by kernel_rfl
theorem cell_onesF (x y : Int) : (#[.int .u64 x, .int .i64 y] : Array Value).all (·.oneCell') = true := by simp [Value.oneCell']
theorem size_u64F : (Tryz.prog.info? 22).map (·.size) = some 1 := by kernel_rfl
section
variable {w0 w : World} {g gH gC gS n p c : Nat} {T : Int} {hs sm lg : List Int} {ts : List (Int × Int)} {vS vL : Value} {x : Int}
theorem LayS.lastS (hx : topL sm = x) (hp : sm.length = p + 1) (hp1 : p < 1000000) (h : LayS w0 g gH gC n T hs ts (.slice (some ⟨gS, 0, none⟩) (p + 1) c) vL sm lg w) :
    Calls Tryz.prog 53 #[.pointer (some ⟨g, 3, none⟩)] w fun e w' => e = .returned (.int .i64 x) ∧ LayS w0 g gH gC n T hs ts (.slice (some ⟨gS, 0, none⟩) p c) vL (sm.take p) lg w' := by
  obtain ⟨g', c', e, h1, h2, h3⟩ := h.oS.last (by omega)
  injection e with e1 e2 e3
  injection e1 with e1
  injection e1 with e1
  subst e1 e3
  rw [hp, hx, Nat.add_sub_cancel] at h3
  rw [hp] at h1
  refine (q14last_c g 3 gS p c hp1 h1 h2 x _ _ (lay3 _ _ _ _ _) w h.bY rfl h3).mono ?_
  rintro e w' ⟨rfl, hk, ho⟩
  exact ⟨rfl, h.cutS (by omega) hk ho⟩
theorem LayS.lastL (hx : topL lg = x) (hp : lg.length = p + 1) (hp1 : p < 1000000) (h : LayS w0 g gH gC n T hs ts vS (.slice (some ⟨gS, 0, none⟩) (p + 1) c) sm lg w) :
    Calls Tryz.prog 53 #[.pointer (some ⟨g, 4, none⟩)] w fun e w' => e = .returned (.int .i64 x) ∧ LayS w0 g gH gC n T hs ts vS (.slice (some ⟨gS, 0, none⟩) p c) sm (lg.take p) w' := by
  obtain ⟨g', c', e, h1, h2, h3⟩ := h.oL.last (by omega)
  injection e with e1 e2 e3
  injection e1 with e1
  injection e1 with e1
  subst e1 e3
  rw [hp, hx, Nat.add_sub_cancel] at h3
  rw [hp] at h1
  refine (q14last_c g 4 gS p c hp1 h1 h2 x _ _ (lay4 _ _ _ _ _) w h.bY rfl h3).mono ?_
  rintro e w' ⟨rfl, hk, ho⟩
  exact ⟨rfl, h.cutL (by omega) hk ho⟩
end
end Go.Proofs.YtomkidgmpbjgeaaGreatDoor
/-
  What the landed alias's pair does to a table that is built: one step of the document's, in memory.
  Conditions: there are small and large places; the table is one that is built of at most 1000 stakes.
-/
set_option maxRecDepth 100000
set_option linter.unusedVariables false
set_option linter.unusedSimpArgs false
namespace Go.Proofs.YtomkidgmpbjgeaaGreatDoor
open Go.ChangeShapes Go.WideShapes Go.ChangeAt Go.RowKit
set_option maxHeartbeats 8000000 in
theorem q14pair_c {w0 : World} {g gH gC n : Nat} {T : Int} (l : List Int) (s : AB) (hI : ABI T l s) (hlen : l.length = n) (hn : n ≤ 1000) (T0 : 0 ≤ T) (T1 : T < 9223372036854775808) (hg1 : s.sm.length ≠ 0) (hg2 : s.lg.length ≠ 0) (vS vL : Value) (w : World) (hY : LayS w0 g gH gC n T s.has s.ts vS vL s.sm s.lg w) :
    Calls Tryz.prog 37 #[.pointer (some ⟨g, 0, none⟩)] w fun e w' => e = .returned (.tuple #[]) ∧ ∃ vS' vL', LayS w0 g gH gC n T (abStep T s).has (abStep T s).ts vS' vL' (abStep T s).sm (abStep T s).lg w' := by
  obtain ⟨ia, ib, ha, hb, a1, b1, x0, x1, y0, y1, q1, q2, q3, q4⟩ := hI.tops hg1 hg2
  have hnd := hI.nd_len
  obtain ⟨gS, cS, rfl, hcS, hmS, e1⟩ := hY.oS.last hg1
  obtain ⟨gL, cL, rfl, hcL, hmL, e2⟩ := hY.oL.last hg2
  obtain ⟨p, hp⟩ : ∃ p, s.sm.length = p + 1 := ⟨s.sm.length - 1, by omega⟩
  obtain ⟨q, hq⟩ : ∃ p, s.lg.length = p + 1 := ⟨s.lg.length - 1, by omega⟩
  have HHL : Hid (s.has.length = n) := Lib.hid (by rw [hI.hn, hlen])
  have HTL : Hid (s.ts.length = n) := Lib.hid (by rw [hI.tn, hlen])
  rw [hp] at q3 hY
  rw [hq] at q4 hY
  rw [Nat.add_sub_cancel] at q3 q4
  obtain ⟨H, hH⟩ : ∃ H, s.has = H := ⟨_, rfl⟩
  obtain ⟨C, hC⟩ : ∃ H, s.ts = H := ⟨_, rfl⟩
  obtain ⟨sm, hsm⟩ : ∃ H, s.sm = H := ⟨_, rfl⟩
  obtain ⟨lg, hlg⟩ : ∃ H, s.lg = H := ⟨_, rfl⟩
  obtain ⟨x, hx⟩ : ∃ x, H.getD ia 0 = x := ⟨_, rfl⟩
  obtain ⟨y, hy⟩ : ∃ x, H.getD ib 0 = x := ⟨_, rfl⟩
  rw [hH] at HHL x0 x1 y0 y1 q1 q2 q3 q4 hY
  rw [hC] at HTL q2 hY
  rw [hsm] at q3 hp ha hY hnd
  rw [hlg] at q4 hq hb hY hnd
  rw [hx] at x0 x1 q1 q2 q3 q4
  rw [hy] at y0 y1 q1 q3 q4
  obtain ⟨z, hz⟩ : ∃ z, y - (T - x) = z := ⟨_, rfl⟩
  rw [hz] at q1 q3 q4
  have z0 : 0 ≤ z := by omega
  have z1 : z < 9223372036854775808 := by omega
  have hgz : (H.set ib z).getD ib 0 = z := by rw [getD_setT (by rw [HHL.out]; omega), if_pos rfl]
  have HSO : Hid (∀ vS vL W, LayS w0 g gH gC n T (H.set ib z) (C.set ia (x, (ib : Int))) vS vL (sm.take p) (lg.take q) W → Calls Tryz.prog 52 #[.pointer (some ⟨g, 0, none⟩), .int .i64 (ib : Int)] W fun e w' => e = .returned (.tuple #[]) ∧ ∃ vS' vL', LayS w0 g gH gC n T (abStep T s).has (abStep T s).ts vS' vL' (abStep T s).sm (abStep T s).lg w') := Lib.hid (fun vS vL W h => by
    have h2 := q14sort_c ib (by omega) hn (by rw [List.length_set]; exact HHL.out) (by rw [hgz]; exact z0) (by rw [hgz]; omega) T0 (by omega) (by rw [List.length_take]; omega) (by rw [List.length_take]; omega) W h
    rw [hgz] at h2
    rw [q1, q2, q3, q4]
    exact h2)
  have HA := Lib.hid ha
  have HB := Lib.hid hb
  have HPP := Lib.hid hp
  have HQQ := Lib.hid hq
  have HP6 := Lib.hid (show p < 1000000 by omega)
  have HQ6 := Lib.hid (show q < 1000000 by omega)
  have HAN := Lib.hid (show ia < n by omega)
  have HBN := Lib.hid (show ib < n by omega)
  have i2 : (0 : Int) ≤ (ia : Int) := by omega
  have i3 : (0 : Int) ≤ (ib : Int) := by omega
  have i6 : (ia : Int) < (n : Int) := by omega
  have i7 : (ib : Int) < (n : Int) := by omega
  have i8 : (n : Int) ≤ 1000 := by omega
  have w1 : IntKind.u64.wrap (T - x) = T - x := by rw [IntKind.wrap_u64]; omega
  have w2 : IntKind.u64.wrap (y - (T - x)) = z := by rw [hz, IntKind.wrap_u64]; omega
  have W1 := Lib.hid w1
  have W2 := Lib.hid w2
  have HYH := Lib.hid hy
  have HXH := Lib.hid hx
  have HY0 := hY.drew
  clear hY hp hq hH hC hsm hlg hx hy hz ha hb hI q1 q2 q3 q4 hgz hg1 hg2 hcS hmS hcL hmL e1 e2 a1 b1 w1 w2 hnd hlen hn
  go_enter Tryz.func37, Tryz.ntmps37
  go_wp2
  refine wp_region_held_drew (S := (fun _ => True)) (by kernel_rfl) trivial (fun hH => ?_)
  refine wpAnyH_letter #[false, false, false, false, false, false, false, false, false, false] (by kernel_rfl) (fun _ _ d _ _ h => by cases d <;> exact h) (fun QL HQ1 HQ2 => ?_)
  refine held_v 0 (some 4) rfl (by kernel_rfl) (by kernel_rfl) (by kernel_rfl) (by kernel_rfl) (fun c a v w h => HQ2.out c a _ v w h) (by kernel_rfl) (.pointer (some ⟨g, 0, none⟩)) (fun W h => by kernel_rfl) trivial ?_
  try simp only [Act.put, List.setIfInBounds_toArray, List.set_cons_zero, List.set_cons_succ]
  refine held_v 1 (some 5) rfl (by kernel_rfl) (by kernel_rfl) (by kernel_rfl) (by kernel_rfl) (fun c a v w h => HQ2.out c a _ v w h) (by kernel_rfl) (.pointer (some ⟨g, 0, none⟩)) (fun W h => by go_simp) trivial ?_
  try simp only [Act.put, List.setIfInBounds_toArray, List.set_cons_zero, List.set_cons_succ]
  refine held_v 2 (some 6) rfl (by kernel_rfl) (by kernel_rfl) (by kernel_rfl) (by kernel_rfl) (fun c a v w h => HQ2.out c a _ v w h) (by kernel_rfl) (.pointer (some ⟨g, 3, none⟩)) (fun W h => by kernel_rfl) trivial ?_
  try simp only [Act.put, List.setIfInBounds_toArray, List.set_cons_zero, List.set_cons_succ]
  refine held_v 4 (some 8) rfl (by kernel_rfl) (by kernel_rfl) (by kernel_rfl) (by kernel_rfl) (fun c a v w h => HQ2.out c a _ v w h) (by kernel_rfl) (.pointer (some ⟨g, 0, none⟩)) (fun W h => by kernel_rfl) trivial ?_
  try simp only [Act.put, List.setIfInBounds_toArray, List.set_cons_zero, List.set_cons_succ]
  refine held_v 5 (some 9) rfl (by kernel_rfl) (by kernel_rfl) (by kernel_rfl) (by kernel_rfl) (fun c a v w h => HQ2.out c a _ v w h) (by kernel_rfl) (.pointer (some ⟨g, 0, none⟩)) (fun W h => by go_simp) trivial ?_
  try simp only [Act.put, List.setIfInBounds_toArray, List.set_cons_zero, List.set_cons_succ]
  refine held_v 6 (some 10) rfl (by kernel_rfl) (by kernel_rfl) (by kernel_rfl) (by kernel_rfl) (fun c a v w h => HQ2.out c a _ v w h) (by kernel_rfl) (.pointer (some ⟨g, 4, none⟩)) (fun W h => by kernel_rfl) trivial ?_
  try simp only [Act.put, List.setIfInBounds_toArray, List.set_cons_zero, List.set_cons_succ]
  refine wpAnyH_ready (rs := [3]) (by kernel_rfl) (by decide) ?_
  refine AllReadyH.cons rfl (fun K hK => ?_) AllReadyH.nil
  refine step_call (some 7) (by kernel_rfl) (by kernel_rfl) _ _ (by kernel_rfl) _ (LayS.lastS HA.out HPP.out HP6.out HY0) ?_
  rintro e w41 ⟨rfl, trw41⟩
  refine ⟨_, rfl, ?_⟩
  refine hK.out _ _ trivial (fun _ => ?_)
  clear hK K
  try simp only [Act.put, List.setIfInBounds_toArray, List.set_cons_zero, List.set_cons_succ]
  refine wpAnyH_ready (rs := [7]) (by kernel_rfl) (by decide) ?_
  refine AllReadyH.cons rfl (fun K hK => ?_) AllReadyH.nil
  refine step_call (some 11) (by kernel_rfl) (by kernel_rfl) _ _ (by kernel_rfl) _ (LayS.lastL HB.out HQQ.out HQ6.out trw41) ?_
  rintro e w42 ⟨rfl, trw42⟩
  refine ⟨_, rfl, ?_⟩
  refine hK.out _ _ trivial (fun _ => ?_)
  clear hK K
  try simp only [Act.put, List.setIfInBounds_toArray, List.set_cons_zero, List.set_cons_succ]
  refine held_v 8 (some 2) rfl (by kernel_rfl) (by kernel_rfl) (by kernel_rfl) (by kernel_rfl) (fun c a v w h => HQ2.out c a _ v w h) (by kernel_rfl) (.int .i64 (ia : Int)) (fun W h => by kernel_rfl) trivial ?_
  try simp only [Act.put, List.setIfInBounds_toArray, List.set_cons_zero, List.set_cons_succ]
  refine held_v 9 (some 3) rfl (by kernel_rfl) (by kernel_rfl) (by kernel_rfl) (by kernel_rfl) (fun c a v w h => HQ2.out c a _ v w h) (by kernel_rfl) (.int .i64 (ib : Int)) (fun W h => by kernel_rfl) trivial ?_
  try simp only [Act.put, List.setIfInBounds_toArray, List.set_cons_zero, List.set_cons_succ]
  refine wpAnyH_done (by kernel_rfl) ?_ _
  refine HQ1.out _ _ ?_
  clear HQ1 HQ2
  have HY1 := (trw42).drew
  go_wp2
  refine wp_region_held_drew (S := (LayR g gH gC n T H (.slice (some ⟨gS, 0, none⟩) p cS) (.slice (some ⟨gL, 0, none⟩) q cL))) (by kernel_rfl) HY1.toR (fun hH => ?_)
  refine wpAnyH_letter #[false, false, false, false, false, false, false, false, false, false, false, false, false, false, false, false, false] (by kernel_rfl) (fun _ _ d _ _ h => by cases d <;> exact h) (fun QL HQ1 HQ2 => ?_)
  refine held_v 0 (some 12) rfl (by kernel_rfl) (by kernel_rfl) (by kernel_rfl) (by kernel_rfl) (fun c a v w h => HQ2.out c a _ v w h) (by kernel_rfl) (.pointer (some ⟨g, 0, none⟩)) (fun W h => by kernel_rfl) HY1.toR ?_
  try simp only [Act.put, List.setIfInBounds_toArray, List.set_cons_zero, List.set_cons_succ]
  refine held_v 1 (some 13) rfl (by kernel_rfl) (by kernel_rfl) (by kernel_rfl) (by kernel_rfl) (fun c a v w h => HQ2.out c a _ v w h) (by kernel_rfl) (.pointer (some ⟨g, 0, none⟩)) (fun W h => by go_simp) HY1.toR ?_
  try simp only [Act.put, List.setIfInBounds_toArray, List.set_cons_zero, List.set_cons_succ]
  refine held_v 2 (some 14) rfl (by kernel_rfl) (by kernel_rfl) (by kernel_rfl) (by kernel_rfl) (fun c a v w h => HQ2.out c a _ v w h) (by kernel_rfl) (.pointer (some ⟨g, 0, none⟩)) (fun W h => by kernel_rfl) HY1.toR ?_
  try simp only [Act.put, List.setIfInBounds_toArray, List.set_cons_zero, List.set_cons_succ]
  refine held_v 3 (some 15) rfl (by kernel_rfl) (by kernel_rfl) (by kernel_rfl) (by kernel_rfl) (fun c a v w h => HQ2.out c a _ v w h) (by kernel_rfl) (.pointer (some ⟨g, 1, none⟩)) (fun W h => by kernel_rfl) HY1.toR ?_
  try simp only [Act.put, List.setIfInBounds_toArray, List.set_cons_zero, List.set_cons_succ]
  refine held_v 4 (some 16) rfl (by kernel_rfl) (by kernel_rfl) (by kernel_rfl) (by kernel_rfl) (fun c a v w h => HQ2.out c a _ v w h) (by kernel_rfl) (.slice (some ⟨gC, 0, none⟩) n n) (fun W h => by have p := h.c1; go_simp) HY1.toR ?_
  try simp only [Act.put, List.setIfInBounds_toArray, List.set_cons_zero, List.set_cons_succ]
  refine held_v 5 (some 17) rfl (by kernel_rfl) (by kernel_rfl) (by kernel_rfl) (by kernel_rfl) (fun c a v w h => HQ2.out c a _ v w h) (by kernel_rfl) (.int .i64 (ia : Int)) (fun W h => by kernel_rfl) HY1.toR ?_
  try simp only [Act.put, List.setIfInBounds_toArray, List.set_cons_zero, List.set_cons_succ]
  refine held_v 6 (some 18) rfl (by kernel_rfl) (by kernel_rfl) (by kernel_rfl) (by kernel_rfl) (fun c a v w h => HQ2.out c a _ v w h) (by kernel_rfl) (.pointer (some ⟨g, 0, none⟩)) (fun W h => by kernel_rfl) HY1.toR ?_
  try simp only [Act.put, List.setIfInBounds_toArray, List.set_cons_zero, List.set_cons_succ]
  refine held_v 7 (some 19) rfl (by kernel_rfl) (by kernel_rfl) (by kernel_rfl) (by kernel_rfl) (fun c a v w h => HQ2.out c a _ v w h) (by kernel_rfl) (.pointer (some ⟨g, 0, none⟩)) (fun W h => by go_simp) HY1.toR ?_
  try simp only [Act.put, List.setIfInBounds_toArray, List.set_cons_zero, List.set_cons_succ]
  refine held_v 8 (some 20) rfl (by kernel_rfl) (by kernel_rfl) (by kernel_rfl) (by kernel_rfl) (fun c a v w h => HQ2.out c a _ v w h) (by kernel_rfl) (.pointer (some ⟨g, 2, none⟩)) (fun W h => by kernel_rfl) HY1.toR ?_
  try simp only [Act.put, List.setIfInBounds_toArray, List.set_cons_zero, List.set_cons_succ]
  refine held_v 9 (some 21) rfl (by kernel_rfl) (by kernel_rfl) (by kernel_rfl) (by kernel_rfl) (fun c a v w h => HQ2.out c a _ v w h) (by kernel_rfl) (.slice (some ⟨gH, 0, none⟩) n n) (fun W h => by have p := h.c2; go_simp) HY1.toR ?_
  try simp only [Act.put, List.setIfInBounds_toArray, List.set_cons_zero, List.set_cons_succ]
  refine held_v 10 (some 22) rfl (by kernel_rfl) (by kernel_rfl) (by kernel_rfl) (by kernel_rfl) (fun c a v w h => HQ2.out c a _ v w h) (by kernel_rfl) (.int .i64 (ia : Int)) (fun W h => by kernel_rfl) HY1.toR ?_
  try simp only [Act.put, List.setIfInBounds_toArray, List.set_cons_zero, List.set_cons_succ]
  refine held_v 11 (some 23) rfl (by kernel_rfl) (by kernel_rfl) (by kernel_rfl) (by kernel_rfl) (fun c a v w h => HQ2.out c a _ v w h) (by kernel_rfl) (.pointer (some ⟨gH, ia, none⟩)) (fun W h => by go_simp) HY1.toR ?_
  try simp only [Act.put, List.setIfInBounds_toArray, List.set_cons_zero, List.set_cons_succ]
  refine held_v 12 (some 24) rfl (by kernel_rfl) (by kernel_rfl) (by kernel_rfl) (by kernel_rfl) (fun c a v w h => HQ2.out c a _ v w h) (by kernel_rfl) (.int .u64 x) (fun W h => by have p := h.atH (k := ia) (by rw [HHL.out]; exact HAN.out); rw [HXH.out] at p; go_simp) HY1.toR ?_
  try simp only [Act.put, List.setIfInBounds_toArray, List.set_cons_zero, List.set_cons_succ]
  refine held_v 13 (some 25) rfl (by kernel_rfl) (by kernel_rfl) (by kernel_rfl) (by kernel_rfl) (fun c a v w h => HQ2.out c a _ v w h) (by kernel_rfl) (.int .i64 (ib : Int)) (fun W h => by kernel_rfl) HY1.toR ?_
  try simp only [Act.put, List.setIfInBounds_toArray, List.set_cons_zero, List.set_cons_succ]
  refine held_v 14 (some 26) rfl (by kernel_rfl) (by kernel_rfl) (by kernel_rfl) (by kernel_rfl) (fun c a v w h => HQ2.out c a _ v w h) (by kernel_rfl) (.agg #[.int .u64 x, .int .i64 (ib : Int)]) (fun W h => by go_simp) HY1.toR ?_
  try simp only [Act.put, List.setIfInBounds_toArray, List.set_cons_zero, List.set_cons_succ]
  refine held_v 15 (some 27) rfl (by kernel_rfl) (by kernel_rfl) (by kernel_rfl) (by kernel_rfl) (fun c a v w h => HQ2.out c a _ v w h) (by kernel_rfl) (.pointer (some ⟨gC, ia * 2, none⟩)) (fun W h => by go_simp) HY1.toR ?_
  try simp only [Act.put, List.setIfInBounds_toArray, List.set_cons_zero, List.set_cons_succ]
  refine wpAnyH_ready (rs := [16]) (by kernel_rfl) (by decide) ?_
  refine AllReadyH.cons rfl (fun K hK => ?_) AllReadyH.nil
  refine step_store_mid none (by kernel_rfl) (by kernel_rfl) 58 (.tmp 27) (.tmp 26) rfl gC (ia * 2) (by kernel_rfl) 58 _ #[.int .u64 x, .int .i64 (ib : Int)] HY1.bC (by kernel_rfl) (by have := HTL.out; rw [cellsA_size, this]; have := HAN.out; simp; omega) (size_cellF _ _) (cell_onesF _ _) ?_
  intro w101 hkw101 how101
  have trw101 := HY1.putC hkw101.out how101
  refine hK.out _ _ trw101.toR (fun hw101 => ?_)
  clear hK K
  try simp only [Act.put, List.setIfInBounds_toArray, List.set_cons_zero, List.set_cons_succ]
  refine wpAnyH_done (by kernel_rfl) ?_ _
  refine HQ1.out _ _ ?_
  clear HQ1 HQ2
  have HY2 := (trw101).drew
  go_wp2
  refine wp_region_held_drew (S := (LayG g gH gC n T (.slice (some ⟨gS, 0, none⟩) p cS) (.slice (some ⟨gL, 0, none⟩) q cL))) (by kernel_rfl) HY2.toG (fun hH => ?_)
  refine wpAnyH_letter #[false, false, false, false, false, false, false, false, false, false, false, false, false, false, false, false, false, false, false, false, false, false, false] (by kernel_rfl) (fun _ _ d _ _ h => by cases d <;> exact h) (fun QL HQ1 HQ2 => ?_)
  refine held_v 0 (some 28) rfl (by kernel_rfl) (by kernel_rfl) (by kernel_rfl) (by kernel_rfl) (fun c a v w h => HQ2.out c a _ v w h) (by kernel_rfl) (.pointer (some ⟨g, 0, none⟩)) (fun W h => by kernel_rfl) HY2.toG ?_
  try simp only [Act.put, List.setIfInBounds_toArray, List.set_cons_zero, List.set_cons_succ]
  refine held_v 1 (some 29) rfl (by kernel_rfl) (by kernel_rfl) (by kernel_rfl) (by kernel_rfl) (fun c a v w h => HQ2.out c a _ v w h) (by kernel_rfl) (.pointer (some ⟨g, 0, none⟩)) (fun W h => by go_simp) HY2.toG ?_
  try simp only [Act.put, List.setIfInBounds_toArray, List.set_cons_zero, List.set_cons_succ]
  refine held_v 2 (some 30) rfl (by kernel_rfl) (by kernel_rfl) (by kernel_rfl) (by kernel_rfl) (fun c a v w h => HQ2.out c a _ v w h) (by kernel_rfl) (.pointer (some ⟨g, 2, none⟩)) (fun W h => by kernel_rfl) HY2.toG ?_
  try simp only [Act.put, List.setIfInBounds_toArray, List.set_cons_zero, List.set_cons_succ]
  refine held_v 3 (some 31) rfl (by kernel_rfl) (by kernel_rfl) (by kernel_rfl) (by kernel_rfl) (fun c a v w h => HQ2.out c a _ v w h) (by kernel_rfl) (.slice (some ⟨gH, 0, none⟩) n n) (fun W h => by have p := h.c2; go_simp) HY2.toG ?_
  try simp only [Act.put, List.setIfInBounds_toArray, List.set_cons_zero, List.set_cons_succ]
  refine held_v 4 (some 32) rfl (by kernel_rfl) (by kernel_rfl) (by kernel_rfl) (by kernel_rfl) (fun c a v w h => HQ2.out c a _ v w h) (by kernel_rfl) (.int .i64 (ib : Int)) (fun W h => by kernel_rfl) HY2.toG ?_
  try simp only [Act.put, List.setIfInBounds_toArray, List.set_cons_zero, List.set_cons_succ]
  refine held_v 5 (some 33) rfl (by kernel_rfl) (by kernel_rfl) (by kernel_rfl) (by kernel_rfl) (fun c a v w h => HQ2.out c a _ v w h) (by kernel_rfl) (.pointer (some ⟨gH, ib, none⟩)) (fun W h => by go_simp) HY2.toG ?_
  try simp only [Act.put, List.setIfInBounds_toArray, List.set_cons_zero, List.set_cons_succ]
  refine held_v 7 (some 35) rfl (by kernel_rfl) (by kernel_rfl) (by kernel_rfl) (by kernel_rfl) (fun c a v w h => HQ2.out c a _ v w h) (by kernel_rfl) (.pointer (some ⟨g, 0, none⟩)) (fun W h => by kernel_rfl) HY2.toG ?_
  try simp only [Act.put, List.setIfInBounds_toArray, List.set_cons_zero, List.set_cons_succ]
  refine held_v 8 (some 36) rfl (by kernel_rfl) (by kernel_rfl) (by kernel_rfl) (by kernel_rfl) (fun c a v w h => HQ2.out c a _ v w h) (by kernel_rfl) (.pointer (some ⟨g, 0, none⟩)) (fun W h => by go_simp) HY2.toG ?_
  try simp only [Act.put, List.setIfInBounds_toArray, List.set_cons_zero, List.set_cons_succ]
  refine held_v 9 (some 37) rfl (by kernel_rfl) (by kernel_rfl) (by kernel_rfl) (by kernel_rfl) (fun c a v w h => HQ2.out c a _ v w h) (by kernel_rfl) (.pointer (some ⟨g, 0, none⟩)) (fun W h => by kernel_rfl) HY2.toG ?_
  try simp only [Act.put, List.setIfInBounds_toArray, List.set_cons_zero, List.set_cons_succ]
  refine held_v 10 (some 38) rfl (by kernel_rfl) (by kernel_rfl) (by kernel_rfl) (by kernel_rfl) (fun c a v w h => HQ2.out c a _ v w h) (by kernel_rfl) (.pointer (some ⟨g, 0, none⟩)) (fun W h => by kernel_rfl) HY2.toG ?_
  try simp only [Act.put, List.setIfInBounds_toArray, List.set_cons_zero, List.set_cons_succ]
  refine held_v 11 (some 39) rfl (by kernel_rfl) (by kernel_rfl) (by kernel_rfl) (by kernel_rfl) (fun c a v w h => HQ2.out c a _ v w h) (by kernel_rfl) (.int .u64 T) (fun W h => by have p := h.c0; go_simp) HY2.toG ?_
  try simp only [Act.put, List.setIfInBounds_toArray, List.set_cons_zero, List.set_cons_succ]
  refine held_v 12 (some 40) rfl (by kernel_rfl) (by kernel_rfl) (by kernel_rfl) (by kernel_rfl) (fun c a v w h => HQ2.out c a _ v w h) (by kernel_rfl) (.pointer (some ⟨g, 0, none⟩)) (fun W h => by kernel_rfl) HY2.toG ?_
  try simp only [Act.put, List.setIfInBounds_toArray, List.set_cons_zero, List.set_cons_succ]
  refine held_v 13 (some 41) rfl (by kernel_rfl) (by kernel_rfl) (by kernel_rfl) (by kernel_rfl) (fun c a v w h => HQ2.out c a _ v w h) (by kernel_rfl) (.pointer (some ⟨g, 0, none⟩)) (fun W h => by go_simp) HY2.toG ?_
  try simp only [Act.put, List.setIfInBounds_toArray, List.set_cons_zero, List.set_cons_succ]
  refine held_v 14 (some 42) rfl (by kernel_rfl) (by kernel_rfl) (by kernel_rfl) (by kernel_rfl) (fun c a v w h => HQ2.out c a _ v w h) (by kernel_rfl) (.pointer (some ⟨g, 2, none⟩)) (fun W h => by kernel_rfl) HY2.toG ?_
  try simp only [Act.put, List.setIfInBounds_toArray, List.set_cons_zero, List.set_cons_succ]
  refine held_v 15 (some 43) rfl (by kernel_rfl) (by kernel_rfl) (by kernel_rfl) (by kernel_rfl) (fun c a v w h => HQ2.out c a _ v w h) (by kernel_rfl) (.slice (some ⟨gH, 0, none⟩) n n) (fun W h => by have p := h.c2; go_simp) HY2.toG ?_
  try simp only [Act.put, List.setIfInBounds_toArray, List.set_cons_zero, List.set_cons_succ]
  refine held_v 16 (some 44) rfl (by kernel_rfl) (by kernel_rfl) (by kernel_rfl) (by kernel_rfl) (fun c a v w h => HQ2.out c a _ v w h) (by kernel_rfl) (.int .i64 (ia : Int)) (fun W h => by kernel_rfl) HY2.toG ?_
  try simp only [Act.put, List.setIfInBounds_toArray, List.set_cons_zero, List.set_cons_succ]
  refine held_v 17 (some 45) rfl (by kernel_rfl) (by kernel_rfl) (by kernel_rfl) (by kernel_rfl) (fun c a v w h => HQ2.out c a _ v w h) (by kernel_rfl) (.pointer (some ⟨gH, ia, none⟩)) (fun W h => by go_simp) HY2.toG ?_
  try simp only [Act.put, List.setIfInBounds_toArray, List.set_cons_zero, List.set_cons_succ]
  refine wpAnyH_ready (rs := [6, 18]) (by kernel_rfl) (by decide) ?_
  refine AllReadyH.cons rfl (fun K hK => ?_) (AllReadyH.cons rfl (fun K hK => ?_) AllReadyH.nil)
  · refine step_v (some 34) (by kernel_rfl) (by kernel_rfl) (.int .u64 y) (by have p := (HY2).atH (k := ib) (by rw [HHL.out]; exact HBN.out); rw [HYH.out] at p; go_simp) ?_
    refine hK.out _ _ HY2.toG (fun _ => ?_)
    clear hK K
    try simp only [Act.put, List.setIfInBounds_toArray, List.set_cons_zero, List.set_cons_succ]
    refine wpAnyH_ready (rs := [18]) (by kernel_rfl) (by decide) ?_
    refine AllReadyH.cons rfl (fun K hK => ?_) AllReadyH.nil
    refine step_v (some 46) (by kernel_rfl) (by kernel_rfl) (.int .u64 x) (by have p := (HY2).atH (k := ia) (by rw [HHL.out]; exact HAN.out); rw [HXH.out] at p; go_simp) ?_
    refine hK.out _ _ HY2.toG (fun _ => ?_)
    clear hK K
    try simp only [Act.put, List.setIfInBounds_toArray, List.set_cons_zero, List.set_cons_succ]
    refine held_v 19 (some 47) rfl (by kernel_rfl) (by kernel_rfl) (by kernel_rfl) (by kernel_rfl) (fun c a v w h => HQ2.out c a _ v w h) (by kernel_rfl) (.int .u64 (T - x)) (fun W h => by have p := W1.out; go_simp) HY2.toG ?_
    try simp only [Act.put, List.setIfInBounds_toArray, List.set_cons_zero, List.set_cons_succ]
    refine held_v 20 (some 48) rfl (by kernel_rfl) (by kernel_rfl) (by kernel_rfl) (by kernel_rfl) (fun c a v w h => HQ2.out c a _ v w h) (by kernel_rfl) (.int .u64 z) (fun W h => by have p := W2.out; go_simp) HY2.toG ?_
    try simp only [Act.put, List.setIfInBounds_toArray, List.set_cons_zero, List.set_cons_succ]
    refine held_v 21 (some 49) rfl (by kernel_rfl) (by kernel_rfl) (by kernel_rfl) (by kernel_rfl) (fun c a v w h => HQ2.out c a _ v w h) (by kernel_rfl) (.pointer (some ⟨gH, ib, none⟩)) (fun W h => by go_simp) HY2.toG ?_
    try simp only [Act.put, List.setIfInBounds_toArray, List.set_cons_zero, List.set_cons_succ]
    refine wpAnyH_ready (rs := [22]) (by kernel_rfl) (by decide) ?_
    refine AllReadyH.cons rfl (fun K hK => ?_) AllReadyH.nil
    refine step_store_cell none (by kernel_rfl) (by kernel_rfl) 22 (.tmp 49) (.tmp 48) rfl gH ib (by kernel_rfl) 22 _ HY2.bH (.int .u64 z) (by kernel_rfl) (by have := HHL.out; rw [intsA_size, this]; exact HBN.out) size_u64F rfl rfl ?_
    intro w203 hkw203 how203
    have trw203 := HY2.putH hkw203.out how203
    refine hK.out _ _ trw203.toG (fun hw203 => ?_)
    clear hK K
    try simp only [Act.put, List.setIfInBounds_toArray, List.set_cons_zero, List.set_cons_succ]
    refine wpAnyH_done (by kernel_rfl) ?_ _
    refine HQ1.out _ _ ?_
    clear HQ1 HQ2
    have HY3 := Lib.hid trw203
    go_wp2_with (first
      | (go_at_call 52; (with_reducible refine (HSO.out _ _ _ HY3.out).mono ?_); rintro e w9 ⟨rfl, hfin⟩; have HF := Lib.hid hfin))
    go_end0
    exact ⟨rfl, HF.out⟩
  · refine step_v (some 46) (by kernel_rfl) (by kernel_rfl) (.int .u64 x) (by have p := (HY2).atH (k := ia) (by rw [HHL.out]; exact HAN.out); rw [HXH.out] at p; go_simp) ?_
    refine hK.out _ _ HY2.toG (fun _ => ?_)
    clear hK K
    try simp only [Act.put, List.setIfInBounds_toArray, List.set_cons_zero, List.set_cons_succ]
    refine held_v 19 (some 47) rfl (by kernel_rfl) (by kernel_rfl) (by kernel_rfl) (by kernel_rfl) (fun c a v w h => HQ2.out c a _ v w h) (by kernel_rfl) (.int .u64 (T - x)) (fun W h => by have p := W1.out; go_simp) HY2.toG ?_
    try simp only [Act.put, List.setIfInBounds_toArray, List.set_cons_zero, List.set_cons_succ]
    refine wpAnyH_ready (rs := [6]) (by kernel_rfl) (by decide) ?_
    refine AllReadyH.cons rfl (fun K hK => ?_) AllReadyH.nil
    refine step_v (some 34) (by kernel_rfl) (by kernel_rfl) (.int .u64 y) (by have p := (HY2).atH (k := ib) (by rw [HHL.out]; exact HBN.out); rw [HYH.out] at p; go_simp) ?_
    refine hK.out _ _ HY2.toG (fun _ => ?_)
    clear hK K
    try simp only [Act.put, List.setIfInBounds_toArray, List.set_cons_zero, List.set_cons_succ]
    refine held_v 20 (some 48) rfl (by kernel_rfl) (by kernel_rfl) (by kernel_rfl) (by kernel_rfl) (fun c a v w h => HQ2.out c a _ v w h) (by kernel_rfl) (.int .u64 z) (fun W h => by have p := W2.out; go_simp) HY2.toG ?_
    try simp only [Act.put, List.setIfInBounds_toArray, List.set_cons_zero, List.set_cons_succ]
    refine held_v 21 (some 49) rfl (by kernel_rfl) (by kernel_rfl) (by kernel_rfl) (by kernel_rfl) (fun c a v w h => HQ2.out c a _ v w h) (by kernel_rfl) (.pointer (some ⟨gH, ib, none⟩)) (fun W h => by go_simp) HY2.toG ?_
    try simp only [Act.put, List.setIfInBounds_toArray, List.set_cons_zero, List.set_cons_succ]
    refine wpAnyH_ready (rs := [22]) (by kernel_rfl) (by decide) ?_
    refine AllReadyH.cons rfl (fun K hK => ?_) AllReadyH.nil
    refine step_store_cell none (by kernel_rfl) (by kernel_rfl) 22 (.tmp 49) (.tmp 48) rfl gH ib (by kernel_rfl) 22 _ HY2.bH (.int .u64 z) (by kernel_rfl) (by have := HHL.out; rw [intsA_size, this]; exact HBN.out) size_u64F rfl rfl ?_
    intro w206 hkw206 how206
    have trw206 := HY2.putH hkw206.out how206
    refine hK.out _ _ trw206.toG (fun hw206 => ?_)
    clear hK K
    try simp only [Act.put, List.setIfInBounds_toArray, List.set_cons_zero, List.set_cons_succ]
    refine wpAnyH_done (by kernel_rfl) ?_ _
    refine HQ1.out _ _ ?_
    clear HQ1 HQ2
    have HY3 := Lib.hid trw206
    go_wp2_with (first
      | (go_at_call 52; (with_reducible refine (HSO.out _ _ _ HY3.out).mono ?_); rintro e w9 ⟨rfl, hfin⟩; have HF := Lib.hid hfin))
    go_end0
    exact ⟨rfl, HF.out⟩
end Go.Proofs.YtomkidgmpbjgeaaGreatDoor
/-
  What the landed alias's lay and Build return: the table of stakes, or why there is none; memory is left as it was.
  Conditions: the stakes lie in their type's range; there are at most 1000.
-/
set_option maxRecDepth 100000
set_option linter.unusedVariables false
set_option linter.unusedSimpArgs false
namespace Go.Proofs.YtomkidgmpbjgeaaGreatDoor
open Go.ChangeShapes Go.WideShapes Go.ChangeAt Go.RowKit
section
variable {P : Program} {w : World} {ops : Array Oper} {o : Oper} {a : Act} {Q : Exit → Act → World → Prop}
/-- A row is made, where it comes up. -/
theorem step_makeH {K : Act → World → Prop} {E : Prop} (d : Option Tmp) (hd : o.dst = d) (hw : Region.wanted o (yielded ops a.tmps) = true) (n : Nat) (t : TypeId) (cs : Array Value)
    (hv : (execOp a.eval o).run P w = .ok (.value (.slice (some ⟨w.heap.size, 0, none⟩) n n)) (w.alloc (.cells cs t)))
    (h : ∀ g w', Blk w' g t cs → Below w.heap.size w w' → w.heap.size ≤ g → K (a.put d (.slice (some ⟨g, 0, none⟩) n n)) w') :
    if Region.wanted o (yielded ops a.tmps) = true then Oper.wp P o a w K Q else E := by
  subst hd
  rw [if_pos hw]
  unfold Oper.wp
  simp only [hv]
  exact h _ _ (Blk.new w t cs) ((Below.refl _ _).alloc (Nat.le_refl _) _) (Nat.le_refl _)
/-- A struct is boxed, where it comes up. -/
theorem step_boxH {K : Act → World → Prop} {E : Prop} (d : Option Tmp) (hd : o.dst = d) (hw : Region.wanted o (yielded ops a.tmps) = true) (ty : TypeId) (x : Operand) (ho : o.op = .box ty x) (cs : Array Value) (hx : a.eval x = .agg cs)
    (h : ∀ g w', Blk w' g ty cs → Below w.heap.size w w' → w.heap.size ≤ g → K (a.put d (.pointer (some ⟨g, 0, none⟩))) w') :
    if Region.wanted o (yielded ops a.tmps) = true then Oper.wp P o a w K Q else E := by
  subst hd
  rw [if_pos hw]
  unfold Oper.wp execOp
  simp only [ho, hx, Instr.box, newVar, newRow, Value.cells]
  exact h _ _ (Blk.new w ty cs) ((Below.refl _ _).alloc (Nat.le_refl _) _) (Nat.le_refl _)
end
theorem exec_cells {a : Act} {o : Oper} (n : Nat) (hn : n ≤ 100000) (w : World) (x : Operand) (ho : o.op = .makeSlice 23 x x) (hx : a.eval x = .int .i64 (n : Int)) : (execOp a.eval o).run Tryz.prog w = .ok (.value (.slice (some ⟨w.heap.size, 0, none⟩) n n)) (w.alloc (.cells (cellsA (List.replicate n (0, 0))) 58)) := by
  unfold execOp
  simp only [ho, hx]
  change ((Instr.makeSlice 23 (.int .i64 (n : Int)) (.int .i64 (n : Int))) >>= fun v => pure (Next.value v)).run Tryz.prog w = _
  simp only [Sem.run_bind, run_make_cells n hn, Result.andThen_ok, Sem.run_pure]
theorem exec_u64 {a : Act} {o : Oper} (n : Nat) (hn : n ≤ 100000) (w : World) (x : Operand) (ho : o.op = .makeSlice 37 x x) (hx : a.eval x = .int .i64 (n : Int)) : (execOp a.eval o).run Tryz.prog w = .ok (.value (.slice (some ⟨w.heap.size, 0, none⟩) n n)) (w.alloc (.cells (intsA .u64 (List.replicate n 0)) 22)) := by
  unfold execOp
  simp only [ho, hx]
  change ((Instr.makeSlice 37 (.int .i64 (n : Int)) (.int .i64 (n : Int))) >>= fun v => pure (Next.value v)).run Tryz.prog w = _
  simp only [Sem.run_bind, run_make_u64 n hn, Result.andThen_ok, Sem.run_pure]
/-- What a build begins with. -/
theorem LayS.start {w0 w1 w2 w3 : World} {g gH gC n : Nat} {T : Int} {vs : List Int} {ts : List (Int × Int)} (kH : Blk w3 gH 22 (intsA .u64 vs)) (kC : Blk w3 gC 58 (cellsA ts)) (kY : Blk w3 g 69 #[.int .u64 T, .slice (some ⟨gC, 0, none⟩) n n, .slice (some ⟨gH, 0, none⟩) n n, .slice none 0 0, .slice none 0 0]) (hb : Below w0.heap.size w0 w3) (lY : w0.heap.size ≤ g) (lH : w0.heap.size ≤ gH) (lC : w0.heap.size ≤ gC) : LayS w0 g gH gC n T vs ts (.slice none 0 0) (.slice none 0 0) [] [] w3 :=
  ⟨kY, kH, kC, own_nil _ _ _, own_nil _ _ _, fun g e => (by simp [Value.ownBlock] at e), hb, lY, lH, lC⟩
/-- How many places are left, as the lists in memory say. -/
def layM (g : Nat) (w : World) : Nat := lenV ((w.cell? ⟨g, 3, none⟩).getD undef) + lenV ((w.cell? ⟨g, 4, none⟩).getD undef)
theorem LayS.meas {w0 w : World} {g gH gC n : Nat} {T : Int} {hs sm lg : List Int} {ts : List (Int × Int)} {vS vL : Value} (h : LayS w0 g gH gC n T hs ts vS vL sm lg w) : layM g w = sm.length + lg.length := by
  unfold layM
  rw [h.c3, h.c4]
  show lenV vS + lenV vL = _
  rw [h.oS.lenV, h.oL.lenV]
set_option maxHeartbeats 8000000 in
theorem q14lay_c (l : List Int) (T : Int) (T0 : 0 ≤ T) (T1 : T < 9223372036854775808) (A : Option Addr) (n c : Nat) (hn : n ≤ 1000) (hz : ∀ k, k < n → 0 ≤ l.getD k 0 ∧ l.getD k 0 < 18446744073709551616 ∧ 0 ≤ (n : Int) * l.getD k 0 ∧ (n : Int) * l.getD k 0 < 9223372036854775808) (w : World) (hrd : Rd .u64 w w.heap.size A n l) :
    Calls Tryz.prog 36 #[.int .u64 T, .slice A n c] w fun e w' => ∃ (g gH gC : Nat) (vS vL : Value), e = .returned (.pointer (some ⟨g, 0, none⟩)) ∧ LayS w g gH gC n T (abInit T l).has (abInit T l).ts vS vL (abInit T l).sm (abInit T l).lg w' := by
  have HR := Lib.hid hrd
  have hlen := hrd.len
  have HZ := Lib.hid hz
  have HNEXT : Hid (∀ g gH gC k, k < n → ∀ vS vL W, LayS w g gH gC n T ((fillT (hasL l) 0 k).set k ((n : Int) * l.getD k 0)) ((fillT (cellsL T n) (0, 0) k).set k (T, (k : Int))) vS vL (smL T (hasL l) k) (lgL T (hasL l) k) W → Calls Tryz.prog 52 #[.pointer (some ⟨g, 0, none⟩), .int .i64 (k : Int)] W fun e w' => e = .returned (.tuple #[]) ∧ ∃ vS' vL', LayS w g gH gC n T (fillT (hasL l) 0 (k + 1)) (fillT (cellsL T n) (0, 0) (k + 1)) vS' vL' (smL T (hasL l) (k + 1)) (lgL T (hasL l) (k + 1)) w') := Lib.hid (fun g gH gC k hk vS vL W h => by
    have q1 : (fillT (hasL l) 0 k).set k ((n : Int) * l.getD k 0) = fillT (hasL l) 0 (k + 1) := by
      have := fill_next (hasL l) 0 k (by rw [hasL_len]; omega)
      rw [← this]
      congr 1
      have h9 := hasL_at (l := l) (i := k) (by omega)
      rw [hlen] at h9
      rw [← h9, List.getD_eq_getElem?_getD, List.getElem?_eq_getElem (by rw [hasL_len]; omega)]
      rfl
    have q2 : (fillT (cellsL T n) (0, 0) k).set k (T, (k : Int)) = fillT (cellsL T n) (0, 0) (k + 1) := by
      have := fill_next (cellsL T n) (0, 0) k (by rw [cells_len]; omega)
      rw [← this]
      congr 1
      simp [cellsL]
    have h9 := hasL_at (l := l) (i := k) (by omega)
    rw [hlen] at h9
    have hll : (fillT (hasL l) 0 k).length = n := by rw [fill_len _ _ _ (by rw [hasL_len]; omega), hasL_len, hlen]
    have hg : ((fillT (hasL l) 0 k).set k ((n : Int) * l.getD k 0)).getD k 0 = (n : Int) * l.getD k 0 := by rw [getD_setT (by omega), if_pos rfl]
    have hx := hz k hk
    have hsl := sl_len T (hasL l) k
    have h2 := q14sort_c k hk hn (by rw [List.length_set]; exact hll) (by rw [hg]; exact hx.2.2.1) (by rw [hg]; have := hx.2.2.2; omega) T0 (by omega) (by omega) (by omega) W h
    rw [hg, q1, q2] at h2
    rw [smL_succ, lgL_succ, h9]
    exact h2)
  have HFIN : Hid (∀ g gH gC vS vL W, LayS w g gH gC n T (fillT (hasL l) 0 n) (fillT (cellsL T n) (0, 0) n) vS vL (smL T (hasL l) n) (lgL T (hasL l) n) W → ∃ (g' gH' gC' : Nat) (vS' vL' : Value), Ending.returned (.pointer (some ⟨g, 0, none⟩)) = .returned (.pointer (some ⟨g', 0, none⟩)) ∧ LayS w g' gH' gC' n T (abInit T l).has (abInit T l).ts vS' vL' (abInit T l).sm (abInit T l).lg W) := Lib.hid (fun g gH gC vS vL W h => by
    have h1 := fill_all (hasL l) 0
    have h2 := fill_all (cellsL T n) (0, 0)
    rw [hasL_len, hlen] at h1
    rw [cells_len] at h2
    rw [h1, h2] at h
    refine ⟨g, gH, gC, vS, vL, rfl, ?_⟩
    unfold abInit
    rw [hlen]
    exact h)
  have HN5 := Lib.hid (show n ≤ 100000 by omega)
  have HB0 : Below w.heap.size w w.drew := (Below.refl _ _).drew
  have i2 : (n : Int) ≤ 1000 := by omega
  have i3 : (0 : Int) ≤ (n : Int) := by omega
  clear hz hrd
  go_enter Tryz.func36, Tryz.ntmps36
  go_wp2
  refine wp_region_held_drew (S := (fun _ => True)) (by kernel_rfl) trivial (fun hH => ?_)
  refine wpAnyH_letter #[false, false, false, false, false, false, false, false, false] (by kernel_rfl) (fun _ _ d _ _ h => by cases d <;> exact h) (fun QL HQ1 HQ2 => ?_)
  refine held_v 0 (some 11) rfl (by kernel_rfl) (by kernel_rfl) (by kernel_rfl) (by kernel_rfl) (fun c a v w h => HQ2.out c a _ v w h) (by kernel_rfl) (.int .u64 T) (fun W h => by kernel_rfl) trivial ?_
  try simp only [Act.put, List.setIfInBounds_toArray, List.set_cons_zero, List.set_cons_succ]
  refine held_v 1 (some 12) rfl (by kernel_rfl) (by kernel_rfl) (by kernel_rfl) (by kernel_rfl) (fun c a v w h => HQ2.out c a _ v w h) (by kernel_rfl) (.int .i64 (n : Int)) (fun W h => by kernel_rfl) trivial ?_
  try simp only [Act.put, List.setIfInBounds_toArray, List.set_cons_zero, List.set_cons_succ]
  refine held_v 4 (some 15) rfl (by kernel_rfl) (by kernel_rfl) (by kernel_rfl) (by kernel_rfl) (fun c a v w h => HQ2.out c a _ v w h) (by kernel_rfl) (.int .i64 (n : Int)) (fun W h => by kernel_rfl) trivial ?_
  try simp only [Act.put, List.setIfInBounds_toArray, List.set_cons_zero, List.set_cons_succ]
  refine wpAnyH_ready (rs := [2, 5]) (by kernel_rfl) (by decide) ?_
  refine AllReadyH.cons rfl (fun K hK => ?_) (AllReadyH.cons rfl (fun K hK => ?_) AllReadyH.nil)
  · refine step_makeH (some 13) (by kernel_rfl) (by kernel_rfl) n 58 (cellsA (List.replicate n (0, 0))) (exec_cells n HN5.out _ (.tmp 12) (by kernel_rfl) (by kernel_rfl)) ?_
    intro gw41 w41 kw41 bw41 lw41
    have e42 := (HB0).trans (bw41.mono (HB0).size)
    have llw41 := Nat.le_trans (HB0).size lw41
    refine hK.out _ _ trivial (fun _ => ?_)
    clear hK K
    try simp only [Act.put, List.setIfInBounds_toArray, List.set_cons_zero, List.set_cons_succ]
    refine held_v 3 (some 14) rfl (by kernel_rfl) (by kernel_rfl) (by kernel_rfl) (by kernel_rfl) (fun c a v w h => HQ2.out c a _ v w h) (by kernel_rfl) (.agg #[.int .u64 T, .slice (some ⟨gw41, 0, none⟩) n n]) (fun W h => by go_simp) trivial ?_
    try simp only [Act.put, List.setIfInBounds_toArray, List.set_cons_zero, List.set_cons_succ]
    refine wpAnyH_ready (rs := [5]) (by kernel_rfl) (by decide) ?_
    refine AllReadyH.cons rfl (fun K hK => ?_) AllReadyH.nil
    refine step_makeH (some 16) (by kernel_rfl) (by kernel_rfl) n 22 (intsA .u64 (List.replicate n 0)) (exec_u64 n HN5.out _ (.tmp 15) (by kernel_rfl) (by kernel_rfl)) ?_
    intro gw43 w43 kw43 bw43 lw43
    have e44 := (e42).trans (bw43.mono (e42).size)
    have e45 := (kw41).below bw43 (kw41).lt
    have e46 := llw41
    have llw43 := Nat.le_trans (e42).size lw43
    refine hK.out _ _ trivial (fun _ => ?_)
    clear hK K
    try simp only [Act.put, List.setIfInBounds_toArray, List.set_cons_zero, List.set_cons_succ]
    refine held_v 6 (some 17) rfl (by kernel_rfl) (by kernel_rfl) (by kernel_rfl) (by kernel_rfl) (fun c a v w h => HQ2.out c a _ v w h) (by kernel_rfl) (.agg #[.int .u64 T, .slice (some ⟨gw41, 0, none⟩) n n, .slice (some ⟨gw43, 0, none⟩) n n, .slice none 0 0, .slice none 0 0]) (fun W h => by go_simp) trivial ?_
    try simp only [Act.put, List.setIfInBounds_toArray, List.set_cons_zero, List.set_cons_succ]
    refine wpAnyH_ready (rs := [7]) (by kernel_rfl) (by decide) ?_
    refine AllReadyH.cons rfl (fun K hK => ?_) AllReadyH.nil
    refine step_boxH (some 18) (by kernel_rfl) (by kernel_rfl) 69 (.tmp 17) (by kernel_rfl) #[.int .u64 T, .slice (some ⟨gw41, 0, none⟩) n n, .slice (some ⟨gw43, 0, none⟩) n n, .slice none 0 0, .slice none 0 0] (by kernel_rfl) ?_
    intro gw47 w47 kw47 bw47 lw47
    have e48 := (e44).trans (bw47.mono (e44).size)
    have e49 := (e45).below bw47 (e45).lt
    have e50 := e46
    have e51 := (kw43).below bw47 (kw43).lt
    have e52 := llw43
    have llw47 := Nat.le_trans (e44).size lw47
    refine hK.out _ _ trivial (fun _ => ?_)
    clear hK K
    try simp only [Act.put, List.setIfInBounds_toArray, List.set_cons_zero, List.set_cons_succ]
    refine held_v 8 (some 6) rfl (by kernel_rfl) (by kernel_rfl) (by kernel_rfl) (by kernel_rfl) (fun c a v w h => HQ2.out c a _ v w h) (by kernel_rfl) (.pointer (some ⟨gw47, 0, none⟩)) (fun W h => by kernel_rfl) trivial ?_
    try simp only [Act.put, List.setIfInBounds_toArray, List.set_cons_zero, List.set_cons_succ]
    refine wpAnyH_done (by kernel_rfl) ?_ _
    refine HQ1.out _ _ ?_
    clear HQ1 HQ2
    have HST : Hid (LayS w gw47 gw43 gw41 n T (fillT (hasL l) 0 0) (fillT (cellsL T n) (0, 0) 0) (.slice none 0 0) (.slice none 0 0) (smL T (hasL l) 0) (lgL T (hasL l) 0) _) := Lib.hid (by
      rw [fill_zero, fill_zero, hasL_len, cells_len, hlen]
      exact LayS.start (w1 := w) (w2 := w) e51 e49 kw47 e48 llw47 e52 e50)
    have HNX0 := Lib.hid (fun k hk => HNEXT.out gw47 gw43 gw41 k hk)
    have HEND := Lib.hid (fun vS vL W h => HFIN.out gw47 gw43 gw41 vS vL W h)
    clear HNEXT HFIN
    clear e48 e49 e51 kw47
    go_wp2
    go_loopw [21] (fun iv wr => ∃ (k : Nat) (vS vL : Value), k ≤ n ∧ iv = .int .i64 (k : Int) ∧ LayS w gw47 gw43 gw41 n T (fillT (hasL l) 0 k) (fillT (cellsL T n) (0, 0) k) vS vL (smL T (hasL l) k) (lgL T (hasL l) k) wr) (fun iv _ => n - (intOf iv).toNat)
    case atStart => exact ⟨0, _, _, by omega, rfl, HST.out⟩
    case round =>
      obtain ⟨k, vS, vL, hk, rfl, hB⟩ := hrel
      have B1 := Lib.hid hB
      by_cases hlt : k < n
      · obtain ⟨b, off, rfl, _, hcc⟩ := (hB.rd HR.out).at_ (by omega)
        have hck := hcc k hlt
        have hx := HZ.out k hlt
        have HTL : Hid ((fillT (cellsL T n) (0, 0) k).length = n) := Lib.hid (by rw [fill_len _ _ _ (by rw [cells_len]; omega), cells_len])
        have HHL : Hid ((fillT (hasL l) 0 k).length = n) := Lib.hid (by rw [fill_len _ _ _ (by rw [hasL_len]; omega), hasL_len, hlen])
        have HNX := Lib.hid (HNX0.out k hlt)
        obtain ⟨x, hxx⟩ : ∃ x, l.getD k 0 = x := ⟨_, rfl⟩
        rw [hxx] at hck hx HNX
        obtain ⟨p, hp⟩ : ∃ p, (n : Int) * x = p := ⟨_, rfl⟩
        rw [hp] at hx HNX
        obtain ⟨x0, x1, p0, p1⟩ := hx
        obtain ⟨H, hH⟩ : ∃ p, fillT (hasL l) 0 k = p := ⟨_, rfl⟩
        obtain ⟨C, hC⟩ : ∃ p, fillT (cellsL T n) (0, 0) k = p := ⟨_, rfl⟩
        rw [hH] at B1 HHL HNX
        rw [hC] at B1 HTL HNX
        have i0 : (0 : Int) ≤ (k : Int) := by omega
        have i1 : (k : Int) < (n : Int) := by omega
        have hw : IntKind.u64.wrap ((n : Int) * x) = p := by rw [hp, IntKind.wrap_u64]; omega
        have d1 := B1.out.c1
        clear hcc hB hxx hp hH hC HST HEND HNX0
        go_wp2_with (first
          | (with_reducible refine at_any ?_; refine at_store 35 rfl ?_; refine wpList_store_mid rfl 58 (.tmp 35) (.tmp 34) rfl gw41 (k * 2) rfl 58 (cellsA C) #[.int .u64 T, .int .i64 (k : Int)] B1.out.bC rfl (by have := HTL.out; rw [cellsA_size, this]; simp; omega) (size_cellF _ _) (cell_onesF _ _) ?_; intro w2 hk2 ho2; have B2 := Lib.hid (B1.out.putC hk2.out ho2); have d2 := B2.out.c2; clear hk2 ho2)
          | (with_reducible refine at_any ?_; refine at_store 45 rfl ?_; refine wpList_store_cell rfl 22 (.tmp 45) (.tmp 44) rfl gw43 k rfl 22 (intsA .u64 H) B2.out.bH (.int .u64 p) rfl (by have := HHL.out; rw [intsA_size, this]; exact hlt) size_u64F rfl rfl ?_; intro w3 hk3 ho3; have B3 := Lib.hid (B2.out.putH hk3.out ho3); clear hk3 ho3)
          | (go_at_call 52; (with_reducible refine (HNX.out _ _ _ B3.out).mono ?_); rintro e w4 ⟨rfl, hfin⟩; have HF := Lib.hid hfin; clear hfin))
        go_roundw
        case rel =>
          obtain ⟨v1, v2, hF⟩ := HF.out
          exact ⟨k + 1, v1, v2, by omega, by go_num, hF⟩
        case measure => simp [intOf]; omega
      · obtain rfl : k = n := by omega
        go_wp2
        go_ret
        exact HEND.out _ _ _ B1.out
  · refine step_makeH (some 16) (by kernel_rfl) (by kernel_rfl) n 22 (intsA .u64 (List.replicate n 0)) (exec_u64 n HN5.out _ (.tmp 15) (by kernel_rfl) (by kernel_rfl)) ?_
    intro gw53 w53 kw53 bw53 lw53
    have e54 := (HB0).trans (bw53.mono (HB0).size)
    have llw53 := Nat.le_trans (HB0).size lw53
    refine hK.out _ _ trivial (fun _ => ?_)
    clear hK K
    try simp only [Act.put, List.setIfInBounds_toArray, List.set_cons_zero, List.set_cons_succ]
    refine wpAnyH_ready (rs := [2]) (by kernel_rfl) (by decide) ?_
    refine AllReadyH.cons rfl (fun K hK => ?_) AllReadyH.nil
    refine step_makeH (some 13) (by kernel_rfl) (by kernel_rfl) n 58 (cellsA (List.replicate n (0, 0))) (exec_cells n HN5.out _ (.tmp 12) (by kernel_rfl) (by kernel_rfl)) ?_
    intro gw55 w55 kw55 bw55 lw55
    have e56 := (e54).trans (bw55.mono (e54).size)
    have e57 := (kw53).below bw55 (kw53).lt
    have e58 := llw53
    have llw55 := Nat.le_trans (e54).size lw55
    refine hK.out _ _ trivial (fun _ => ?_)
    clear hK K
    try simp only [Act.put, List.setIfInBounds_toArray, List.set_cons_zero, List.set_cons_succ]
    refine held_v 3 (some 14) rfl (by kernel_rfl) (by kernel_rfl) (by kernel_rfl) (by kernel_rfl) (fun c a v w h => HQ2.out c a _ v w h) (by kernel_rfl) (.agg #[.int .u64 T, .slice (some ⟨gw55, 0, none⟩) n n]) (fun W h => by go_simp) trivial ?_
    try simp only [Act.put, List.setIfInBounds_toArray, List.set_cons_zero, List.set_cons_succ]
    refine held_v 6 (some 17) rfl (by kernel_rfl) (by kernel_rfl) (by kernel_rfl) (by kernel_rfl) (fun c a v w h => HQ2.out c a _ v w h) (by kernel_rfl) (.agg #[.int .u64 T, .slice (some ⟨gw55, 0, none⟩) n n, .slice (some ⟨gw53, 0, none⟩) n n, .slice none 0 0, .slice none 0 0]) (fun W h => by go_simp) trivial ?_
    try simp only [Act.put, List.setIfInBounds_toArray, List.set_cons_zero, List.set_cons_succ]
    refine wpAnyH_ready (rs := [7]) (by kernel_rfl) (by decide) ?_
    refine AllReadyH.cons rfl (fun K hK => ?_) AllReadyH.nil
    refine step_boxH (some 18) (by kernel_rfl) (by kernel_rfl) 69 (.tmp 17) (by kernel_rfl) #[.int .u64 T, .slice (some ⟨gw55, 0, none⟩) n n, .slice (some ⟨gw53, 0, none⟩) n n, .slice none 0 0, .slice none 0 0] (by kernel_rfl) ?_
    intro gw59 w59 kw59 bw59 lw59
    have e60 := (e56).trans (bw59.mono (e56).size)
    have e61 := (e57).below bw59 (e57).lt
    have e62 := e58
    have e63 := (kw55).below bw59 (kw55).lt
    have e64 := llw55
    have llw59 := Nat.le_trans (e56).size lw59
    refine hK.out _ _ trivial (fun _ => ?_)
    clear hK K
    try simp only [Act.put, List.setIfInBounds_toArray, List.set_cons_zero, List.set_cons_succ]
    refine held_v 8 (some 6) rfl (by kernel_rfl) (by kernel_rfl) (by kernel_rfl) (by kernel_rfl) (fun c a v w h => HQ2.out c a _ v w h) (by kernel_rfl) (.pointer (some ⟨gw59, 0, none⟩)) (fun W h => by kernel_rfl) trivial ?_
    try simp only [Act.put, List.setIfInBounds_toArray, List.set_cons_zero, List.set_cons_succ]
    refine wpAnyH_done (by kernel_rfl) ?_ _
    refine HQ1.out _ _ ?_
    clear HQ1 HQ2
    have HST : Hid (LayS w gw59 gw53 gw55 n T (fillT (hasL l) 0 0) (fillT (cellsL T n) (0, 0) 0) (.slice none 0 0) (.slice none 0 0) (smL T (hasL l) 0) (lgL T (hasL l) 0) _) := Lib.hid (by
      rw [fill_zero, fill_zero, hasL_len, cells_len, hlen]
      exact LayS.start (w1 := w) (w2 := w) e61 e63 kw59 e60 llw59 e62 e64)
    have HNX0 := Lib.hid (fun k hk => HNEXT.out gw59 gw53 gw55 k hk)
    have HEND := Lib.hid (fun vS vL W h => HFIN.out gw59 gw53 gw55 vS vL W h)
    clear HNEXT HFIN
    clear e60 e61 e63 kw59
    go_wp2
    go_loopw [21] (fun iv wr => ∃ (k : Nat) (vS vL : Value), k ≤ n ∧ iv = .int .i64 (k : Int) ∧ LayS w gw59 gw53 gw55 n T (fillT (hasL l) 0 k) (fillT (cellsL T n) (0, 0) k) vS vL (smL T (hasL l) k) (lgL T (hasL l) k) wr) (fun iv _ => n - (intOf iv).toNat)
    case atStart => exact ⟨0, _, _, by omega, rfl, HST.out⟩
    case round =>
      obtain ⟨k, vS, vL, hk, rfl, hB⟩ := hrel
      have B1 := Lib.hid hB
      by_cases hlt : k < n
      · obtain ⟨b, off, rfl, _, hcc⟩ := (hB.rd HR.out).at_ (by omega)
        have hck := hcc k hlt
        have hx := HZ.out k hlt
        have HTL : Hid ((fillT (cellsL T n) (0, 0) k).length = n) := Lib.hid (by rw [fill_len _ _ _ (by rw [cells_len]; omega), cells_len])
        have HHL : Hid ((fillT (hasL l) 0 k).length = n) := Lib.hid (by rw [fill_len _ _ _ (by rw [hasL_len]; omega), hasL_len, hlen])
        have HNX := Lib.hid (HNX0.out k hlt)
        obtain ⟨x, hxx⟩ : ∃ x, l.getD k 0 = x := ⟨_, rfl⟩
        rw [hxx] at hck hx HNX
        obtain ⟨p, hp⟩ : ∃ p, (n : Int) * x = p := ⟨_, rfl⟩
        rw [hp] at hx HNX
        obtain ⟨x0, x1, p0, p1⟩ := hx
        obtain ⟨H, hH⟩ : ∃ p, fillT (hasL l) 0 k = p := ⟨_, rfl⟩
        obtain ⟨C, hC⟩ : ∃ p, fillT (cellsL T n) (0, 0) k = p := ⟨_, rfl⟩
        rw [hH] at B1 HHL HNX
        rw [hC] at B1 HTL HNX
        have i0 : (0 : Int) ≤ (k : Int) := by omega
        have i1 : (k : Int) < (n : Int) := by omega
        have hw : IntKind.u64.wrap ((n : Int) * x) = p := by rw [hp, IntKind.wrap_u64]; omega
        have d1 := B1.out.c1
        clear hcc hB hxx hp hH hC HST HEND HNX0
        go_wp2_with (first
          | (with_reducible refine at_any ?_; refine at_store 35 rfl ?_; refine wpList_store_mid rfl 58 (.tmp 35) (.tmp 34) rfl gw55 (k * 2) rfl 58 (cellsA C) #[.int .u64 T, .int .i64 (k : Int)] B1.out.bC rfl (by have := HTL.out; rw [cellsA_size, this]; simp; omega) (size_cellF _ _) (cell_onesF _ _) ?_; intro w2 hk2 ho2; have B2 := Lib.hid (B1.out.putC hk2.out ho2); have d2 := B2.out.c2; clear hk2 ho2)
          | (with_reducible refine at_any ?_; refine at_store 45 rfl ?_; refine wpList_store_cell rfl 22 (.tmp 45) (.tmp 44) rfl gw53 k rfl 22 (intsA .u64 H) B2.out.bH (.int .u64 p) rfl (by have := HHL.out; rw [intsA_size, this]; exact hlt) size_u64F rfl rfl ?_; intro w3 hk3 ho3; have B3 := Lib.hid (B2.out.putH hk3.out ho3); clear hk3 ho3)
          | (go_at_call 52; (with_reducible refine (HNX.out _ _ _ B3.out).mono ?_); rintro e w4 ⟨rfl, hfin⟩; have HF := Lib.hid hfin; clear hfin))
        go_roundw
        case rel =>
          obtain ⟨v1, v2, hF⟩ := HF.out
          exact ⟨k + 1, v1, v2, by omega, by go_num, hF⟩
        case measure => simp [intOf]; omega
      · obtain rfl : k = n := by omega
        go_wp2
        go_ret
        exact HEND.out _ _ _ B1.out
end Go.Proofs.YtomkidgmpbjgeaaGreatDoor
/-
  What the landed alias's Build returns: the table of stakes, or why there is none; memory is left as it was.
  Conditions: the stakes lie in their type's range; there are at most 1000.
-/
set_option maxRecDepth 100000
set_option linter.unusedVariables false
set_option linter.unusedSimpArgs false
namespace Go.Proofs.YtomkidgmpbjgeaaGreatDoor
open Go.ChangeShapes Go.WideShapes Go.ChangeAt Go.RowKit
theorem range_two {w : World} {b : Nat} {u v : Value} (h : w.cell? ⟨b, 0, none⟩ = some u) (h2 : w.cell? ⟨b, 1, none⟩ = some v) : w.rangeAt b 0 [u, v] := by
  intro j z hz
  match j, hz with
  | 0, hz => injection hz with hz; subst hz; exact h
  | 1, hz => injection hz with hz; subst hz; exact h2
  | j + 2, hz => simp at hz
theorem size_tabH (u v : Value) : (Tryz.prog.info? 25).map (·.size) = some [u, v].length := by kernel_rfl
set_option maxHeartbeats 8000000 in
theorem q14build_c (l : List Int) (hz : ∀ z ∈ l, 0 ≤ z ∧ z < 18446744073709551616) (A : Option Addr) (n c : Nat) (hn : n ≤ 1000) (w : World) (hrd : Rd .u64 w w.heap.size A n l) : Calls Tryz.prog 21 #[.slice A n c] w (RetTab w (tbT l) (tbC l).length (tbC l) (tbE l)) := by
  have HR := Lib.hid hrd
  have hlen := hrd.len
  have HTO := Lib.hid (fun W h => q9total_c l hz A n c (by simp only [maxLen]; omega) W h)
  have HEMP : Hid (∀ er w', tbE l = er → er ≠ 0 → Below w.heap.size w w' → RetTab w (tbT l) (tbC l).length (tbC l) (tbE l) (.returned (.tuple #[.agg #[.int .u64 0, .slice none 0 0], .int .i64 er])) w') := Lib.hid (fun er w' h h0 hb => by
    obtain ⟨e1, e2⟩ := tb_no (l := l) (by rw [h]; exact h0)
    rw [e1, e2, h]
    exact ⟨none, 0, rfl, RdPr.nil _ _ _ _ _, Nat.le_refl _, by simp [maxLen], hb⟩)
  have hz' : ∀ z ∈ l, 0 ≤ z := fun z h => (hz z h).1
  have hs0 := sumL_nn hz'
  by_cases h1 : sumL l < 9223372036854775808
  case neg =>
    obtain ⟨e1, e2⟩ := sumV_no h1
    have n0 : l.length ≠ 0 := fun h => h1 (by rw [List.eq_nil_of_length_eq_zero h]; decide)
    have HE := Lib.hid (tbE_big n0 h1)
    rw [e1, e2] at HTO
    clear hrd hz hlen hz' hs0 h1 e1 e2 n0
    go_enter Tryz.func21, Tryz.ntmps21
    go_wp2_with (first
      | (with_reducible refine at_any ?_; refine at_dst 2 rfl ?_; refine wpList_alloc_any rfl 25 rfl #[.int .u64 0, .slice none 0 0] zero_tab ?_; intro w1 hk1 hs1 hb1; have HB1 := Lib.hid hb1; have HK1 := Lib.hid hk1.out)
      | (go_at_call 34; (with_reducible refine (HTO.out _ ((HR.out.below HB1.out).mono HB1.out.size)).mono ?_); rintro e _ ⟨rfl, rfl⟩)
      | (with_reducible refine at_any ?_; refine at_dst 16 rfl ?_; refine wpList_val rfl (.agg #[.int .u64 0, .slice none 0 0]) (build_tab0 _ rfl) ?_)
      | (with_reducible refine at_any ?_; refine at_store 2 rfl ?_; refine wpList_store_any rfl 25 (.tmp 2) (.tmp 16) rfl w.heap.size rfl 25 #[.int .u64 0, .slice none 0 0] #[.int .u64 0, .slice none 0 0] hk1.out rfl (size2T _ _ _ _) (size_tabB _ _) (tab_ones _ _ _ _) ?_; intro w9 hk9 hs9 hb9 ho9; have HB9 := Lib.hid (HB1.out.trans (hb9 _ (Nat.le_refl _))))
      | (refine bodyPost_any2 2 3 25 rfl w.heap.size rfl (.int .i64 11) rfl 25 #[.int .u64 0, .slice none 0 0] hk9.out _ Tryz.underlying25 rfl (size_tabB _ _) rfl ?_))
    exact HEMP.out 11 _ HE.out (by decide) HB9.out
  obtain ⟨e1, e2⟩ := sumV_ok h1
  rw [e1, e2] at HTO
  by_cases h2 : sumL l = 0
  · have HE : Hid (tbE l = 10) := Lib.hid (by
      by_cases h : l.length = 0
      · rw [List.eq_nil_of_length_eq_zero h]; rfl
      · exact tbE_zero h h1 h2)
    rw [h2] at HTO
    clear hrd hz hlen hz' hs0 h1 e1 e2 h2
    go_enter Tryz.func21, Tryz.ntmps21
    go_wp2_with (first
      | (with_reducible refine at_any ?_; refine at_dst 2 rfl ?_; refine wpList_alloc_any rfl 25 rfl #[.int .u64 0, .slice none 0 0] zero_tab ?_; intro w1 hk1 hs1 hb1; have HB1 := Lib.hid hb1; have HK1 := Lib.hid hk1.out)
      | (go_at_call 34; (with_reducible refine (HTO.out _ ((HR.out.below HB1.out).mono HB1.out.size)).mono ?_); rintro e _ ⟨rfl, rfl⟩)
      | (with_reducible refine at_any ?_; refine at_dst 19 rfl ?_; refine wpList_val rfl (.agg #[.int .u64 0, .slice none 0 0]) (build_tab0 _ rfl) ?_)
      | (with_reducible refine at_any ?_; refine at_store 2 rfl ?_; refine wpList_store_any rfl 25 (.tmp 2) (.tmp 19) rfl w.heap.size rfl 25 #[.int .u64 0, .slice none 0 0] #[.int .u64 0, .slice none 0 0] hk1.out rfl (size2T _ _ _ _) (size_tabB _ _) (tab_ones _ _ _ _) ?_; intro w9 hk9 hs9 hb9 ho9; have HB9 := Lib.hid (HB1.out.trans (hb9 _ (Nat.le_refl _))))
      | (refine bodyPost_any2 2 3 25 rfl w.heap.size rfl (.int .i64 10) rfl 25 #[.int .u64 0, .slice none 0 0] hk9.out _ Tryz.underlying25 rfl (size_tabB _ _) rfl ?_))
    exact HEMP.out 10 _ HE.out (by decide) HB9.out
  have n0 : 0 < n := by
    rcases Nat.eq_zero_or_pos n with h | h
    · exact absurd (by rw [List.eq_nil_of_length_eq_zero (hlen.trans h)]; rfl) h2
    · exact h
  have HM := Lib.hid (fun W => q9mul_c (n : Int) (sumL l) (by omega) (by omega) hs0 (by omega) W)
  have tT : (sumL l == 0) = false := by rw [beq_eq_false_iff_ne]; exact h2
  have i2 : (n : Int) ≤ 1000 := by omega
  by_cases h3 : (n : Int) * sumL l < 9223372036854775808
  case neg =>
    obtain ⟨e3, e4⟩ := mulV_no h3
    rw [e3, e4] at HM
    have HE := Lib.hid (tbE_mul (by omega) h1 h2 (by rw [hlen]; exact h3))
    obtain ⟨T, hT⟩ : ∃ T, sumL l = T := ⟨_, rfl⟩
    rw [hT] at HTO HM hs0 h1 tT
    clear hrd hz hlen hz' e1 e2 e3 e4 h2 h3 hT
    go_enter Tryz.func21, Tryz.ntmps21
    go_wp2_with (first
      | (with_reducible refine at_any ?_; refine at_dst 2 rfl ?_; refine wpList_alloc_any rfl 25 rfl #[.int .u64 0, .slice none 0 0] zero_tab ?_; intro w1 hk1 hs1 hb1; have HB1 := Lib.hid hb1; have HK1 := Lib.hid hk1.out)
      | (go_at_call 34; (with_reducible refine (HTO.out _ ((HR.out.below HB1.out).mono HB1.out.size)).mono ?_); rintro e _ ⟨rfl, rfl⟩)
      | (go_at_call 35; (with_reducible refine (HM.out _).mono ?_); rintro e _ ⟨rfl, rfl⟩)
      | (with_reducible refine at_any ?_; refine at_dst 30 rfl ?_; refine wpList_val rfl (.agg #[.int .u64 0, .slice none 0 0]) (build_tab0 _ rfl) ?_)
      | (with_reducible refine at_any ?_; refine at_store 2 rfl ?_; refine wpList_store_any rfl 25 (.tmp 2) (.tmp 30) rfl w.heap.size rfl 25 #[.int .u64 0, .slice none 0 0] #[.int .u64 0, .slice none 0 0] hk1.out rfl (size2T _ _ _ _) (size_tabB _ _) (tab_ones _ _ _ _) ?_; intro w9 hk9 hs9 hb9 ho9; have HB9 := Lib.hid (HB1.out.trans (hb9 _ (Nat.le_refl _))))
      | (refine bodyPost_any2 2 3 25 rfl w.heap.size rfl (.int .i64 11) rfl 25 #[.int .u64 0, .slice none 0 0] hk9.out _ Tryz.underlying25 rfl (size_tabB _ _) rfl ?_))
    exact HEMP.out 11 _ HE.out (by decide) HB9.out
  · obtain ⟨e3, e4⟩ := mulV_ok h3
    rw [e3, e4] at HM
    have HOK := tbE_ok (l := l) (by omega) h1 h2 (by rw [hlen]; exact h3)
    obtain ⟨E1, EI, E2, EF⟩ := tb_abi hz' HOK
    have hI := ABI.init hz' (by omega) (by rw [hlen]; exact h3)
    have hZZ : ∀ k, k < n → 0 ≤ l.getD k 0 ∧ l.getD k 0 < 18446744073709551616 ∧ 0 ≤ (n : Int) * l.getD k 0 ∧ (n : Int) * l.getD k 0 < 9223372036854775808 := fun k hk => by
      have g1 := getD_le hz' (i := k) (by omega)
      have g2 := mul_le_of (n := (n : Int)) (by omega) g1.2
      have g3 := Int.mul_nonneg (show (0 : Int) ≤ (n : Int) by omega) g1.1
      exact ⟨g1.1, by omega, g3, by omega⟩
    obtain ⟨T, hT⟩ : ∃ T, sumL l = T := ⟨_, rfl⟩
    rw [hT] at HTO HM hs0 h1 tT h2 EI E1 E2 EF h3 hI
    have HLY := Lib.hid (fun W h => q14lay_c l T hs0 h1 A n c hn hZZ W h)
    have HPA := Lib.hid (fun (w0 : World) (g gH gC : Nat) (s : AB) hI h1' h2' vS vL W h => q14pair_c (w0 := w0) (g := g) (gH := gH) (gC := gC) l s hI hlen hn hs0 h1 h1' h2' vS vL W h)
    have HE2 := Lib.hid E2
    have HE1 := Lib.hid E1
    have HII := Lib.hid hI
    have HOK2 := Lib.hid HOK
    have i3 : (0 : Int) < (n : Int) := by omega
    obtain ⟨m, hm⟩ : ∃ m, (n : Int) * T = m := ⟨_, rfl⟩
    rw [hm] at HM h3
    clear hrd hz hz' e1 e2 e3 e4 hT EI E1 E2 EF hI HOK HEMP hZZ hm
    go_enter Tryz.func21, Tryz.ntmps21
    go_wp2_with (first
      | (with_reducible refine at_any ?_; refine at_dst 2 rfl ?_; refine wpList_alloc_any rfl 25 rfl #[.int .u64 0, .slice none 0 0] zero_tab ?_; intro w1 hk1 hs1 hb1; have HB1 := Lib.hid hb1; have HK1 := Lib.hid hk1.out)
      | (go_at_call 34; (with_reducible refine (HTO.out _ ((HR.out.below HB1.out).mono HB1.out.size)).mono ?_); rintro e _ ⟨rfl, rfl⟩)
      | (go_at_call 35; (with_reducible refine (HM.out _).mono ?_); rintro e _ ⟨rfl, rfl⟩)
      | (go_at_call 36; (with_reducible refine (HLY.out _ ((HR.out.below HB1.out).mono HB1.out.size)).mono ?_); rintro e w2 ⟨g, gH, gC, vS, vL, rfl, hB⟩; have HB2 := Lib.hid hB; clear hB))
    obtain ⟨g2, hg2⟩ : ∃ g, w.heap.size = g := ⟨_, rfl⟩
    have hg2le : w.heap.size ≤ g2 := Nat.le_of_eq hg2
    rw [hg2] at HK1 ⊢
    clear hk1 hs1 hb1 hg2
    go_loopw [] (fun wr => ∃ (f : Nat) (s : AB) (vS vL : Value), abRun T f s = abRun T l.length (abInit T l) ∧ s.sm.length + s.lg.length ≤ f ∧ ABI T l s ∧ LayS w1 g gH gC n T s.has s.ts vS vL s.sm s.lg wr) (fun wr => layM g wr)
    case atStart => exact ⟨l.length, abInit T l, _, _, rfl, Nat.le_of_eq (sl_len T (hasL l) l.length), HII.out, HB2.out⟩
    case round =>
      obtain ⟨f, s, vS, vL, hrun, hf, hI, hB⟩ := hrel
      have hme := hB.meas
      by_cases hgo : s.sm.length ≠ 0 ∧ s.lg.length ≠ 0
      · have hIN := hI.step hgo.1 hgo.2
        have hln := abStep_len (T := T) hgo.1 hgo.2
        obtain ⟨f', rfl⟩ : ∃ f', f = f' + 1 := ⟨f - 1, by omega⟩
        rw [abRun_go hgo.1 hgo.2] at hrun
        have HRUN := Lib.hid hrun
        have HIN := Lib.hid hIN
        have HLN2 : Hid ((abStep T s).sm.length + (abStep T s).lg.length ≤ f') := Lib.hid (by omega)
        have HME : Hid (∀ W vS vL, LayS w1 g gH gC n T (abStep T s).has (abStep T s).ts vS vL (abStep T s).sm (abStep T s).lg W → layM g W < layM g wr) := Lib.hid (fun W vS vL h => by rw [h.meas, hme]; omega)
        have HPR := Lib.hid (HPA.out w1 g gH gC s hI hgo.1 hgo.2 vS vL _ hB)
        obtain ⟨A1, d1, rfl, -, -⟩ := hB.oS.form
        obtain ⟨A2, d2, rfl, -, -⟩ := hB.oL.form
        have c3 := hB.c3
        have c4 := hB.c4
        have hnd := hI.nd_len
        obtain ⟨p, hp⟩ : ∃ p, s.sm.length = p := ⟨_, rfl⟩
        obtain ⟨q, hq⟩ : ∃ p, s.lg.length = p := ⟨_, rfl⟩
        rw [hp] at c3 hgo hnd
        rw [hq] at c4 hgo hnd
        have j0 : (0 : Int) < (p : Int) := by omega
        have j1 : (0 : Int) < (q : Int) := by omega
        have j2 : (p : Int) ≤ 1000 := by omega
        have j3 : (q : Int) ≤ 1000 := by omega
        clear hrun hIN hf hI hB hgo hln hme hp hq hnd
        go_wp2_with (first
          | (go_at_call 37; (with_reducible refine HPR.out.mono ?_); rintro e w4 ⟨rfl, hfin⟩; have HF := Lib.hid hfin; clear hfin))
        go_roundw
        case rel =>
          obtain ⟨v1, v2, hF⟩ := HF.out
          exact ⟨f', abStep T s, v1, v2, HRUN.out, HLN2.out, HIN.out, hF⟩
        case measure =>
          obtain ⟨v1, v2, hF⟩ := HF.out
          exact HME.out _ v1 v2 hF
      · have hfin : s = abRun T l.length (abInit T l) := by rw [← hrun, abRun_stop (by omega)]
        have hts : tbC l = s.ts := by rw [HE2.out, ← hfin]
        have hTL : s.ts.length = n := by rw [hI.tn, hlen]
        obtain ⟨A1, d1, rfl, -, -⟩ := hB.oS.form
        obtain ⟨A2, d2, rfl, -, -⟩ := hB.oL.form
        have B7 := Lib.hid hB
        have c3 := hB.c3
        have c4 := hB.c4
        have HEND : Hid (∀ w', Blk w' gC 58 (cellsA s.ts) → Below w.heap.size w w' → RetTab w (tbT l) (tbC l).length (tbC l) (tbE l) (.returned (.tuple #[.agg #[.int .u64 T, .slice (some ⟨gC, 0, none⟩) n n], .int .i64 0])) w') := Lib.hid (fun w' h1 h2 => by
          rw [HE1.out, hts, HOK2.out, hTL]
          have h3 := RdPr.of_blk h1
          rw [hTL] at h3
          exact ⟨some ⟨gC, 0, none⟩, n, rfl, h3, Nat.le_refl _, by simp only [maxLen]; omega, h2⟩)
        have HG2 := Lib.hid (HK1.out.below hB.bel HK1.out.lt)
        have HG2L := Lib.hid hg2le
        have HBW := Lib.hid (HB1.out.trans (hB.bel.mono HB1.out.size))
        have HRG := Lib.hid (range_two hB.c0 hB.c1)
        obtain ⟨P, hP⟩ : ∃ P, s.sm.length = P := ⟨_, rfl⟩
        obtain ⟨Q, hQ⟩ : ∃ P, s.lg.length = P := ⟨_, rfl⟩
        rw [hP] at c3 hgo
        rw [hQ] at c4 hgo
        have hPQ : P = 0 ∨ Q = 0 := by omega
        have hPQ2 := hI.nd_len
        rw [hP, hQ] at hPQ2
        have j0 : (P : Int) ≤ 1000 := by omega
        have j1 : (Q : Int) ≤ 1000 := by omega
        clear hfin hts hTL hrun hf hI hB hP hQ hgo hPQ2 hme
        by_cases hP0 : P = 0
        · subst hP0
          clear hPQ
          go_wp2_with (first
            | (with_reducible refine at_any ?_; refine at_dst 53 rfl ?_; refine wpList_load_any rfl 25 (.tmp 52) rfl g 0 rfl [.int .u64 T, .slice (some ⟨gC, 0, none⟩) n n] HRG.out _ Tryz.underlying25 rfl (size_tabH _ _) ?_)
            | (with_reducible refine at_any ?_; refine at_store 2 rfl ?_; refine wpList_store_any rfl 25 (.tmp 2) (.tmp 53) rfl g2 rfl 25 #[.int .u64 0, .slice none 0 0] #[.int .u64 T, .slice (some ⟨gC, 0, none⟩) n n] HG2.out rfl (size2T _ _ _ _) (size_tabB _ _) (tab_ones _ _ _ _) ?_; intro w9 hk9 hs9 hb9 ho9; have HB9 := Lib.hid (HBW.out.trans (hb9 _ HG2L.out)); have HC9 := Lib.hid (B7.out.bC.other ho9 (B7.out.bC.ne HG2.out (by decide))))
            | (refine bodyPost_any2 2 3 25 rfl g2 rfl (.int .i64 0) rfl 25 #[.int .u64 T, .slice (some ⟨gC, 0, none⟩) n n] hk9.out _ Tryz.underlying25 rfl (size_tabB _ _) rfl ?_))
          exact HEND.out _ HC9.out HB9.out
        · have hQ0 : Q = 0 := by omega
          subst hQ0
          have j2 : (0 : Int) < (P : Int) := by omega
          clear hPQ hP0
          go_wp2_with (first
            | (with_reducible refine at_any ?_; refine at_dst 53 rfl ?_; refine wpList_load_any rfl 25 (.tmp 52) rfl g 0 rfl [.int .u64 T, .slice (some ⟨gC, 0, none⟩) n n] HRG.out _ Tryz.underlying25 rfl (size_tabH _ _) ?_)
            | (with_reducible refine at_any ?_; refine at_store 2 rfl ?_; refine wpList_store_any rfl 25 (.tmp 2) (.tmp 53) rfl g2 rfl 25 #[.int .u64 0, .slice none 0 0] #[.int .u64 T, .slice (some ⟨gC, 0, none⟩) n n] HG2.out rfl (size2T _ _ _ _) (size_tabB _ _) (tab_ones _ _ _ _) ?_; intro w9 hk9 hs9 hb9 ho9; have HB9 := Lib.hid (HBW.out.trans (hb9 _ HG2L.out)); have HC9 := Lib.hid (B7.out.bC.other ho9 (B7.out.bC.ne HG2.out (by decide))))
            | (refine bodyPost_any2 2 3 25 rfl g2 rfl (.int .i64 0) rfl 25 #[.int .u64 T, .slice (some ⟨gC, 0, none⟩) n n] hk9.out _ Tryz.underlying25 rfl (size_tabB _ _) rfl ?_))
          exact HEND.out _ HC9.out HB9.out
end Go.Proofs.YtomkidgmpbjgeaaGreatDoor
/-
  What the landed alias's calls return, and that memory is left as it was.
  Conditions: the arguments lie in their types' ranges; there are at most 1000 stakes or cells.
-/
set_option maxRecDepth 100000
set_option linter.unusedVariables false
set_option linter.unusedSimpArgs false
set_option linter.unusedSectionVars false
namespace Go.Proofs.YtomkidgmpbjgeaaGreatDoor
open Go.ChangeShapes Go.WideShapes Go.ChangeAt Go.RowKit
section
variable (T : Int) (T0 : 0 ≤ T) (T1 : T < 18446744073709551616) (ts : List (Int × Int)) (hts : PrOk ts) (A : Option Addr) (n c : Nat) (hn : n ≤ 1000) (hc : n ≤ c) (hcm : c ≤ maxLen) (w : World) (hrd : RdPr .u64 .i64 w w.heap.size A n ts)
include T0 T1 hts hn hc hcm hrd
theorem q14right_c : Calls Tryz.prog 24 #[.agg #[.int .u64 T, .slice A n c]] w fun e w' => e = .returned (.bool (tabR T ts)) ∧ Below w.heap.size w w' := q14rightB_c T T0 T1 ts hts A n c hn w hrd
theorem q14size_c : Calls Tryz.prog 14 #[.agg #[.int .u64 T, .slice A n c]] w fun e w' => e = .returned (.int .u64 (tabZ T ts)) ∧ Below w.heap.size w w' := q14sizeB_c T T0 T1 ts hts A n c hn w hrd
theorem q14owner_c (u : Int) (u0 : 0 ≤ u) (u1 : u < 18446744073709551616) : Calls Tryz.prog 16 #[.agg #[.int .u64 T, .slice A n c], .int .u64 u] w fun e w' => e = .returned (.tuple #[.int .i64 (owV T ts u), .int .i64 (owE T ts u)]) ∧ Below w.heap.size w w' := q14ownerB_c T T0 T1 ts hts A n c hn w hrd u u0 u1
end
end Go.Proofs.YtomkidgmpbjgeaaGreatDoor
/-
  What pick's calls return (Draw, List), and that memory is left as it was: over the landed alias and uniform.
  Conditions: the arguments lie in their types' ranges; there are at most 1000 stakes or cells; the table of constants holds what the text lays.
-/
set_option maxRecDepth 100000
set_option linter.unusedVariables false
set_option linter.unusedSimpArgs false
namespace Go.Proofs.YtomkidgmpbjgeaaGreatDoor
open Go.ChangeShapes Go.WideShapes Go.ChangeAt Go.RowKit
theorem tb_laterA {v0 : World} {g : Nat} {t : TypeId} {cs : Array Value} (h : Blk v0 g t cs) : ∀ W, Below v0.heap.size v0 W → Blk W g t cs := fun _ hb => h.below hb h.lt
theorem pr_laterA {w v0 : World} {A : Option Addr} {n : Nat} {ts : List (Int × Int)} (h : RdPr .u64 .i64 w w.heap.size A n ts) (h0 : Below w.heap.size w v0) : ∀ W, Below v0.heap.size v0 W → RdPr .u64 .i64 W W.heap.size A n ts := fun _ hb => h.to (h0.trans (hb.mono h0.size))
theorem pr_keepA {v0 : World} {A : Option Addr} {n : Nat} {ts : List (Int × Int)} (h : RdPr .u64 .i64 v0 v0.heap.size A n ts) : ∀ W, Below v0.heap.size v0 W → RdPr .u64 .i64 W W.heap.size A n ts := fun _ hb => h.to hb
/-- A number that was drawn below a table's Size has an owner. -/
theorem pick_owns {T : Int} {ts : List (Int × Int)} (hr : tabR T ts = true) (s : Src) (a : Int) (h : (drawR s (tabZ T ts) a).2.2 = 0) : owE T ts (drawR s (tabZ T ts) a).1 = 0 := by
  have h1 : (drawR s (tabZ T ts) a).1 < tabZ T ts := by
    unfold drawR at h ⊢
    split
    next hb => rw [if_pos hb] at h; exact (drawGo_first _ _ _ _ h).1
    next hb => rw [if_neg hb] at h; exact absurd h (by show ¬ (1 : Int) = 0; omega)
  have hZe : tabZ T ts = (ts.length : Int) * T := if_pos hr
  unfold owE
  rw [if_pos hr, if_pos (by rw [← hZe]; exact h1)]
set_option maxHeartbeats 16000000 in
theorem q15draw_c (T : Int) (T0 : 0 ≤ T) (T1 : T < 18446744073709551616) (ts : List (Int × Int)) (hts : PrOk ts) (A : Option Addr) (n c : Nat) (hn : n ≤ 1000) (hnc : n ≤ c) (hnm : c ≤ maxLen) (s : Src) (ok : s.Ok) (a : Int) (a0 : -9223372036854775808 ≤ a) (a1 : a < 9223372036854775808) (A0 : Option Addr) (c0 : Nat) (hc : s.tape.length ≤ c0) (hcm : c0 ≤ maxLen) (w : World) (hrp : RdPr .u64 .i64 w w.heap.size A n ts) (hrd : Rd .u8 w w.heap.size A0 s.tape.length s.tape) (hkst : Kst w) :
    Calls Tryz.prog 6 #[.agg #[.int .u64 T, .slice A n c], .agg (srcV s A0 c0), .int .i64 a] w (RetLead w s A0 (pikT T ts s a)) := by
  have HKS := Lib.hid hkst
  have HZ0 := Lib.hid zero_src
  have hRd := Lib.hid hrd
  have hPr := Lib.hid hrp
  have HZSS := Lib.hid (fun (t : Src) (h : t.seed.length = 32) A c => srcV_same Src.zero t rfl h none A 0 c)
  have hsz := fun W h => q14size_c T T0 T1 ts hts A n c hn hnc hnm W h
  obtain ⟨Z, hZ⟩ : ∃ Z, srcV Src.zero none 0 = Z := ⟨_, rfl⟩
  rw [hZ] at HZ0 HZSS
  have SV := Lib.hid (sizedS s ok.sl A0 c0)
  have OV := Lib.hid (srcV_ones s A0 c0)
  have ZV := Lib.hid (HZSS.out s ok.sl A0 c0)
  cases hr : tabR T ts with
  | false =>
    rw [pikT_bad s a hr]
    rw [show tabZ T ts = 0 from if_neg (by rw [hr]; decide)] at hsz
    have HSZ := Lib.hid hsz
    have HEND0 : Hid (∀ V0, Below w.heap.size w V0 → ∀ w', RdP A0 s.tape.length s.tape w' → Below V0.heap.size V0 w' → RetLead w s A0 (0, s, 1) (.returned (.tuple #[.int .i64 0, .agg (srcV s A0 c0), .int .i64 1])) w') := Lib.hid (fun V0 h0 w' hr hb => ⟨A0, c0, rfl, hr, hc, hcm, .inl rfl, h0.trans (hb.mono h0.size)⟩)
    obtain ⟨rr, hrr⟩ : ∃ r : Int × Src × Int, (0, s, 1) = r := ⟨_, rfl⟩
    rw [hrr] at HEND0 ⊢
    obtain ⟨V, hV⟩ : ∃ V, srcV s A0 c0 = V := ⟨_, rfl⟩
    rw [hV] at SV OV ZV HEND0 ⊢
    obtain ⟨zs, hzs⟩ : ∃ zs, s.tape = zs := ⟨_, rfl⟩
    obtain ⟨L, hL⟩ : ∃ L, zs.length = L := ⟨_, rfl⟩
    rw [hzs, hL] at HEND0
    rw [hzs, hL] at hRd
    have HEND := HEND0
    clear HEND0 hrr hV hzs hL hsz hr hts hrd hrp hc hcm hZ hn hnc hnm a0 a1 HZSS T0 T1 hkst
    go_enter Tryz.func6, Tryz.ntmps6
    go_wp2_with (first
      | (with_reducible refine at_any ?_; refine at_dst 3 rfl ?_; refine wpList_box_any rfl 25 (.tmp 0) rfl #[.int .u64 T, .slice A n c] rfl ?_; intro v0 hk0 hs0 hb0; have HB0 := Lib.hid hb0; have HK0 := Lib.hid (HKS.out.below hb0); have HRD0 := Lib.hid ((Rd.below hRd.out hb0).mono (Below.size hb0)); have HTB := Lib.hid (tb_laterA hk0.out); have HPR := Lib.hid (pr_laterA hPr.out hb0); clear hk0 hs0 hb0)
      | (with_reducible refine at_any ?_; refine at_dst 4 rfl ?_; refine wpList_box_any rfl 30 (.tmp 1) rfl V rfl ?_; intro w1 hk1 hs1 hb1)
      | (with_reducible refine at_any ?_; refine at_dst 7 rfl ?_; refine wpList_alloc_any rfl 30 rfl Z HZ0.out ?_; intro w2 hk2 hs2 hb2; have HS2 := Lib.hid (DrS.mk2 HRD0.out hk1.out hb1 hk2.out hb2 (Below.refl _ _)); have HZ2 := Lib.hid (fx1 hk2.out); have HBT := Lib.hid (HTB.out _ HS2.out.bel); have HPT := Lib.hid (HPR.out _ HS2.out.bel); clear hs1 hb1 hs2 hb2)
      | (with_reducible refine at_any ?_; refine at_dst 14 rfl ?_; refine wpList_load_tab (by kernel_rfl) (.tmp 3) rfl w.heap.size rfl 25 (.int .u64 T) (.slice A n c) HBT.out ?_)
      | (go_at_call 14; (with_reducible refine (HSZ.out _ HPT.out).mono ?_); rintro e w3 ⟨rfl, hb3⟩; have HS := Lib.hid (DrS.below HS2.out hb3); have HZ := Lib.hid (Fx.below HZ2.out hb3); clear HS2 HZ2 hb3))
    obtain ⟨g4, hg4⟩ : ∃ g, v0.heap.size = g := ⟨_, rfl⟩
    obtain ⟨g7, hg7⟩ : ∃ g, w1.heap.size = g := ⟨_, rfl⟩
    have HS9 := HS.out
    have HZ9 := HZ.out
    rw [hg4, hg7] at HS9
    rw [hg7] at HZ9
    rw [hg4, hg7]
    clear hg4 hg7 hk1 hk2 HS HZ
    have HZ7 := HZ9.drew
    refine wp_region_held_drew (S := (DrS v0 g4 g7 V A0 L zs)) (by kernel_rfl) HS9.drew (fun hH => ?_)
    refine wpAnyH_letter #[false, false, false, false] (by kernel_rfl) (fun _ _ d _ _ h => by cases d <;> exact h) (fun QL HQ1 HQ2 => ?_)
    refine held_row 0 (some 18) rfl (by kernel_rfl) (by kernel_rfl) (by kernel_rfl) (by kernel_rfl) (fun c a v w h => HQ2.out c a _ v w h) (by kernel_rfl) 30 (.tmp 4) rfl g4 (by kernel_rfl) 30 V (fun _ h => h.blk) _ Tryz.underlying30 rfl SV.out hH ?_
    try simp only [Act.put, List.setIfInBounds_toArray, List.set_cons_zero, List.set_cons_succ]
    refine held_v 1 (some 6) rfl (by kernel_rfl) (by kernel_rfl) (by kernel_rfl) (by kernel_rfl) (fun c a v w h => HQ2.out c a _ v w h) (by kernel_rfl) (.int .i64 0) (fun W h => by kernel_rfl) hH ?_
    try simp only [Act.put, List.setIfInBounds_toArray, List.set_cons_zero, List.set_cons_succ]
    refine wpAnyH_ready (rs := [2]) (by kernel_rfl) (by decide) ?_
    refine AllReadyH.cons rfl (fun K hK => ?_) AllReadyH.nil
    refine step_store none (by kernel_rfl) (by kernel_rfl) 30 (.tmp 7) (.tmp 18) rfl g7 (by kernel_rfl) 30 Z V HZ7.1 (by kernel_rfl) ZV.out SV.out OV.out ?_
    intro w41 hkw41 hsw41 hbw41 how41
    have ex42 : Fx [.blk g7 30 V] w41 := ⟨hkw41.out, trivial⟩
    refine hK.out _ _ (hH.store HZ7.1 hH.store7 hsw41.out hbw41 how41) (fun hw41 => ?_)
    clear hK K
    try simp only [Act.put, List.setIfInBounds_toArray, List.set_cons_zero, List.set_cons_succ]
    refine held_v 3 (some 8) rfl (by kernel_rfl) (by kernel_rfl) (by kernel_rfl) (by kernel_rfl) (fun c a v w h => HQ2.out c a _ v w h) (by kernel_rfl) (.int .i64 1) (fun W h => by kernel_rfl) hw41 ?_
    try simp only [Act.put, List.setIfInBounds_toArray, List.set_cons_zero, List.set_cons_succ]
    refine wpAnyH_done (by kernel_rfl) ?_ _
    refine HQ1.out _ _ ?_
    clear HQ1 HQ2
    go_wp2_with (refine bodyPost_mid 6 7 8 30 rfl g7 rfl (.int .i64 0) (.int .i64 1) rfl rfl 30 V ex42.1 _ Tryz.underlying30 rfl SV.out rfl ?_)
    exact HEND.out v0 HB0.out _ hw41.rd hw41.bel
  | true =>
    rw [pikT_go s a hr]
    obtain ⟨q0, q1, q2, -⟩ := tabR_iff.1 hr
    have hZe : tabZ T ts = (ts.length : Int) * T := if_pos hr
    have z1 : 0 ≤ tabZ T ts := by rw [hZe]; exact Int.mul_nonneg (by omega) (by omega)
    have z2 : tabZ T ts < 18446744073709551616 := by rw [hZe]; omega
    have hnz : tabZ T ts ≠ 0 := by
      rw [hZe]
      intro h
      rcases Int.mul_eq_zero.1 h with h | h <;> omega
    have hdr := fun W h hk => q8draw_c s ok (tabZ T ts) z1 z2 a a0 a1 A0 c0 hc hcm W h hk
    have okt : (drawT s (tabZ T ts) a).Ok := drawT_ok s (tabZ T ts) a ok
    have how := fun W h => q14owner_c T T0 T1 ts hts A n c hn hnc hnm W h (drawR s (tabZ T ts) a).1 (draw_in s (tabZ T ts) a).1 (draw_in s (tabZ T ts) a).2
    have hoz := pick_owns hr s a
    have HEND0 : Hid (∀ V0, Below w.heap.size w V0 → ∀ A2 c2 w', Sep V0 A0 A2 → s.tape.length ≤ c2 → c2 ≤ maxLen → RdP A2 s.tape.length s.tape w' → Below V0.heap.size V0 w' → RetLead w s A0 (pikGo T ts (drawR s (tabZ T ts) a)) (.returned (.tuple #[.int .i64 (pikGo T ts (drawR s (tabZ T ts) a)).1, .agg (srcV (pikGo T ts (drawR s (tabZ T ts) a)).2.1 A2 c2), .int .i64 (pikGo T ts (drawR s (tabZ T ts) a)).2.2])) w') := Lib.hid (fun V0 h0 A2 c2 w' h1 h2 h3 h4 h5 => ⟨A2, c2, rfl, h4, h2, h3, sep_from h1 h0.size, h0.trans (h5.mono h0.size)⟩)
    have hgo : (drawR s (tabZ T ts) a).2.2 = 0 → pikGo T ts (drawR s (tabZ T ts) a) = (owV T ts (drawR s (tabZ T ts) a).1, (drawR s (tabZ T ts) a).2.1, 0) := fun h => if_pos h
    have hgn : (drawR s (tabZ T ts) a).2.2 ≠ 0 → pikGo T ts (drawR s (tabZ T ts) a) = (0, (drawR s (tabZ T ts) a).2.1, (drawR s (tabZ T ts) a).2.2) := fun h => if_neg h
    obtain ⟨N, hN⟩ : ∃ x, tabZ T ts = x := ⟨_, rfl⟩
    rw [hN] at hsz hdr okt how HEND0 hgo hgn hoz hnz ⊢
    obtain ⟨t, ht⟩ : ∃ x, drawT s N a = x := ⟨_, rfl⟩
    have ht2 : (drawR s N a).2.1 = t := ht
    obtain ⟨x, hx⟩ : ∃ x, (drawR s N a).1 = x := ⟨_, rfl⟩
    obtain ⟨E, hE⟩ : ∃ x, (drawR s N a).2.2 = x := ⟨_, rfl⟩
    rw [ht] at okt
    unfold RetDraw at hdr
    rw [ht2, hx, hE] at hdr hgo
    rw [ht2, hE] at hgn
    rw [hx, hE] at hoz
    rw [hx] at how
    have t1 : (N == 0) = false := by rw [beq_eq_false_iff_ne]; exact hnz
    have HSZ := Lib.hid hsz
    have HDR0 := Lib.hid hdr
    have ST := Lib.hid (fun A c => sizedS t okt.sl A c)
    have OT := Lib.hid (fun A c => srcV_ones t A c)
    have ZT := Lib.hid (fun A c => HZSS.out t okt.sl A c)
    obtain ⟨ov, hov⟩ : ∃ y, owV T ts x = y := ⟨_, rfl⟩
    obtain ⟨oe, hoe⟩ : ∃ y, owE T ts x = y := ⟨_, rfl⟩
    rw [hov, hoe] at how
    rw [hoe] at hoz
    rw [hov] at hgo
    have HOW := Lib.hid how
    by_cases hE0 : E = 0
    · have e1 := hgo hE0
      rw [hoz hE0] at HOW
      rw [e1] at HEND0 ⊢
      have t2 : (E == 0) = true := by rw [beq_iff_eq]; exact hE0
      have t3 : (E != 0) = false := by rw [bne, t2]; rfl
      obtain ⟨rr, hrr⟩ : ∃ r : Int × Src × Int, (ov, t, 0) = r := ⟨_, rfl⟩
      have HEND1 : Hid (∀ V0, Below w.heap.size w V0 → ∀ A2 c2 w', Sep V0 A0 A2 → s.tape.length ≤ c2 → c2 ≤ maxLen → RdP A2 s.tape.length s.tape w' → Below V0.heap.size V0 w' → RetLead w s A0 rr (.returned (.tuple #[.int .i64 ov, .agg (srcV t A2 c2), .int .i64 0])) w') := by rw [← hrr]; exact HEND0
      rw [hrr]
      obtain ⟨V, hV⟩ : ∃ V, srcV s A0 c0 = V := ⟨_, rfl⟩
      have HDR := HDR0
      rw [hV] at SV OV ZV HDR ⊢
      obtain ⟨zs, hzs⟩ : ∃ zs, s.tape = zs := ⟨_, rfl⟩
      obtain ⟨L, hL⟩ : ∃ L, zs.length = L := ⟨_, rfl⟩
      rw [hzs, hL] at HEND1 hRd HDR
      have HEND := HEND1
      clear HEND1 HEND0 HDR0 hrr hV hzs hL hsz hdr how hgo hgn e1 hoz hov hoe hx hE ht ht2 hN okt hts hrd hrp hc hcm hZ hn hnc hnm a0 a1 HZSS hnz hE0 hr hkst T0 T1 z1 z2 hZe q0 q1 q2
      go_enter Tryz.func6, Tryz.ntmps6
      go_wp2_with (first
        | (with_reducible refine at_any ?_; refine at_dst 3 rfl ?_; refine wpList_box_any rfl 25 (.tmp 0) rfl #[.int .u64 T, .slice A n c] rfl ?_; intro v0 hk0 hs0 hb0; have HB0 := Lib.hid hb0; have HK0 := Lib.hid (HKS.out.below hb0); have HRD0 := Lib.hid ((Rd.below hRd.out hb0).mono (Below.size hb0)); have HTB := Lib.hid (tb_laterA hk0.out); have HPR := Lib.hid (pr_laterA hPr.out hb0); clear hk0 hs0 hb0)
        | (with_reducible refine at_any ?_; refine at_dst 4 rfl ?_; refine wpList_box_any rfl 30 (.tmp 1) rfl V rfl ?_; intro w1 hk1 hs1 hb1)
        | (with_reducible refine at_any ?_; refine at_dst 7 rfl ?_; refine wpList_alloc_any rfl 30 rfl Z HZ0.out ?_; intro w2 hk2 hs2 hb2; have HS2 := Lib.hid (DrS.mk2 HRD0.out hk1.out hb1 hk2.out hb2 (Below.refl _ _)); have HZ2 := Lib.hid (fx1 hk2.out); have HBT := Lib.hid (HTB.out _ HS2.out.bel); have HPT := Lib.hid (HPR.out _ HS2.out.bel); clear hs1 hb1 hs2 hb2)
        | (with_reducible refine at_any ?_; refine at_dst 14 rfl ?_; refine wpList_load_tab (by kernel_rfl) (.tmp 3) rfl w.heap.size rfl 25 (.int .u64 T) (.slice A n c) HBT.out ?_)
        | (go_at_call 14; (with_reducible refine (HSZ.out _ HPT.out).mono ?_); rintro e w3 ⟨rfl, hb3⟩; have HS := Lib.hid (DrS.below HS2.out hb3); have HZ := Lib.hid (Fx.below HZ2.out hb3); clear HS2 HZ2 hb3)
        | (with_reducible refine at_any ?_; refine at_dst 20 rfl ?_; refine wpList_load_blk rfl 30 (.tmp 4) rfl v0.heap.size rfl 30 V HS.out.blk _ Tryz.underlying30 rfl SV.out ?_)
        | (go_at_call 15; (with_reducible refine (HDR.out _ HS.out.rd.rd (HK0.out.below HS.out.bel)).mono ?_); rintro e w5 ⟨A2, c2, rfl, hrd2, hc2, hm2, hsp2, hb5⟩; obtain ⟨V2, hV2⟩ : ∃ V2, srcV t A2 c2 = V2 := ⟨_, rfl⟩; have SV2 := Lib.hid (ST.out A2 c2); have OV2 := Lib.hid (OT.out A2 c2); have ZV2 := Lib.hid (ZT.out A2 c2); have HH2 := Lib.hid (fun w' h3 h4 => HEND.out v0 HB0.out A2 c2 w' (sep_from hsp2 HS.out.bel.size) hc2 hm2 h3 h4); rw [hV2] at SV2 OV2 ZV2 HH2 ⊢; clear hV2 hc2 hm2)
        | (with_reducible refine at_any ?_; refine at_dst 11 rfl ?_; refine wpList_alloc_any rfl 30 rfl Z HZ0.out ?_; intro w6 hk6 hs6 hb6)
        | (with_reducible refine at_any ?_; refine at_store 11 rfl ?_; refine wpList_store_any rfl 30 (.tmp 11) (.tmp 25) rfl w5.heap.size rfl 30 Z V2 hk6.out rfl ZV2.out SV2.out OV2.out ?_; intro w7 hk7 hs7 hb7 ho7; have TK := Lib.hid (DrS.took HS.out HZ.out hrd2 hsp2 hb5 hb6 hk6.out hk7.out hs7.out hb7 ho7); have HBU := Lib.hid (HTB.out _ TK.out.2.2.2.2.2.bel); have HPU := Lib.hid (HPR.out _ TK.out.2.2.2.2.2.bel))
        | (with_reducible refine at_any ?_; refine at_dst 32 rfl ?_; refine wpList_load_tab (by kernel_rfl) (.tmp 3) rfl w.heap.size rfl 25 (.int .u64 T) (.slice A n c) HBU.out ?_)
        | (go_at_call 16; (with_reducible refine (HOW.out _ HPU.out).mono ?_); rintro e w8 ⟨rfl, hb8⟩))
      obtain ⟨-, HZ9, -, -, -, HD⟩ := TK.out
      have HZ9 := HZ9.below hb8
      have HD := HD.below hb8
      obtain ⟨g7, hg7⟩ : ∃ g, w1.heap.size = g := ⟨_, rfl⟩
      obtain ⟨g11, hg11⟩ : ∃ g, w5.heap.size = g := ⟨_, rfl⟩
      rw [hg7] at HZ9 HD
      rw [hg11] at HD
      rw [hg7, hg11]
      clear hg7 hg11 TK
      have HZ7 := HZ9.drew
      refine wp_region_held_drew (S := (DrH v0 g7 g11 V2 A2 L zs)) (by kernel_rfl) HD.drew (fun hH => ?_)
      refine wpAnyH_letter #[false, false, false, false, false, false] (by kernel_rfl) (fun _ _ d _ _ h => by cases d <;> exact h) (fun QL HQ1 HQ2 => ?_)
      refine held_v 0 (some 37) rfl (by kernel_rfl) (by kernel_rfl) (by kernel_rfl) (by kernel_rfl) (fun c a v w h => HQ2.out c a _ v w h) (by kernel_rfl) (.int .i64 ov) (fun W h => by kernel_rfl) hH ?_
      try simp only [Act.put, List.setIfInBounds_toArray, List.set_cons_zero, List.set_cons_succ]
      refine held_row 1 (some 38) rfl (by kernel_rfl) (by kernel_rfl) (by kernel_rfl) (by kernel_rfl) (fun c a v w h => HQ2.out c a _ v w h) (by kernel_rfl) 30 (.tmp 11) rfl g11 (by kernel_rfl) 30 V2 (fun _ h => h.blk) _ Tryz.underlying30 rfl SV2.out hH ?_
      try simp only [Act.put, List.setIfInBounds_toArray, List.set_cons_zero, List.set_cons_succ]
      refine held_v 2 (some 39) rfl (by kernel_rfl) (by kernel_rfl) (by kernel_rfl) (by kernel_rfl) (fun c a v w h => HQ2.out c a _ v w h) (by kernel_rfl) (.int .i64 0) (fun W h => by kernel_rfl) hH ?_
      try simp only [Act.put, List.setIfInBounds_toArray, List.set_cons_zero, List.set_cons_succ]
      refine held_v 3 (some 6) rfl (by kernel_rfl) (by kernel_rfl) (by kernel_rfl) (by kernel_rfl) (fun c a v w h => HQ2.out c a _ v w h) (by kernel_rfl) (.int .i64 ov) (fun W h => by kernel_rfl) hH ?_
      try simp only [Act.put, List.setIfInBounds_toArray, List.set_cons_zero, List.set_cons_succ]
      refine wpAnyH_ready (rs := [4]) (by kernel_rfl) (by decide) ?_
      refine AllReadyH.cons rfl (fun K hK => ?_) AllReadyH.nil
      refine step_store none (by kernel_rfl) (by kernel_rfl) 30 (.tmp 7) (.tmp 38) rfl g7 (by kernel_rfl) 30 Z V2 HZ7.1 (by kernel_rfl) ZV2.out SV2.out OV2.out ?_
      intro w141 hkw141 hsw141 hbw141 how141
      have ex142 : Fx [.blk g7 30 V2] w141 := ⟨hkw141.out, trivial⟩
      refine hK.out _ _ (hH.store HZ7.1 hH.store7 hsw141.out hbw141 how141) (fun hw141 => ?_)
      clear hK K
      try simp only [Act.put, List.setIfInBounds_toArray, List.set_cons_zero, List.set_cons_succ]
      refine held_v 5 (some 8) rfl (by kernel_rfl) (by kernel_rfl) (by kernel_rfl) (by kernel_rfl) (fun c a v w h => HQ2.out c a _ v w h) (by kernel_rfl) (.int .i64 0) (fun W h => by kernel_rfl) hw141 ?_
      try simp only [Act.put, List.setIfInBounds_toArray, List.set_cons_zero, List.set_cons_succ]
      refine wpAnyH_done (by kernel_rfl) ?_ _
      refine HQ1.out _ _ ?_
      clear HQ1 HQ2
      go_wp2_with (refine bodyPost_mid 6 7 8 30 rfl g7 rfl (.int .i64 ov) (.int .i64 0) rfl rfl 30 V2 ex142.1 _ Tryz.underlying30 rfl SV2.out rfl ?_)
      exact HH2.out _ hw141.rd.rd hw141.bel
    · have e1 := hgn hE0
      rw [e1] at HEND0 ⊢
      have t2 : (E == 0) = false := by rw [beq_eq_false_iff_ne]; exact hE0
      have t3 : (E != 0) = true := by rw [bne, t2]; rfl
      obtain ⟨rr, hrr⟩ : ∃ r : Int × Src × Int, (0, t, E) = r := ⟨_, rfl⟩
      have HEND1 : Hid (∀ V0, Below w.heap.size w V0 → ∀ A2 c2 w', Sep V0 A0 A2 → s.tape.length ≤ c2 → c2 ≤ maxLen → RdP A2 s.tape.length s.tape w' → Below V0.heap.size V0 w' → RetLead w s A0 rr (.returned (.tuple #[.int .i64 0, .agg (srcV t A2 c2), .int .i64 E])) w') := by rw [← hrr]; exact HEND0
      rw [hrr]
      obtain ⟨V, hV⟩ : ∃ V, srcV s A0 c0 = V := ⟨_, rfl⟩
      have HDR := HDR0
      rw [hV] at SV OV ZV HDR ⊢
      obtain ⟨zs, hzs⟩ : ∃ zs, s.tape = zs := ⟨_, rfl⟩
      obtain ⟨L, hL⟩ : ∃ L, zs.length = L := ⟨_, rfl⟩
      rw [hzs, hL] at HEND1 hRd HDR
      have HEND := HEND1
      clear HEND1 HEND0 HDR0 hrr hV hzs hL hsz hdr how hgo hgn e1 hoz hov hoe hx hE ht ht2 hN okt hts hrd hrp hc hcm hZ hn hnc hnm a0 a1 HZSS hnz hE0 hr hkst T0 T1 z1 z2 hZe q0 q1 q2
      go_enter Tryz.func6, Tryz.ntmps6
      go_wp2_with (first
        | (with_reducible refine at_any ?_; refine at_dst 3 rfl ?_; refine wpList_box_any rfl 25 (.tmp 0) rfl #[.int .u64 T, .slice A n c] rfl ?_; intro v0 hk0 hs0 hb0; have HB0 := Lib.hid hb0; have HK0 := Lib.hid (HKS.out.below hb0); have HRD0 := Lib.hid ((Rd.below hRd.out hb0).mono (Below.size hb0)); have HTB := Lib.hid (tb_laterA hk0.out); have HPR := Lib.hid (pr_laterA hPr.out hb0); clear hk0 hs0 hb0)
        | (with_reducible refine at_any ?_; refine at_dst 4 rfl ?_; refine wpList_box_any rfl 30 (.tmp 1) rfl V rfl ?_; intro w1 hk1 hs1 hb1)
        | (with_reducible refine at_any ?_; refine at_dst 7 rfl ?_; refine wpList_alloc_any rfl 30 rfl Z HZ0.out ?_; intro w2 hk2 hs2 hb2; have HS2 := Lib.hid (DrS.mk2 HRD0.out hk1.out hb1 hk2.out hb2 (Below.refl _ _)); have HZ2 := Lib.hid (fx1 hk2.out); have HBT := Lib.hid (HTB.out _ HS2.out.bel); have HPT := Lib.hid (HPR.out _ HS2.out.bel); clear hs1 hb1 hs2 hb2)
        | (with_reducible refine at_any ?_; refine at_dst 14 rfl ?_; refine wpList_load_tab (by kernel_rfl) (.tmp 3) rfl w.heap.size rfl 25 (.int .u64 T) (.slice A n c) HBT.out ?_)
        | (go_at_call 14; (with_reducible refine (HSZ.out _ HPT.out).mono ?_); rintro e w3 ⟨rfl, hb3⟩; have HS := Lib.hid (DrS.below HS2.out hb3); have HZ := Lib.hid (Fx.below HZ2.out hb3); clear HS2 HZ2 hb3)
        | (with_reducible refine at_any ?_; refine at_dst 20 rfl ?_; refine wpList_load_blk rfl 30 (.tmp 4) rfl v0.heap.size rfl 30 V HS.out.blk _ Tryz.underlying30 rfl SV.out ?_)
        | (go_at_call 15; (with_reducible refine (HDR.out _ HS.out.rd.rd (HK0.out.below HS.out.bel)).mono ?_); rintro e w5 ⟨A2, c2, rfl, hrd2, hc2, hm2, hsp2, hb5⟩; obtain ⟨V2, hV2⟩ : ∃ V2, srcV t A2 c2 = V2 := ⟨_, rfl⟩; have SV2 := Lib.hid (ST.out A2 c2); have OV2 := Lib.hid (OT.out A2 c2); have ZV2 := Lib.hid (ZT.out A2 c2); have HH2 := Lib.hid (fun w' h3 h4 => HEND.out v0 HB0.out A2 c2 w' (sep_from hsp2 HS.out.bel.size) hc2 hm2 h3 h4); rw [hV2] at SV2 OV2 ZV2 HH2 ⊢; clear hV2 hc2 hm2)
        | (with_reducible refine at_any ?_; refine at_dst 11 rfl ?_; refine wpList_alloc_any rfl 30 rfl Z HZ0.out ?_; intro w6 hk6 hs6 hb6)
        | (with_reducible refine at_any ?_; refine at_store 11 rfl ?_; refine wpList_store_any rfl 30 (.tmp 11) (.tmp 25) rfl w5.heap.size rfl 30 Z V2 hk6.out rfl ZV2.out SV2.out OV2.out ?_; intro w7 hk7 hs7 hb7 ho7; have TK := Lib.hid (DrS.took HS.out HZ.out hrd2 hsp2 hb5 hb6 hk6.out hk7.out hs7.out hb7 ho7); have HBU := Lib.hid (HTB.out _ TK.out.2.2.2.2.2.bel); have HPU := Lib.hid (HPR.out _ TK.out.2.2.2.2.2.bel)))
      obtain ⟨-, HZ9, -, -, -, HD⟩ := TK.out
      obtain ⟨g7, hg7⟩ : ∃ g, w1.heap.size = g := ⟨_, rfl⟩
      obtain ⟨g11, hg11⟩ : ∃ g, w5.heap.size = g := ⟨_, rfl⟩
      rw [hg7] at HZ9 HD
      rw [hg11] at HD
      rw [hg7, hg11]
      clear hg7 hg11 TK
      have HZ7 := HZ9.drew
      refine wp_region_held_drew (S := (DrH v0 g7 g11 V2 A2 L zs)) (by kernel_rfl) HD.drew (fun hH => ?_)
      refine wpAnyH_letter #[false, false, false, false, false] (by kernel_rfl) (fun _ _ d _ _ h => by cases d <;> exact h) (fun QL HQ1 HQ2 => ?_)
      refine held_row 0 (some 29) rfl (by kernel_rfl) (by kernel_rfl) (by kernel_rfl) (by kernel_rfl) (fun c a v w h => HQ2.out c a _ v w h) (by kernel_rfl) 30 (.tmp 11) rfl g11 (by kernel_rfl) 30 V2 (fun _ h => h.blk) _ Tryz.underlying30 rfl SV2.out hH ?_
      try simp only [Act.put, List.setIfInBounds_toArray, List.set_cons_zero, List.set_cons_succ]
      refine held_v 1 (some 30) rfl (by kernel_rfl) (by kernel_rfl) (by kernel_rfl) (by kernel_rfl) (fun c a v w h => HQ2.out c a _ v w h) (by kernel_rfl) (.int .i64 E) (fun W h => by kernel_rfl) hH ?_
      try simp only [Act.put, List.setIfInBounds_toArray, List.set_cons_zero, List.set_cons_succ]
      refine held_v 2 (some 6) rfl (by kernel_rfl) (by kernel_rfl) (by kernel_rfl) (by kernel_rfl) (fun c a v w h => HQ2.out c a _ v w h) (by kernel_rfl) (.int .i64 0) (fun W h => by kernel_rfl) hH ?_
      try simp only [Act.put, List.setIfInBounds_toArray, List.set_cons_zero, List.set_cons_succ]
      refine wpAnyH_ready (rs := [3]) (by kernel_rfl) (by decide) ?_
      refine AllReadyH.cons rfl (fun K hK => ?_) AllReadyH.nil
      refine step_store none (by kernel_rfl) (by kernel_rfl) 30 (.tmp 7) (.tmp 29) rfl g7 (by kernel_rfl) 30 Z V2 HZ7.1 (by kernel_rfl) ZV2.out SV2.out OV2.out ?_
      intro w141 hkw141 hsw141 hbw141 how141
      have ex142 : Fx [.blk g7 30 V2] w141 := ⟨hkw141.out, trivial⟩
      refine hK.out _ _ (hH.store HZ7.1 hH.store7 hsw141.out hbw141 how141) (fun hw141 => ?_)
      clear hK K
      try simp only [Act.put, List.setIfInBounds_toArray, List.set_cons_zero, List.set_cons_succ]
      refine held_v 4 (some 8) rfl (by kernel_rfl) (by kernel_rfl) (by kernel_rfl) (by kernel_rfl) (fun c a v w h => HQ2.out c a _ v w h) (by kernel_rfl) (.int .i64 E) (fun W h => by kernel_rfl) hw141 ?_
      try simp only [Act.put, List.setIfInBounds_toArray, List.set_cons_zero, List.set_cons_succ]
      refine wpAnyH_done (by kernel_rfl) ?_ _
      refine HQ1.out _ _ ?_
      clear HQ1 HQ2
      go_wp2_with (refine bodyPost_mid 6 7 8 30 rfl g7 rfl (.int .i64 0) (.int .i64 E) rfl rfl 30 V2 ex142.1 _ Tryz.underlying30 rfl SV2.out rfl ?_)
      exact HH2.out _ hw141.rd.rd hw141.bel
set_option maxHeartbeats 16000000 in
theorem q15list_c (l : List Int) (hz : ∀ z ∈ l, 0 ≤ z ∧ z < 18446744073709551616) (AL : Option Addr) (n c : Nat) (hn : n ≤ 1000) (s : Src) (ok : s.Ok) (a : Int) (a0 : -9223372036854775808 ≤ a) (a1 : a < 9223372036854775808) (A0 : Option Addr) (c0 : Nat) (hc0 : s.tape.length ≤ c0) (hcm0 : c0 ≤ maxLen) (w : World) (hrl : Rd .u64 w w.heap.size AL n l) (hrd : Rd .u8 w w.heap.size A0 s.tape.length s.tape) (hkst : Kst w) :
    Calls Tryz.prog 10 #[.agg (srcV s A0 c0), .int .i64 a, .slice AL n c] w (RetLead w s A0 (pikR l s a)) := by
  have HKS := Lib.hid hkst
  have HZ0 := Lib.hid zero_src
  have hRd := Lib.hid hrd
  have HRL : Hid (∀ W, Below w.heap.size w W → Rd .u64 W W.heap.size AL n l) := Lib.hid (fun W hb => (hrl.below hb).mono hb.size)
  have HZSS := Lib.hid (fun (t : Src) (h : t.seed.length = 32) A c => srcV_same Src.zero t rfl h none A 0 c)
  have hlen := hrl.len
  have hz0 : ∀ z ∈ l, 0 ≤ z := fun z h => (hz z h).1
  have hbd := fun W h => q14build_c l hz AL n c hn W h
  obtain ⟨q0, q1, q2, q3⟩ := tb_in hz0
  have hPO := q3 (by omega)
  have hdw := fun A' c' (h3 : (tbC l).length ≤ c') (h4 : c' ≤ maxLen) W h1 h2 h5 => q15draw_c (tbT l) q0 (by omega) (tbC l) hPO A' (tbC l).length c' (by omega) h3 h4 s ok a a0 a1 A0 c0 hc0 hcm0 W h1 h2 h5
  obtain ⟨Z, hZ⟩ : ∃ Z, srcV Src.zero none 0 = Z := ⟨_, rfl⟩
  rw [hZ] at HZ0 HZSS
  have SV := Lib.hid (sizedS s ok.sl A0 c0)
  have OV := Lib.hid (srcV_ones s A0 c0)
  have ZV := Lib.hid (HZSS.out s ok.sl A0 c0)
  have okX := (pikT_in (tbT l) (tbC l) s a ok).1
  have hgo := pikR_go (l := l) s a
  have her := pikR_err (l := l) s a
  obtain ⟨E, hE⟩ : ∃ E, tbE l = E := ⟨_, rfl⟩
  obtain ⟨T, hT⟩ : ∃ T, tbT l = T := ⟨_, rfl⟩
  obtain ⟨ts, hts⟩ : ∃ ts, tbC l = ts := ⟨_, rfl⟩
  rw [hT, hts, hE] at hbd
  rw [hT, hts] at hdw okX
  rw [hE] at her hgo
  rw [hT, hts] at hgo
  obtain ⟨nn, hnn⟩ : ∃ nn, ts.length = nn := ⟨_, rfl⟩
  rw [hnn] at hbd hdw
  unfold RetTab at hbd
  have HBD := Lib.hid hbd
  by_cases h0 : E = 0
  · rw [hgo h0]
    have t2 : (E == 0) = true := by rw [beq_iff_eq]; exact h0
    have t3 : (E != 0) = false := by rw [bne, t2]; rfl
    obtain ⟨rr, hrr⟩ : ∃ r, pikT T ts s a = r := ⟨_, rfl⟩
    rw [hrr] at hdw okX ⊢
    obtain ⟨x, X, e2⟩ := rr
    have ST := Lib.hid (fun A c => sizedS X okX.sl A c)
    have OT := Lib.hid (fun A c => srcV_ones X A c)
    have ZT := Lib.hid (fun A c => HZSS.out X okX.sl A c)
    unfold RetLead at hdw ⊢
    dsimp only at hdw okX ⊢
    obtain ⟨V, hV⟩ : ∃ V, srcV s A0 c0 = V := ⟨_, rfl⟩
    rw [hV] at SV OV ZV hdw ⊢
    obtain ⟨zs, hzs⟩ : ∃ zs, s.tape = zs := ⟨_, rfl⟩
    obtain ⟨L, hL⟩ : ∃ L, zs.length = L := ⟨_, rfl⟩
    rw [hzs, hL] at hdw ⊢
    rw [hzs, hL] at hRd
    have HDW := Lib.hid hdw
    clear hV hzs hL hdw hbd hgo her hrr okX hT hts hE hnn hZ hz hz0 hrl hrd hc0 hcm0 hn hlen q0 q1 q2 q3 hPO HZSS a0 a1 h0 ok hkst
    go_enter Tryz.func10, Tryz.ntmps10
    go_wp2_with (first
      | (with_reducible refine at_any ?_; refine at_dst 3 rfl ?_; refine wpList_box_any rfl 30 (.tmp 0) rfl V rfl ?_; intro w1 hk1 hs1 hb1)
      | (with_reducible refine at_any ?_; refine at_dst 7 rfl ?_; refine wpList_alloc_any rfl 30 rfl Z HZ0.out ?_; intro w2 hk2 hs2 hb2; have HS2 := DrS.mk2 hRd.out hk1.out hb1 hk2.out hb2 (Below.refl _ _); have HZ2 := fx1 hk2.out; clear hs1 hb1 hs2 hb2 hk1 hk2)
      | (go_at_call 21; (with_reducible refine (HBD.out _ (HRL.out _ HS2.bel)).mono ?_); rintro e w3 ⟨A3, c3, rfl, hr3, hl3, hm3, hb3⟩; have HS3 := HS2.below hb3; have HZ3 := HZ2.below hb3; have HP3 := Lib.hid (pr_keepA hr3); have HL3 := Lib.hid hl3; have HM3 := Lib.hid hm3; clear hb3 hr3 HS2 HZ2 hl3 hm3)
      | (with_reducible refine at_any ?_; refine at_dst 9 rfl ?_; refine wpList_alloc_any rfl 25 rfl #[.int .u64 0, .slice none 0 0] zero_tabL ?_; intro w4 hk4 hs4 hb4)
      | (with_reducible refine at_any ?_; refine at_store 9 rfl ?_; refine wpList_store_any rfl 25 (.tmp 9) (.tmp 14) rfl w3.heap.size rfl 25 #[.int .u64 0, .slice none 0 0] #[.int .u64 T, .slice A3 nn c3] hk4.out rfl (sameT2 _ _ _ _) (sizedT _ _) (onesT _ _ _ _) ?_; intro w5 hk5 hs5 hb5 ho5; have hb35 := Below.trans hb4 (hb5 _ (Nat.le_refl _)); have HS := HS3.below hb35; have HZ := HZ3.below hb35; have HP := Lib.hid (HP3.out _ hb35); have HT := Lib.hid hk5.out; clear hk4 hs4 hb4 hk5 hs5 hb5 ho5 hb35 HS3 HZ3 HP3)
      | (with_reducible refine at_any ?_; refine at_dst 20 rfl ?_; refine wpList_load_tab (by kernel_rfl) (.tmp 9) rfl w3.heap.size rfl 25 (.int .u64 T) (.slice A3 nn c3) HT.out ?_)
      | (with_reducible refine at_any ?_; refine at_dst 21 rfl ?_; refine wpList_load_blk rfl 30 (.tmp 3) rfl w.heap.size rfl 30 V HS.blk _ Tryz.underlying30 rfl SV.out ?_)
      | (go_at_call 6; (with_reducible refine (HDW.out A3 c3 HL3.out HM3.out _ HP.out HS.rd.rd (HKS.out.below HS.bel)).mono ?_); rintro e w6 ⟨A2, c2, rfl, hr6, hl6, hm6, hp6, hb6⟩; have HS6 := HS.below hb6; have HZ6 := HZ.below hb6; have HR6 : RdP A2 L zs w6 := hr6; have HA6 := Apt.of_sep hp6 HS.apt7 HS.lt7; have HQ6 := Lib.hid (sep_from hp6 HS.bel.size); have SV2 := Lib.hid (ST.out A2 c2); have OV2 := Lib.hid (OT.out A2 c2); have ZV2 := Lib.hid (ZT.out A2 c2); have HL6 := Lib.hid hl6; have HM6 := Lib.hid hm6; clear hr6 hp6 hb6 HS HZ hl6 hm6)
      | (with_reducible refine at_any ?_; refine at_store 7 rfl ?_; refine wpList_store_any rfl 30 (.tmp 7) (.tmp 25) rfl w1.heap.size rfl 30 Z (srcV X A2 c2) (Fx.b0 HZ6) rfl ZV2.out SV2.out OV2.out ?_; intro w7 hk7 hs7 hb7 ho7; have HE7 := Lib.hid (HR6.store (Fx.b0 HZ6) HA6 hs7.out hb7 ho7); have HB7 := Lib.hid (Below.trans HS6.bel (hb7 _ HS6.le7)); have HK7 := Lib.hid hk7.out; clear hk7 hs7 hb7 ho7)
      | (refine bodyPost_mid 6 7 8 30 rfl w1.heap.size rfl (.int .i64 x) (.int .i64 e2) rfl rfl 30 (srcV X A2 c2) HK7.out _ Tryz.underlying30 rfl SV2.out rfl ?_))
    exact ⟨A2, c2, rfl, HE7.out, HL6.out, HM6.out, HQ6.out, HB7.out⟩
  · rw [her h0]
    have t2 : (E == 0) = false := by rw [beq_eq_false_iff_ne]; exact h0
    have t3 : (E != 0) = true := by rw [bne, t2]; rfl
    have HEND0 : Hid (∀ w', RdP A0 s.tape.length s.tape w' → Below w.heap.size w w' → RetLead w s A0 (0, s, E) (.returned (.tuple #[.int .i64 0, .agg (srcV s A0 c0), .int .i64 E])) w') := Lib.hid (fun w' hr hb => ⟨A0, c0, rfl, hr, hc0, hcm0, .inl rfl, hb⟩)
    obtain ⟨rr, hrr⟩ : ∃ r : Int × Src × Int, (0, s, E) = r := ⟨_, rfl⟩
    rw [hrr] at HEND0 ⊢
    obtain ⟨V, hV⟩ : ∃ V, srcV s A0 c0 = V := ⟨_, rfl⟩
    rw [hV] at SV OV ZV HEND0 ⊢
    obtain ⟨zs, hzs⟩ : ∃ zs, s.tape = zs := ⟨_, rfl⟩
    obtain ⟨L, hL⟩ : ∃ L, zs.length = L := ⟨_, rfl⟩
    rw [hzs, hL] at HEND0
    rw [hzs, hL] at hRd
    have HEND : Hid (∀ (v : World) w', RdP A0 L zs w' → Below w.heap.size w w' → RetLead w s A0 rr (.returned (.tuple #[.int .i64 0, .agg V, .int .i64 E])) w') := Lib.hid (fun _ w' h1 h2 => HEND0.out w' h1 h2)
    clear HEND0 hrr hV hzs hL hdw hbd hgo her okX hT hts hE hnn hZ hz hz0 hrl hrd hc0 hcm0 hn hlen q0 q1 q2 q3 hPO HZSS a0 a1 h0 ok hkst
    go_enter Tryz.func10, Tryz.ntmps10
    go_wp2_with (first
      | (with_reducible refine at_any ?_; refine at_dst 3 rfl ?_; refine wpList_box_any rfl 30 (.tmp 0) rfl V rfl ?_; intro w1 hk1 hs1 hb1)
      | (with_reducible refine at_any ?_; refine at_dst 7 rfl ?_; refine wpList_alloc_any rfl 30 rfl Z HZ0.out ?_; intro w2 hk2 hs2 hb2; have HS2 := DrS.mk2 hRd.out hk1.out hb1 hk2.out hb2 (Below.refl _ _); have HZ2 := fx1 hk2.out; clear hs1 hb1 hs2 hb2 hk1 hk2)
      | (go_at_call 21; (with_reducible refine (HBD.out _ (HRL.out _ HS2.bel)).mono ?_); rintro e w3 ⟨A3, c3, rfl, hr3, hl3, hm3, hb3⟩; have HS3 := HS2.below hb3; have HZ3 := HZ2.below hb3; have HP3 := Lib.hid (pr_keepA hr3); have HL3 := Lib.hid hl3; have HM3 := Lib.hid hm3; clear hb3 hr3 HS2 HZ2 hl3 hm3)
      | (with_reducible refine at_any ?_; refine at_dst 9 rfl ?_; refine wpList_alloc_any rfl 25 rfl #[.int .u64 0, .slice none 0 0] zero_tabL ?_; intro w4 hk4 hs4 hb4)
      | (with_reducible refine at_any ?_; refine at_store 9 rfl ?_; refine wpList_store_any rfl 25 (.tmp 9) (.tmp 14) rfl w3.heap.size rfl 25 #[.int .u64 0, .slice none 0 0] #[.int .u64 T, .slice A3 nn c3] hk4.out rfl (sameT2 _ _ _ _) (sizedT _ _) (onesT _ _ _ _) ?_; intro w5 hk5 hs5 hb5 ho5; have hb35 := Below.trans hb4 (hb5 _ (Nat.le_refl _)); have HS := HS3.below hb35; have HZ := HZ3.below hb35; have HP := Lib.hid (HP3.out _ hb35); have HT := Lib.hid hk5.out; clear hk4 hs4 hb4 hk5 hs5 hb5 ho5 hb35 HS3 HZ3 HP3))
    obtain ⟨g4, hg4⟩ : ∃ g, w.heap.size = g := ⟨_, rfl⟩
    obtain ⟨g7, hg7⟩ : ∃ g, w1.heap.size = g := ⟨_, rfl⟩
    rw [hg4, hg7] at HS
    rw [hg7] at HZ
    rw [hg4, hg7]
    clear hg4 hg7 HP HT
    have HZ7 := HZ.drew
    refine wp_region_held_drew (S := (DrS w g4 g7 V A0 L zs)) (by kernel_rfl) HS.drew (fun hH => ?_)
    refine wpAnyH_letter #[false, false, false, false, false] (by kernel_rfl) (fun _ _ d _ _ h => by cases d <;> exact h) (fun QL HQ1 HQ2 => ?_)
    refine held_row 0 (some 18) rfl (by kernel_rfl) (by kernel_rfl) (by kernel_rfl) (by kernel_rfl) (fun c a v w h => HQ2.out c a _ v w h) (by kernel_rfl) 30 (.tmp 3) rfl g4 (by kernel_rfl) 30 V (fun _ h => h.blk) _ Tryz.underlying30 rfl SV.out hH ?_
    try simp only [Act.put, List.setIfInBounds_toArray, List.set_cons_zero, List.set_cons_succ]
    refine held_v 1 (some 19) rfl (by kernel_rfl) (by kernel_rfl) (by kernel_rfl) (by kernel_rfl) (fun c a v w h => HQ2.out c a _ v w h) (by kernel_rfl) (.int .i64 E) (fun W h => by kernel_rfl) hH ?_
    try simp only [Act.put, List.setIfInBounds_toArray, List.set_cons_zero, List.set_cons_succ]
    refine held_v 2 (some 6) rfl (by kernel_rfl) (by kernel_rfl) (by kernel_rfl) (by kernel_rfl) (fun c a v w h => HQ2.out c a _ v w h) (by kernel_rfl) (.int .i64 0) (fun W h => by kernel_rfl) hH ?_
    try simp only [Act.put, List.setIfInBounds_toArray, List.set_cons_zero, List.set_cons_succ]
    refine wpAnyH_ready (rs := [3]) (by kernel_rfl) (by decide) ?_
    refine AllReadyH.cons rfl (fun K hK => ?_) AllReadyH.nil
    refine step_store none (by kernel_rfl) (by kernel_rfl) 30 (.tmp 7) (.tmp 18) rfl g7 (by kernel_rfl) 30 Z V HZ7.1 (by kernel_rfl) ZV.out SV.out OV.out ?_
    intro w41 hkw41 hsw41 hbw41 how41
    have ex42 : Fx [.blk g7 30 V] w41 := ⟨hkw41.out, trivial⟩
    refine hK.out _ _ (hH.store HZ7.1 hH.store7 hsw41.out hbw41 how41) (fun hw41 => ?_)
    clear hK K
    try simp only [Act.put, List.setIfInBounds_toArray, List.set_cons_zero, List.set_cons_succ]
    refine held_v 4 (some 8) rfl (by kernel_rfl) (by kernel_rfl) (by kernel_rfl) (by kernel_rfl) (fun c a v w h => HQ2.out c a _ v w h) (by kernel_rfl) (.int .i64 E) (fun W h => by kernel_rfl) hw41 ?_
    try simp only [Act.put, List.setIfInBounds_toArray, List.set_cons_zero, List.set_cons_succ]
    refine wpAnyH_done (by kernel_rfl) ?_ _
    refine HQ1.out _ _ ?_
    clear HQ1 HQ2
    go_wp2_with (refine bodyPost_mid 6 7 8 30 rfl g7 rfl (.int .i64 0) (.int .i64 E) rfl rfl 30 V ex42.1 _ Tryz.underlying30 rfl SV.out rfl ?_)
    exact HEND.out w _ hw41.rd hw41.bel
end Go.Proofs.YtomkidgmpbjgeaaGreatDoor

/-
  Texts of this claim, joined (what the claim does not need is left out): PikA, RefN, PikL, RefCo, RefQ, RefR, RefS, LawX, UniB, TopA, TopQ, RefNd, OpenA.
-/
import Derived.Test.YtkhlkggdibaefaaGreatDoorLGe
import Derived.BigQuiet
import Derived.Test.YtkhlkggdibaefaaGreatDoorRows
import Derived.ShutString
import Derived.ChangeOld
set_option maxRecDepth 100000
set_option linter.unusedVariables false
set_option linter.unusedSimpArgs false
set_option linter.unusedSectionVars false
namespace Go.Proofs.YtkhlkggdibaefaaGreatDoor
section
open Go.ChangeShapes Go.WideShapes Go.ChangeAt Go.RowKit
theorem tb_laterA {v0 : World} {g : Nat} {t : TypeId} {cs : Array Value} (h : Blk v0 g t cs) : ∀ W, Below v0.heap.size v0 W → Blk W g t cs := fun _ hb => h.below hb h.lt
theorem pr_laterA {w v0 : World} {A : Option Addr} {n : Nat} {ts : List (Int × Int)} (h : RdPr .u64 .i64 w w.heap.size A n ts) (h0 : Below w.heap.size w v0) : ∀ W, Below v0.heap.size v0 W → RdPr .u64 .i64 W W.heap.size A n ts := fun _ hb => h.to (h0.trans (hb.mono h0.size))
theorem pr_keepA {v0 : World} {A : Option Addr} {n : Nat} {ts : List (Int × Int)} (h : RdPr .u64 .i64 v0 v0.heap.size A n ts) : ∀ W, Below v0.heap.size v0 W → RdPr .u64 .i64 W W.heap.size A n ts := fun _ hb => h.to hb
theorem pick_owns {T : Int} {ts : List (Int × Int)} (hr : tabR T ts = true) (s : Src) (a : Int) (h : (drawR s (tabZ T ts) a).2.2 = 0) : owE T ts (drawR s (tabZ T ts) a).1 = 0 := by
  have h1 : (drawR s (tabZ T ts) a).1 < tabZ T ts := by
    unfold drawR at h ⊢
    split
    next hb => rw [if_pos hb] at h; exact (drawGo_first _ _ _ _ h).1
    next hb => rw [if_neg hb] at h; exact absurd h (by show ¬ (1 : Int) = 0; omega)
  have hZe : tabZ T ts = (ts.length : Int) * T := if_pos hr
  unfold owE
  rw [if_pos hr, if_pos (by rw [← hZe]; exact h1)]
set_option maxHeartbeats 16000000 in
theorem q15draw_c (T : Int) (T0 : 0 ≤ T) (T1 : T < 18446744073709551616) (ts : List (Int × Int)) (hts : PrOk ts) (A : Option Addr) (n c : Nat) (hn : n ≤ 1000) (hnc : n ≤ c) (hnm : c ≤ maxLen) (s : Src) (ok : s.Ok) (a : Int) (a0 : -9223372036854775808 ≤ a) (a1 : a < 9223372036854775808) (A0 : Option Addr) (c0 : Nat) (hc : s.tape.length ≤ c0) (hcm : c0 ≤ maxLen) (w : World) (hrp : RdPr .u64 .i64 w w.heap.size A n ts) (hrd : Rd .u8 w w.heap.size A0 s.tape.length s.tape) (hkst : Kst w) :
    Calls Tryz.prog 22 #[.agg #[.int .u64 T, .slice A n c], .agg (srcV s A0 c0), .int .i64 a] w (RetLead w s A0 (pikT T ts s a)) := by
  have HKS := Lib.hid hkst
  have HZ0 := Lib.hid zero_src
  have hRd := Lib.hid hrd
  have hPr := Lib.hid hrp
  have HZSS := Lib.hid (fun (t : Src) (h : t.seed.length = 32) A c => srcV_same Src.zero t rfl h none A 0 c)
  have hsz := fun W h => q14size_c T T0 T1 ts hts A n c hn hnc hnm W h
  obtain ⟨Z, hZ⟩ : ∃ Z, srcV Src.zero none 0 = Z := ⟨_, rfl⟩
  rw [hZ] at HZ0 HZSS
  have SV := Lib.hid (sizedS s ok.sl A0 c0)
  have OV := Lib.hid (srcV_ones s A0 c0)
  have ZV := Lib.hid (HZSS.out s ok.sl A0 c0)
  cases hr : tabR T ts with
  | false =>
    rw [pikT_bad s a hr]
    rw [show tabZ T ts = 0 from if_neg (by rw [hr]; decide)] at hsz
    have HSZ := Lib.hid hsz
    have HEND0 : Hid (∀ V0, Below w.heap.size w V0 → ∀ w', RdP A0 s.tape.length s.tape w' → Below V0.heap.size V0 w' → RetLead w s A0 (0, s, 1) (.returned (.tuple #[.int .i64 0, .agg (srcV s A0 c0), .int .i64 1])) w') := Lib.hid (fun V0 h0 w' hr hb => ⟨A0, c0, rfl, hr, hc, hcm, .inl rfl, h0.trans (hb.mono h0.size)⟩)
    obtain ⟨rr, hrr⟩ : ∃ r : Int × Src × Int, (0, s, 1) = r := ⟨_, rfl⟩
    rw [hrr] at HEND0 ⊢
    obtain ⟨V, hV⟩ : ∃ V, srcV s A0 c0 = V := ⟨_, rfl⟩
    rw [hV] at SV OV ZV HEND0 ⊢
    obtain ⟨zs, hzs⟩ : ∃ zs, s.tape = zs := ⟨_, rfl⟩
    obtain ⟨L, hL⟩ : ∃ L, zs.length = L := ⟨_, rfl⟩
    rw [hzs, hL] at HEND0
    rw [hzs, hL] at hRd
    have HEND := HEND0
    clear HEND0 hrr hV hzs hL hsz hr hts hrd hrp hc hcm hZ hn hnc hnm a0 a1 HZSS T0 T1 hkst
    go_enter Tryz.func22, Tryz.ntmps22
    go_wp2_with (first
      | (with_reducible refine at_any ?_; refine at_dst 3 rfl ?_; refine wpList_box_any rfl 54 (.tmp 0) rfl #[.int .u64 T, .slice A n c] rfl ?_; intro v0 hk0 hs0 hb0; have HB0 := Lib.hid hb0; have HK0 := Lib.hid (HKS.out.below hb0); have HRD0 := Lib.hid ((Rd.below hRd.out hb0).mono (Below.size hb0)); have HTB := Lib.hid (tb_laterA hk0.out); have HPR := Lib.hid (pr_laterA hPr.out hb0); clear hk0 hs0 hb0)
      | (with_reducible refine at_any ?_; refine at_dst 4 rfl ?_; refine wpList_box_any rfl 40 (.tmp 1) rfl V rfl ?_; intro w1 hk1 hs1 hb1)
      | (with_reducible refine at_any ?_; refine at_dst 7 rfl ?_; refine wpList_alloc_any rfl 40 rfl Z HZ0.out ?_; intro w2 hk2 hs2 hb2; have HS2 := Lib.hid (DrS.mk2 HRD0.out hk1.out hb1 hk2.out hb2 (Below.refl _ _)); have HZ2 := Lib.hid (fx1 hk2.out); have HBT := Lib.hid (HTB.out _ HS2.out.bel); have HPT := Lib.hid (HPR.out _ HS2.out.bel); clear hs1 hb1 hs2 hb2)
      | (with_reducible refine at_any ?_; refine at_dst 14 rfl ?_; refine wpList_load_tab (by kernel_rfl) (.tmp 3) rfl w.heap.size rfl 54 (.int .u64 T) (.slice A n c) HBT.out ?_)
      | (go_at_call 61; (with_reducible refine (HSZ.out _ HPT.out).mono ?_); rintro e w3 ⟨rfl, hb3⟩; have HS := Lib.hid (DrS.below HS2.out hb3); have HZ := Lib.hid (Fx.below HZ2.out hb3); clear HS2 HZ2 hb3))
    obtain ⟨g4, hg4⟩ : ∃ g, v0.heap.size = g := ⟨_, rfl⟩
    obtain ⟨g7, hg7⟩ : ∃ g, w1.heap.size = g := ⟨_, rfl⟩
    have HS9 := HS.out
    have HZ9 := HZ.out
    rw [hg4, hg7] at HS9
    rw [hg7] at HZ9
    rw [hg4, hg7]
    clear hg4 hg7 hk1 hk2 HS HZ
    have HZ7 := HZ9.drew
    refine wp_region_held_drew (S := (DrS v0 g4 g7 V A0 L zs)) (by kernel_rfl) HS9.drew (fun hH => ?_)
    refine wpAnyH_letter #[false, false, false, false] (by kernel_rfl) (fun _ _ d _ _ h => by cases d <;> exact h) (fun QL HQ1 HQ2 => ?_)
    refine held_row 0 (some 18) rfl (by kernel_rfl) (by kernel_rfl) (by kernel_rfl) (by kernel_rfl) (fun c a v w h => HQ2.out c a _ v w h) (by kernel_rfl) 40 (.tmp 4) rfl g4 (by kernel_rfl) 40 V (fun _ h => h.blk) _ Tryz.underlying40 rfl SV.out hH ?_
    try simp only [Act.put, List.setIfInBounds_toArray, List.set_cons_zero, List.set_cons_succ]
    refine held_v 1 (some 6) rfl (by kernel_rfl) (by kernel_rfl) (by kernel_rfl) (by kernel_rfl) (fun c a v w h => HQ2.out c a _ v w h) (by kernel_rfl) (.int .i64 0) (fun W h => by kernel_rfl) hH ?_
    try simp only [Act.put, List.setIfInBounds_toArray, List.set_cons_zero, List.set_cons_succ]
    refine wpAnyH_ready (rs := [2]) (by kernel_rfl) (by decide) ?_
    refine AllReadyH.cons rfl (fun K hK => ?_) AllReadyH.nil
    refine step_store none (by kernel_rfl) (by kernel_rfl) 40 (.tmp 7) (.tmp 18) rfl g7 (by kernel_rfl) 40 Z V HZ7.1 (by kernel_rfl) ZV.out SV.out OV.out ?_
    intro w41 hkw41 hsw41 hbw41 how41
    have ex42 : Fx [.blk g7 40 V] w41 := ⟨hkw41.out, trivial⟩
    refine hK.out _ _ (hH.store HZ7.1 hH.store7 hsw41.out hbw41 how41) (fun hw41 => ?_)
    clear hK K
    try simp only [Act.put, List.setIfInBounds_toArray, List.set_cons_zero, List.set_cons_succ]
    refine held_v 3 (some 8) rfl (by kernel_rfl) (by kernel_rfl) (by kernel_rfl) (by kernel_rfl) (fun c a v w h => HQ2.out c a _ v w h) (by kernel_rfl) (.int .i64 1) (fun W h => by kernel_rfl) hw41 ?_
    try simp only [Act.put, List.setIfInBounds_toArray, List.set_cons_zero, List.set_cons_succ]
    refine wpAnyH_done (by kernel_rfl) ?_ _
    refine HQ1.out _ _ ?_
    clear HQ1 HQ2
    go_wp2_with (refine bodyPost_mid 6 7 8 40 rfl g7 rfl (.int .i64 0) (.int .i64 1) rfl rfl 40 V ex42.1 _ Tryz.underlying40 rfl SV.out rfl ?_)
    exact HEND.out v0 HB0.out _ hw41.rd hw41.bel
  | true =>
    rw [pikT_go s a hr]
    obtain ⟨q0, q1, q2, -⟩ := tabR_iff.1 hr
    have hZe : tabZ T ts = (ts.length : Int) * T := if_pos hr
    have z1 : 0 ≤ tabZ T ts := by rw [hZe]; exact Int.mul_nonneg (by omega) (by omega)
    have z2 : tabZ T ts < 18446744073709551616 := by rw [hZe]; omega
    have hnz : tabZ T ts ≠ 0 := by
      rw [hZe]
      intro h
      rcases Int.mul_eq_zero.1 h with h | h <;> omega
    have hdr := fun W h hk => q8draw_c s ok (tabZ T ts) z1 z2 a a0 a1 A0 c0 hc hcm W h hk
    have okt : (drawT s (tabZ T ts) a).Ok := drawT_ok s (tabZ T ts) a ok
    have how := fun W h => q14owner_c T T0 T1 ts hts A n c hn hnc hnm W h (drawR s (tabZ T ts) a).1 (draw_in s (tabZ T ts) a).1 (draw_in s (tabZ T ts) a).2
    have hoz := pick_owns hr s a
    have HEND0 : Hid (∀ V0, Below w.heap.size w V0 → ∀ A2 c2 w', Sep V0 A0 A2 → s.tape.length ≤ c2 → c2 ≤ maxLen → RdP A2 s.tape.length s.tape w' → Below V0.heap.size V0 w' → RetLead w s A0 (pikGo T ts (drawR s (tabZ T ts) a)) (.returned (.tuple #[.int .i64 (pikGo T ts (drawR s (tabZ T ts) a)).1, .agg (srcV (pikGo T ts (drawR s (tabZ T ts) a)).2.1 A2 c2), .int .i64 (pikGo T ts (drawR s (tabZ T ts) a)).2.2])) w') := Lib.hid (fun V0 h0 A2 c2 w' h1 h2 h3 h4 h5 => ⟨A2, c2, rfl, h4, h2, h3, sep_from h1 h0.size, h0.trans (h5.mono h0.size)⟩)
    have hgo : (drawR s (tabZ T ts) a).2.2 = 0 → pikGo T ts (drawR s (tabZ T ts) a) = (owV T ts (drawR s (tabZ T ts) a).1, (drawR s (tabZ T ts) a).2.1, 0) := fun h => if_pos h
    have hgn : (drawR s (tabZ T ts) a).2.2 ≠ 0 → pikGo T ts (drawR s (tabZ T ts) a) = (0, (drawR s (tabZ T ts) a).2.1, (drawR s (tabZ T ts) a).2.2) := fun h => if_neg h
    obtain ⟨N, hN⟩ : ∃ x, tabZ T ts = x := ⟨_, rfl⟩
    rw [hN] at hsz hdr okt how HEND0 hgo hgn hoz hnz ⊢
    obtain ⟨t, ht⟩ : ∃ x, drawT s N a = x := ⟨_, rfl⟩
    have ht2 : (drawR s N a).2.1 = t := ht
    obtain ⟨x, hx⟩ : ∃ x, (drawR s N a).1 = x := ⟨_, rfl⟩
    obtain ⟨E, hE⟩ : ∃ x, (drawR s N a).2.2 = x := ⟨_, rfl⟩
    rw [ht] at okt
    unfold RetDraw at hdr
    rw [ht2, hx, hE] at hdr hgo
    rw [ht2, hE] at hgn
    rw [hx, hE] at hoz
    rw [hx] at how
    have t1 : (N == 0) = false := by rw [beq_eq_false_iff_ne]; exact hnz
    have HSZ := Lib.hid hsz
    have HDR0 := Lib.hid hdr
    have ST := Lib.hid (fun A c => sizedS t okt.sl A c)
    have OT := Lib.hid (fun A c => srcV_ones t A c)
    have ZT := Lib.hid (fun A c => HZSS.out t okt.sl A c)
    obtain ⟨ov, hov⟩ : ∃ y, owV T ts x = y := ⟨_, rfl⟩
    obtain ⟨oe, hoe⟩ : ∃ y, owE T ts x = y := ⟨_, rfl⟩
    rw [hov, hoe] at how
    rw [hoe] at hoz
    rw [hov] at hgo
    have HOW := Lib.hid how
    by_cases hE0 : E = 0
    · have e1 := hgo hE0
      rw [hoz hE0] at HOW
      rw [e1] at HEND0 ⊢
      have t2 : (E == 0) = true := by rw [beq_iff_eq]; exact hE0
      have t3 : (E != 0) = false := by rw [bne, t2]; rfl
      obtain ⟨rr, hrr⟩ : ∃ r : Int × Src × Int, (ov, t, 0) = r := ⟨_, rfl⟩
      have HEND1 : Hid (∀ V0, Below w.heap.size w V0 → ∀ A2 c2 w', Sep V0 A0 A2 → s.tape.length ≤ c2 → c2 ≤ maxLen → RdP A2 s.tape.length s.tape w' → Below V0.heap.size V0 w' → RetLead w s A0 rr (.returned (.tuple #[.int .i64 ov, .agg (srcV t A2 c2), .int .i64 0])) w') := by rw [← hrr]; exact HEND0
      rw [hrr]
      obtain ⟨V, hV⟩ : ∃ V, srcV s A0 c0 = V := ⟨_, rfl⟩
      have HDR := HDR0
      rw [hV] at SV OV ZV HDR ⊢
      obtain ⟨zs, hzs⟩ : ∃ zs, s.tape = zs := ⟨_, rfl⟩
      obtain ⟨L, hL⟩ : ∃ L, zs.length = L := ⟨_, rfl⟩
      rw [hzs, hL] at HEND1 hRd HDR
      have HEND := HEND1
      clear HEND1 HEND0 HDR0 hrr hV hzs hL hsz hdr how hgo hgn e1 hoz hov hoe hx hE ht ht2 hN okt hts hrd hrp hc hcm hZ hn hnc hnm a0 a1 HZSS hnz hE0 hr hkst T0 T1 z1 z2 hZe q0 q1 q2
      go_enter Tryz.func22, Tryz.ntmps22
      go_wp2_with (first
        | (with_reducible refine at_any ?_; refine at_dst 3 rfl ?_; refine wpList_box_any rfl 54 (.tmp 0) rfl #[.int .u64 T, .slice A n c] rfl ?_; intro v0 hk0 hs0 hb0; have HB0 := Lib.hid hb0; have HK0 := Lib.hid (HKS.out.below hb0); have HRD0 := Lib.hid ((Rd.below hRd.out hb0).mono (Below.size hb0)); have HTB := Lib.hid (tb_laterA hk0.out); have HPR := Lib.hid (pr_laterA hPr.out hb0); clear hk0 hs0 hb0)
        | (with_reducible refine at_any ?_; refine at_dst 4 rfl ?_; refine wpList_box_any rfl 40 (.tmp 1) rfl V rfl ?_; intro w1 hk1 hs1 hb1)
        | (with_reducible refine at_any ?_; refine at_dst 7 rfl ?_; refine wpList_alloc_any rfl 40 rfl Z HZ0.out ?_; intro w2 hk2 hs2 hb2; have HS2 := Lib.hid (DrS.mk2 HRD0.out hk1.out hb1 hk2.out hb2 (Below.refl _ _)); have HZ2 := Lib.hid (fx1 hk2.out); have HBT := Lib.hid (HTB.out _ HS2.out.bel); have HPT := Lib.hid (HPR.out _ HS2.out.bel); clear hs1 hb1 hs2 hb2)
        | (with_reducible refine at_any ?_; refine at_dst 14 rfl ?_; refine wpList_load_tab (by kernel_rfl) (.tmp 3) rfl w.heap.size rfl 54 (.int .u64 T) (.slice A n c) HBT.out ?_)
        | (go_at_call 61; (with_reducible refine (HSZ.out _ HPT.out).mono ?_); rintro e w3 ⟨rfl, hb3⟩; have HS := Lib.hid (DrS.below HS2.out hb3); have HZ := Lib.hid (Fx.below HZ2.out hb3); clear HS2 HZ2 hb3)
        | (with_reducible refine at_any ?_; refine at_dst 20 rfl ?_; refine wpList_load_blk rfl 40 (.tmp 4) rfl v0.heap.size rfl 40 V HS.out.blk _ Tryz.underlying40 rfl SV.out ?_)
        | (go_at_call 33; (with_reducible refine (HDR.out _ HS.out.rd.rd (HK0.out.below HS.out.bel)).mono ?_); rintro e w5 ⟨A2, c2, rfl, hrd2, hc2, hm2, hsp2, hb5⟩; obtain ⟨V2, hV2⟩ : ∃ V2, srcV t A2 c2 = V2 := ⟨_, rfl⟩; have SV2 := Lib.hid (ST.out A2 c2); have OV2 := Lib.hid (OT.out A2 c2); have ZV2 := Lib.hid (ZT.out A2 c2); have HH2 := Lib.hid (fun w' h3 h4 => HEND.out v0 HB0.out A2 c2 w' (sep_from hsp2 HS.out.bel.size) hc2 hm2 h3 h4); rw [hV2] at SV2 OV2 ZV2 HH2 ⊢; clear hV2 hc2 hm2)
        | (with_reducible refine at_any ?_; refine at_dst 11 rfl ?_; refine wpList_alloc_any rfl 40 rfl Z HZ0.out ?_; intro w6 hk6 hs6 hb6)
        | (with_reducible refine at_any ?_; refine at_store 11 rfl ?_; refine wpList_store_any rfl 40 (.tmp 11) (.tmp 25) rfl w5.heap.size rfl 40 Z V2 hk6.out rfl ZV2.out SV2.out OV2.out ?_; intro w7 hk7 hs7 hb7 ho7; have TK := Lib.hid (DrS.took HS.out HZ.out hrd2 hsp2 hb5 hb6 hk6.out hk7.out hs7.out hb7 ho7); have HBU := Lib.hid (HTB.out _ TK.out.2.2.2.2.2.bel); have HPU := Lib.hid (HPR.out _ TK.out.2.2.2.2.2.bel))
        | (with_reducible refine at_any ?_; refine at_dst 32 rfl ?_; refine wpList_load_tab (by kernel_rfl) (.tmp 3) rfl w.heap.size rfl 54 (.int .u64 T) (.slice A n c) HBU.out ?_)
        | (go_at_call 27; (with_reducible refine (HOW.out _ HPU.out).mono ?_); rintro e w8 ⟨rfl, hb8⟩))
      obtain ⟨-, HZ9, -, -, -, HD⟩ := TK.out
      have HZ9 := HZ9.below hb8
      have HD := HD.below hb8
      obtain ⟨g7, hg7⟩ : ∃ g, w1.heap.size = g := ⟨_, rfl⟩
      obtain ⟨g11, hg11⟩ : ∃ g, w5.heap.size = g := ⟨_, rfl⟩
      rw [hg7] at HZ9 HD
      rw [hg11] at HD
      rw [hg7, hg11]
      clear hg7 hg11 TK
      have HZ7 := HZ9.drew
      refine wp_region_held_drew (S := (DrH v0 g7 g11 V2 A2 L zs)) (by kernel_rfl) HD.drew (fun hH => ?_)
      refine wpAnyH_letter #[false, false, false, false, false, false] (by kernel_rfl) (fun _ _ d _ _ h => by cases d <;> exact h) (fun QL HQ1 HQ2 => ?_)
      refine held_v 0 (some 37) rfl (by kernel_rfl) (by kernel_rfl) (by kernel_rfl) (by kernel_rfl) (fun c a v w h => HQ2.out c a _ v w h) (by kernel_rfl) (.int .i64 ov) (fun W h => by kernel_rfl) hH ?_
      try simp only [Act.put, List.setIfInBounds_toArray, List.set_cons_zero, List.set_cons_succ]
      refine held_row 1 (some 38) rfl (by kernel_rfl) (by kernel_rfl) (by kernel_rfl) (by kernel_rfl) (fun c a v w h => HQ2.out c a _ v w h) (by kernel_rfl) 40 (.tmp 11) rfl g11 (by kernel_rfl) 40 V2 (fun _ h => h.blk) _ Tryz.underlying40 rfl SV2.out hH ?_
      try simp only [Act.put, List.setIfInBounds_toArray, List.set_cons_zero, List.set_cons_succ]
      refine held_v 2 (some 39) rfl (by kernel_rfl) (by kernel_rfl) (by kernel_rfl) (by kernel_rfl) (fun c a v w h => HQ2.out c a _ v w h) (by kernel_rfl) (.int .i64 0) (fun W h => by kernel_rfl) hH ?_
      try simp only [Act.put, List.setIfInBounds_toArray, List.set_cons_zero, List.set_cons_succ]
      refine held_v 3 (some 6) rfl (by kernel_rfl) (by kernel_rfl) (by kernel_rfl) (by kernel_rfl) (fun c a v w h => HQ2.out c a _ v w h) (by kernel_rfl) (.int .i64 ov) (fun W h => by kernel_rfl) hH ?_
      try simp only [Act.put, List.setIfInBounds_toArray, List.set_cons_zero, List.set_cons_succ]
      refine wpAnyH_ready (rs := [4]) (by kernel_rfl) (by decide) ?_
      refine AllReadyH.cons rfl (fun K hK => ?_) AllReadyH.nil
      refine step_store none (by kernel_rfl) (by kernel_rfl) 40 (.tmp 7) (.tmp 38) rfl g7 (by kernel_rfl) 40 Z V2 HZ7.1 (by kernel_rfl) ZV2.out SV2.out OV2.out ?_
      intro w141 hkw141 hsw141 hbw141 how141
      have ex142 : Fx [.blk g7 40 V2] w141 := ⟨hkw141.out, trivial⟩
      refine hK.out _ _ (hH.store HZ7.1 hH.store7 hsw141.out hbw141 how141) (fun hw141 => ?_)
      clear hK K
      try simp only [Act.put, List.setIfInBounds_toArray, List.set_cons_zero, List.set_cons_succ]
      refine held_v 5 (some 8) rfl (by kernel_rfl) (by kernel_rfl) (by kernel_rfl) (by kernel_rfl) (fun c a v w h => HQ2.out c a _ v w h) (by kernel_rfl) (.int .i64 0) (fun W h => by kernel_rfl) hw141 ?_
      try simp only [Act.put, List.setIfInBounds_toArray, List.set_cons_zero, List.set_cons_succ]
      refine wpAnyH_done (by kernel_rfl) ?_ _
      refine HQ1.out _ _ ?_
      clear HQ1 HQ2
      go_wp2_with (refine bodyPost_mid 6 7 8 40 rfl g7 rfl (.int .i64 ov) (.int .i64 0) rfl rfl 40 V2 ex142.1 _ Tryz.underlying40 rfl SV2.out rfl ?_)
      exact HH2.out _ hw141.rd.rd hw141.bel
    · have e1 := hgn hE0
      rw [e1] at HEND0 ⊢
      have t2 : (E == 0) = false := by rw [beq_eq_false_iff_ne]; exact hE0
      have t3 : (E != 0) = true := by rw [bne, t2]; rfl
      obtain ⟨rr, hrr⟩ : ∃ r : Int × Src × Int, (0, t, E) = r := ⟨_, rfl⟩
      have HEND1 : Hid (∀ V0, Below w.heap.size w V0 → ∀ A2 c2 w', Sep V0 A0 A2 → s.tape.length ≤ c2 → c2 ≤ maxLen → RdP A2 s.tape.length s.tape w' → Below V0.heap.size V0 w' → RetLead w s A0 rr (.returned (.tuple #[.int .i64 0, .agg (srcV t A2 c2), .int .i64 E])) w') := by rw [← hrr]; exact HEND0
      rw [hrr]
      obtain ⟨V, hV⟩ : ∃ V, srcV s A0 c0 = V := ⟨_, rfl⟩
      have HDR := HDR0
      rw [hV] at SV OV ZV HDR ⊢
      obtain ⟨zs, hzs⟩ : ∃ zs, s.tape = zs := ⟨_, rfl⟩
      obtain ⟨L, hL⟩ : ∃ L, zs.length = L := ⟨_, rfl⟩
      rw [hzs, hL] at HEND1 hRd HDR
      have HEND := HEND1
      clear HEND1 HEND0 HDR0 hrr hV hzs hL hsz hdr how hgo hgn e1 hoz hov hoe hx hE ht ht2 hN okt hts hrd hrp hc hcm hZ hn hnc hnm a0 a1 HZSS hnz hE0 hr hkst T0 T1 z1 z2 hZe q0 q1 q2
      go_enter Tryz.func22, Tryz.ntmps22
      go_wp2_with (first
        | (with_reducible refine at_any ?_; refine at_dst 3 rfl ?_; refine wpList_box_any rfl 54 (.tmp 0) rfl #[.int .u64 T, .slice A n c] rfl ?_; intro v0 hk0 hs0 hb0; have HB0 := Lib.hid hb0; have HK0 := Lib.hid (HKS.out.below hb0); have HRD0 := Lib.hid ((Rd.below hRd.out hb0).mono (Below.size hb0)); have HTB := Lib.hid (tb_laterA hk0.out); have HPR := Lib.hid (pr_laterA hPr.out hb0); clear hk0 hs0 hb0)
        | (with_reducible refine at_any ?_; refine at_dst 4 rfl ?_; refine wpList_box_any rfl 40 (.tmp 1) rfl V rfl ?_; intro w1 hk1 hs1 hb1)
        | (with_reducible refine at_any ?_; refine at_dst 7 rfl ?_; refine wpList_alloc_any rfl 40 rfl Z HZ0.out ?_; intro w2 hk2 hs2 hb2; have HS2 := Lib.hid (DrS.mk2 HRD0.out hk1.out hb1 hk2.out hb2 (Below.refl _ _)); have HZ2 := Lib.hid (fx1 hk2.out); have HBT := Lib.hid (HTB.out _ HS2.out.bel); have HPT := Lib.hid (HPR.out _ HS2.out.bel); clear hs1 hb1 hs2 hb2)
        | (with_reducible refine at_any ?_; refine at_dst 14 rfl ?_; refine wpList_load_tab (by kernel_rfl) (.tmp 3) rfl w.heap.size rfl 54 (.int .u64 T) (.slice A n c) HBT.out ?_)
        | (go_at_call 61; (with_reducible refine (HSZ.out _ HPT.out).mono ?_); rintro e w3 ⟨rfl, hb3⟩; have HS := Lib.hid (DrS.below HS2.out hb3); have HZ := Lib.hid (Fx.below HZ2.out hb3); clear HS2 HZ2 hb3)
        | (with_reducible refine at_any ?_; refine at_dst 20 rfl ?_; refine wpList_load_blk rfl 40 (.tmp 4) rfl v0.heap.size rfl 40 V HS.out.blk _ Tryz.underlying40 rfl SV.out ?_)
        | (go_at_call 33; (with_reducible refine (HDR.out _ HS.out.rd.rd (HK0.out.below HS.out.bel)).mono ?_); rintro e w5 ⟨A2, c2, rfl, hrd2, hc2, hm2, hsp2, hb5⟩; obtain ⟨V2, hV2⟩ : ∃ V2, srcV t A2 c2 = V2 := ⟨_, rfl⟩; have SV2 := Lib.hid (ST.out A2 c2); have OV2 := Lib.hid (OT.out A2 c2); have ZV2 := Lib.hid (ZT.out A2 c2); have HH2 := Lib.hid (fun w' h3 h4 => HEND.out v0 HB0.out A2 c2 w' (sep_from hsp2 HS.out.bel.size) hc2 hm2 h3 h4); rw [hV2] at SV2 OV2 ZV2 HH2 ⊢; clear hV2 hc2 hm2)
        | (with_reducible refine at_any ?_; refine at_dst 11 rfl ?_; refine wpList_alloc_any rfl 40 rfl Z HZ0.out ?_; intro w6 hk6 hs6 hb6)
        | (with_reducible refine at_any ?_; refine at_store 11 rfl ?_; refine wpList_store_any rfl 40 (.tmp 11) (.tmp 25) rfl w5.heap.size rfl 40 Z V2 hk6.out rfl ZV2.out SV2.out OV2.out ?_; intro w7 hk7 hs7 hb7 ho7; have TK := Lib.hid (DrS.took HS.out HZ.out hrd2 hsp2 hb5 hb6 hk6.out hk7.out hs7.out hb7 ho7); have HBU := Lib.hid (HTB.out _ TK.out.2.2.2.2.2.bel); have HPU := Lib.hid (HPR.out _ TK.out.2.2.2.2.2.bel)))
      obtain ⟨-, HZ9, -, -, -, HD⟩ := TK.out
      obtain ⟨g7, hg7⟩ : ∃ g, w1.heap.size = g := ⟨_, rfl⟩
      obtain ⟨g11, hg11⟩ : ∃ g, w5.heap.size = g := ⟨_, rfl⟩
      rw [hg7] at HZ9 HD
      rw [hg11] at HD
      rw [hg7, hg11]
      clear hg7 hg11 TK
      have HZ7 := HZ9.drew
      refine wp_region_held_drew (S := (DrH v0 g7 g11 V2 A2 L zs)) (by kernel_rfl) HD.drew (fun hH => ?_)
      refine wpAnyH_letter #[false, false, false, false, false] (by kernel_rfl) (fun _ _ d _ _ h => by cases d <;> exact h) (fun QL HQ1 HQ2 => ?_)
      refine held_row 0 (some 29) rfl (by kernel_rfl) (by kernel_rfl) (by kernel_rfl) (by kernel_rfl) (fun c a v w h => HQ2.out c a _ v w h) (by kernel_rfl) 40 (.tmp 11) rfl g11 (by kernel_rfl) 40 V2 (fun _ h => h.blk) _ Tryz.underlying40 rfl SV2.out hH ?_
      try simp only [Act.put, List.setIfInBounds_toArray, List.set_cons_zero, List.set_cons_succ]
      refine held_v 1 (some 30) rfl (by kernel_rfl) (by kernel_rfl) (by kernel_rfl) (by kernel_rfl) (fun c a v w h => HQ2.out c a _ v w h) (by kernel_rfl) (.int .i64 E) (fun W h => by kernel_rfl) hH ?_
      try simp only [Act.put, List.setIfInBounds_toArray, List.set_cons_zero, List.set_cons_succ]
      refine held_v 2 (some 6) rfl (by kernel_rfl) (by kernel_rfl) (by kernel_rfl) (by kernel_rfl) (fun c a v w h => HQ2.out c a _ v w h) (by kernel_rfl) (.int .i64 0) (fun W h => by kernel_rfl) hH ?_
      try simp only [Act.put, List.setIfInBounds_toArray, List.set_cons_zero, List.set_cons_succ]
      refine wpAnyH_ready (rs := [3]) (by kernel_rfl) (by decide) ?_
      refine AllReadyH.cons rfl (fun K hK => ?_) AllReadyH.nil
      refine step_store none (by kernel_rfl) (by kernel_rfl) 40 (.tmp 7) (.tmp 29) rfl g7 (by kernel_rfl) 40 Z V2 HZ7.1 (by kernel_rfl) ZV2.out SV2.out OV2.out ?_
      intro w141 hkw141 hsw141 hbw141 how141
      have ex142 : Fx [.blk g7 40 V2] w141 := ⟨hkw141.out, trivial⟩
      refine hK.out _ _ (hH.store HZ7.1 hH.store7 hsw141.out hbw141 how141) (fun hw141 => ?_)
      clear hK K
      try simp only [Act.put, List.setIfInBounds_toArray, List.set_cons_zero, List.set_cons_succ]
      refine held_v 4 (some 8) rfl (by kernel_rfl) (by kernel_rfl) (by kernel_rfl) (by kernel_rfl) (fun c a v w h => HQ2.out c a _ v w h) (by kernel_rfl) (.int .i64 E) (fun W h => by kernel_rfl) hw141 ?_
      try simp only [Act.put, List.setIfInBounds_toArray, List.set_cons_zero, List.set_cons_succ]
      refine wpAnyH_done (by kernel_rfl) ?_ _
      refine HQ1.out _ _ ?_
      clear HQ1 HQ2
      go_wp2_with (refine bodyPost_mid 6 7 8 40 rfl g7 rfl (.int .i64 0) (.int .i64 E) rfl rfl 40 V2 ex142.1 _ Tryz.underlying40 rfl SV2.out rfl ?_)
      exact HH2.out _ hw141.rd.rd hw141.bel
set_option maxHeartbeats 16000000 in
theorem q15list_c (l : List Int) (hz : ∀ z ∈ l, 0 ≤ z ∧ z < 18446744073709551616) (AL : Option Addr) (n c : Nat) (hn : n ≤ 1000) (s : Src) (ok : s.Ok) (a : Int) (a0 : -9223372036854775808 ≤ a) (a1 : a < 9223372036854775808) (A0 : Option Addr) (c0 : Nat) (hc0 : s.tape.length ≤ c0) (hcm0 : c0 ≤ maxLen) (w : World) (hrl : Rd .u64 w w.heap.size AL n l) (hrd : Rd .u8 w w.heap.size A0 s.tape.length s.tape) (hkst : Kst w) :
    Calls Tryz.prog 43 #[.agg (srcV s A0 c0), .int .i64 a, .slice AL n c] w (RetLead w s A0 (pikR l s a)) := by
  have HKS := Lib.hid hkst
  have HZ0 := Lib.hid zero_src
  have hRd := Lib.hid hrd
  have HRL : Hid (∀ W, Below w.heap.size w W → Rd .u64 W W.heap.size AL n l) := Lib.hid (fun W hb => (hrl.below hb).mono hb.size)
  have HZSS := Lib.hid (fun (t : Src) (h : t.seed.length = 32) A c => srcV_same Src.zero t rfl h none A 0 c)
  have hlen := hrl.len
  have hz0 : ∀ z ∈ l, 0 ≤ z := fun z h => (hz z h).1
  have hbd := fun W h => q14build_c l hz AL n c hn W h
  obtain ⟨q0, q1, q2, q3⟩ := tb_in hz0
  have hPO := q3 (by omega)
  have hdw := fun A' c' (h3 : (tbC l).length ≤ c') (h4 : c' ≤ maxLen) W h1 h2 h5 => q15draw_c (tbT l) q0 (by omega) (tbC l) hPO A' (tbC l).length c' (by omega) h3 h4 s ok a a0 a1 A0 c0 hc0 hcm0 W h1 h2 h5
  obtain ⟨Z, hZ⟩ : ∃ Z, srcV Src.zero none 0 = Z := ⟨_, rfl⟩
  rw [hZ] at HZ0 HZSS
  have SV := Lib.hid (sizedS s ok.sl A0 c0)
  have OV := Lib.hid (srcV_ones s A0 c0)
  have ZV := Lib.hid (HZSS.out s ok.sl A0 c0)
  have okX := (pikT_in (tbT l) (tbC l) s a ok).1
  have hgo := pikR_go (l := l) s a
  have her := pikR_err (l := l) s a
  obtain ⟨E, hE⟩ : ∃ E, tbE l = E := ⟨_, rfl⟩
  obtain ⟨T, hT⟩ : ∃ T, tbT l = T := ⟨_, rfl⟩
  obtain ⟨ts, hts⟩ : ∃ ts, tbC l = ts := ⟨_, rfl⟩
  rw [hT, hts, hE] at hbd
  rw [hT, hts] at hdw okX
  rw [hE] at her hgo
  rw [hT, hts] at hgo
  obtain ⟨nn, hnn⟩ : ∃ nn, ts.length = nn := ⟨_, rfl⟩
  rw [hnn] at hbd hdw
  unfold RetTab at hbd
  have HBD := Lib.hid hbd
  by_cases h0 : E = 0
  · rw [hgo h0]
    have t2 : (E == 0) = true := by rw [beq_iff_eq]; exact h0
    have t3 : (E != 0) = false := by rw [bne, t2]; rfl
    obtain ⟨rr, hrr⟩ : ∃ r, pikT T ts s a = r := ⟨_, rfl⟩
    rw [hrr] at hdw okX ⊢
    obtain ⟨x, X, e2⟩ := rr
    have ST := Lib.hid (fun A c => sizedS X okX.sl A c)
    have OT := Lib.hid (fun A c => srcV_ones X A c)
    have ZT := Lib.hid (fun A c => HZSS.out X okX.sl A c)
    unfold RetLead at hdw ⊢
    dsimp only at hdw okX ⊢
    obtain ⟨V, hV⟩ : ∃ V, srcV s A0 c0 = V := ⟨_, rfl⟩
    rw [hV] at SV OV ZV hdw ⊢
    obtain ⟨zs, hzs⟩ : ∃ zs, s.tape = zs := ⟨_, rfl⟩
    obtain ⟨L, hL⟩ : ∃ L, zs.length = L := ⟨_, rfl⟩
    rw [hzs, hL] at hdw ⊢
    rw [hzs, hL] at hRd
    have HDW := Lib.hid hdw
    clear hV hzs hL hdw hbd hgo her hrr okX hT hts hE hnn hZ hz hz0 hrl hrd hc0 hcm0 hn hlen q0 q1 q2 q3 hPO HZSS a0 a1 h0 ok hkst
    go_enter Tryz.func43, Tryz.ntmps43
    go_wp2_with (first
      | (with_reducible refine at_any ?_; refine at_dst 3 rfl ?_; refine wpList_box_any rfl 40 (.tmp 0) rfl V rfl ?_; intro w1 hk1 hs1 hb1)
      | (with_reducible refine at_any ?_; refine at_dst 7 rfl ?_; refine wpList_alloc_any rfl 40 rfl Z HZ0.out ?_; intro w2 hk2 hs2 hb2; have HS2 := DrS.mk2 hRd.out hk1.out hb1 hk2.out hb2 (Below.refl _ _); have HZ2 := fx1 hk2.out; clear hs1 hb1 hs2 hb2 hk1 hk2)
      | (go_at_call 21; (with_reducible refine (HBD.out _ (HRL.out _ HS2.bel)).mono ?_); rintro e w3 ⟨A3, c3, rfl, hr3, hl3, hm3, hb3⟩; have HS3 := HS2.below hb3; have HZ3 := HZ2.below hb3; have HP3 := Lib.hid (pr_keepA hr3); have HL3 := Lib.hid hl3; have HM3 := Lib.hid hm3; clear hb3 hr3 HS2 HZ2 hl3 hm3)
      | (with_reducible refine at_any ?_; refine at_dst 9 rfl ?_; refine wpList_alloc_any rfl 54 rfl #[.int .u64 0, .slice none 0 0] zero_tabL ?_; intro w4 hk4 hs4 hb4)
      | (with_reducible refine at_any ?_; refine at_store 9 rfl ?_; refine wpList_store_any rfl 54 (.tmp 9) (.tmp 14) rfl w3.heap.size rfl 54 #[.int .u64 0, .slice none 0 0] #[.int .u64 T, .slice A3 nn c3] hk4.out rfl (sameT2 _ _ _ _) (sizedT _ _) (onesT _ _ _ _) ?_; intro w5 hk5 hs5 hb5 ho5; have hb35 := Below.trans hb4 (hb5 _ (Nat.le_refl _)); have HS := HS3.below hb35; have HZ := HZ3.below hb35; have HP := Lib.hid (HP3.out _ hb35); have HT := Lib.hid hk5.out; clear hk4 hs4 hb4 hk5 hs5 hb5 ho5 hb35 HS3 HZ3 HP3)
      | (with_reducible refine at_any ?_; refine at_dst 20 rfl ?_; refine wpList_load_tab (by kernel_rfl) (.tmp 9) rfl w3.heap.size rfl 54 (.int .u64 T) (.slice A3 nn c3) HT.out ?_)
      | (with_reducible refine at_any ?_; refine at_dst 21 rfl ?_; refine wpList_load_blk rfl 40 (.tmp 3) rfl w.heap.size rfl 40 V HS.blk _ Tryz.underlying40 rfl SV.out ?_)
      | (go_at_call 22; (with_reducible refine (HDW.out A3 c3 HL3.out HM3.out _ HP.out HS.rd.rd (HKS.out.below HS.bel)).mono ?_); rintro e w6 ⟨A2, c2, rfl, hr6, hl6, hm6, hp6, hb6⟩; have HS6 := HS.below hb6; have HZ6 := HZ.below hb6; have HR6 : RdP A2 L zs w6 := hr6; have HA6 := Apt.of_sep hp6 HS.apt7 HS.lt7; have HQ6 := Lib.hid (sep_from hp6 HS.bel.size); have SV2 := Lib.hid (ST.out A2 c2); have OV2 := Lib.hid (OT.out A2 c2); have ZV2 := Lib.hid (ZT.out A2 c2); have HL6 := Lib.hid hl6; have HM6 := Lib.hid hm6; clear hr6 hp6 hb6 HS HZ hl6 hm6)
      | (with_reducible refine at_any ?_; refine at_store 7 rfl ?_; refine wpList_store_any rfl 40 (.tmp 7) (.tmp 25) rfl w1.heap.size rfl 40 Z (srcV X A2 c2) (Fx.b0 HZ6) rfl ZV2.out SV2.out OV2.out ?_; intro w7 hk7 hs7 hb7 ho7; have HE7 := Lib.hid (HR6.store (Fx.b0 HZ6) HA6 hs7.out hb7 ho7); have HB7 := Lib.hid (Below.trans HS6.bel (hb7 _ HS6.le7)); have HK7 := Lib.hid hk7.out; clear hk7 hs7 hb7 ho7)
      | (refine bodyPost_mid 6 7 8 40 rfl w1.heap.size rfl (.int .i64 x) (.int .i64 e2) rfl rfl 40 (srcV X A2 c2) HK7.out _ Tryz.underlying40 rfl SV2.out rfl ?_))
    exact ⟨A2, c2, rfl, HE7.out, HL6.out, HM6.out, HQ6.out, HB7.out⟩
  · rw [her h0]
    have t2 : (E == 0) = false := by rw [beq_eq_false_iff_ne]; exact h0
    have t3 : (E != 0) = true := by rw [bne, t2]; rfl
    have HEND0 : Hid (∀ w', RdP A0 s.tape.length s.tape w' → Below w.heap.size w w' → RetLead w s A0 (0, s, E) (.returned (.tuple #[.int .i64 0, .agg (srcV s A0 c0), .int .i64 E])) w') := Lib.hid (fun w' hr hb => ⟨A0, c0, rfl, hr, hc0, hcm0, .inl rfl, hb⟩)
    obtain ⟨rr, hrr⟩ : ∃ r : Int × Src × Int, (0, s, E) = r := ⟨_, rfl⟩
    rw [hrr] at HEND0 ⊢
    obtain ⟨V, hV⟩ : ∃ V, srcV s A0 c0 = V := ⟨_, rfl⟩
    rw [hV] at SV OV ZV HEND0 ⊢
    obtain ⟨zs, hzs⟩ : ∃ zs, s.tape = zs := ⟨_, rfl⟩
    obtain ⟨L, hL⟩ : ∃ L, zs.length = L := ⟨_, rfl⟩
    rw [hzs, hL] at HEND0
    rw [hzs, hL] at hRd
    have HEND : Hid (∀ (v : World) w', RdP A0 L zs w' → Below w.heap.size w w' → RetLead w s A0 rr (.returned (.tuple #[.int .i64 0, .agg V, .int .i64 E])) w') := Lib.hid (fun _ w' h1 h2 => HEND0.out w' h1 h2)
    clear HEND0 hrr hV hzs hL hdw hbd hgo her okX hT hts hE hnn hZ hz hz0 hrl hrd hc0 hcm0 hn hlen q0 q1 q2 q3 hPO HZSS a0 a1 h0 ok hkst
    go_enter Tryz.func43, Tryz.ntmps43
    go_wp2_with (first
      | (with_reducible refine at_any ?_; refine at_dst 3 rfl ?_; refine wpList_box_any rfl 40 (.tmp 0) rfl V rfl ?_; intro w1 hk1 hs1 hb1)
      | (with_reducible refine at_any ?_; refine at_dst 7 rfl ?_; refine wpList_alloc_any rfl 40 rfl Z HZ0.out ?_; intro w2 hk2 hs2 hb2; have HS2 := DrS.mk2 hRd.out hk1.out hb1 hk2.out hb2 (Below.refl _ _); have HZ2 := fx1 hk2.out; clear hs1 hb1 hs2 hb2 hk1 hk2)
      | (go_at_call 21; (with_reducible refine (HBD.out _ (HRL.out _ HS2.bel)).mono ?_); rintro e w3 ⟨A3, c3, rfl, hr3, hl3, hm3, hb3⟩; have HS3 := HS2.below hb3; have HZ3 := HZ2.below hb3; have HP3 := Lib.hid (pr_keepA hr3); have HL3 := Lib.hid hl3; have HM3 := Lib.hid hm3; clear hb3 hr3 HS2 HZ2 hl3 hm3)
      | (with_reducible refine at_any ?_; refine at_dst 9 rfl ?_; refine wpList_alloc_any rfl 54 rfl #[.int .u64 0, .slice none 0 0] zero_tabL ?_; intro w4 hk4 hs4 hb4)
      | (with_reducible refine at_any ?_; refine at_store 9 rfl ?_; refine wpList_store_any rfl 54 (.tmp 9) (.tmp 14) rfl w3.heap.size rfl 54 #[.int .u64 0, .slice none 0 0] #[.int .u64 T, .slice A3 nn c3] hk4.out rfl (sameT2 _ _ _ _) (sizedT _ _) (onesT _ _ _ _) ?_; intro w5 hk5 hs5 hb5 ho5; have hb35 := Below.trans hb4 (hb5 _ (Nat.le_refl _)); have HS := HS3.below hb35; have HZ := HZ3.below hb35; have HP := Lib.hid (HP3.out _ hb35); have HT := Lib.hid hk5.out; clear hk4 hs4 hb4 hk5 hs5 hb5 ho5 hb35 HS3 HZ3 HP3))
    obtain ⟨g4, hg4⟩ : ∃ g, w.heap.size = g := ⟨_, rfl⟩
    obtain ⟨g7, hg7⟩ : ∃ g, w1.heap.size = g := ⟨_, rfl⟩
    rw [hg4, hg7] at HS
    rw [hg7] at HZ
    rw [hg4, hg7]
    clear hg4 hg7 HP HT
    have HZ7 := HZ.drew
    refine wp_region_held_drew (S := (DrS w g4 g7 V A0 L zs)) (by kernel_rfl) HS.drew (fun hH => ?_)
    refine wpAnyH_letter #[false, false, false, false, false] (by kernel_rfl) (fun _ _ d _ _ h => by cases d <;> exact h) (fun QL HQ1 HQ2 => ?_)
    refine held_row 0 (some 18) rfl (by kernel_rfl) (by kernel_rfl) (by kernel_rfl) (by kernel_rfl) (fun c a v w h => HQ2.out c a _ v w h) (by kernel_rfl) 40 (.tmp 3) rfl g4 (by kernel_rfl) 40 V (fun _ h => h.blk) _ Tryz.underlying40 rfl SV.out hH ?_
    try simp only [Act.put, List.setIfInBounds_toArray, List.set_cons_zero, List.set_cons_succ]
    refine held_v 1 (some 19) rfl (by kernel_rfl) (by kernel_rfl) (by kernel_rfl) (by kernel_rfl) (fun c a v w h => HQ2.out c a _ v w h) (by kernel_rfl) (.int .i64 E) (fun W h => by kernel_rfl) hH ?_
    try simp only [Act.put, List.setIfInBounds_toArray, List.set_cons_zero, List.set_cons_succ]
    refine held_v 2 (some 6) rfl (by kernel_rfl) (by kernel_rfl) (by kernel_rfl) (by kernel_rfl) (fun c a v w h => HQ2.out c a _ v w h) (by kernel_rfl) (.int .i64 0) (fun W h => by kernel_rfl) hH ?_
    try simp only [Act.put, List.setIfInBounds_toArray, List.set_cons_zero, List.set_cons_succ]
    refine wpAnyH_ready (rs := [3]) (by kernel_rfl) (by decide) ?_
    refine AllReadyH.cons rfl (fun K hK => ?_) AllReadyH.nil
    refine step_store none (by kernel_rfl) (by kernel_rfl) 40 (.tmp 7) (.tmp 18) rfl g7 (by kernel_rfl) 40 Z V HZ7.1 (by kernel_rfl) ZV.out SV.out OV.out ?_
    intro w41 hkw41 hsw41 hbw41 how41
    have ex42 : Fx [.blk g7 40 V] w41 := ⟨hkw41.out, trivial⟩
    refine hK.out _ _ (hH.store HZ7.1 hH.store7 hsw41.out hbw41 how41) (fun hw41 => ?_)
    clear hK K
    try simp only [Act.put, List.setIfInBounds_toArray, List.set_cons_zero, List.set_cons_succ]
    refine held_v 4 (some 8) rfl (by kernel_rfl) (by kernel_rfl) (by kernel_rfl) (by kernel_rfl) (fun c a v w h => HQ2.out c a _ v w h) (by kernel_rfl) (.int .i64 E) (fun W h => by kernel_rfl) hw41 ?_
    try simp only [Act.put, List.setIfInBounds_toArray, List.set_cons_zero, List.set_cons_succ]
    refine wpAnyH_done (by kernel_rfl) ?_ _
    refine HQ1.out _ _ ?_
    clear HQ1 HQ2
    go_wp2_with (refine bodyPost_mid 6 7 8 40 rfl g7 rfl (.int .i64 0) (.int .i64 E) rfl rfl 40 V ex42.1 _ Tryz.underlying40 rfl SV.out rfl ?_)
    exact HEND.out w _ hw41.rd hw41.bel
end
section
open Go.ChangeShapes Go.WideShapes Go.ChangeAt Go.RowKit

end
section
open Go.ChangeShapes Go.WideShapes Go.ChangeAt Go.RowKit

end
section
open Go.ChangeShapes Go.WideShapes Go.ChangeAt Go.RowKit
set_option maxHeartbeats 2000000 in
theorem r17same_c (xs ys : List Int) (A B : Option Addr) (n m c d : Nat) (hn : n ≤ maxLen) (hm : m ≤ maxLen) (w : World) (hra : Rd .i64 w w.heap.size A n xs) (hrb : Rd .i64 w w.heap.size B m ys) : Calls Tryz.prog 35 #[.slice A n c, .slice B m d] w fun e w' => e = .returned (.bool (decide (xs = ys))) ∧ Below w.heap.size w w' := by
  have HA := Lib.hid hra
  have HB := Lib.hid hrb
  have hla := hra.len
  have hlb := hrb.len
  have hnm : (n : Int) ≤ 9223372036854775807 := by unfold maxLen at hn; omega
  clear hra hrb hn hm
  by_cases hl : n = m
  · subst hl
    have t0 : ((n : Int) != (n : Int)) = false := by simp
    go_enter Tryz.func35, Tryz.ntmps35
    go_wp2
    go_loopw [5] (fun i wr => ∃ k : Nat, k ≤ n ∧ i = .int .i64 (k : Int) ∧ (∀ j, j < k → xs.getD j 0 = ys.getD j 0) ∧ Below w.heap.size w wr) (fun i _ => n - (intOf i).toNat)
    case atStart => exact ⟨0, by omega, rfl, fun j h => absurd h (by omega), Below.refl _ _⟩
    case round =>
      obtain ⟨k, hk, rfl, heq, hbl⟩ := hrel
      have HEQ := Lib.hid heq
      have HBL := Lib.hid hbl
      by_cases hlt : k < n
      · obtain ⟨b1, o1, rfl, _, hc1⟩ := (HA.out.below hbl).at_ (by omega)
        obtain ⟨b2, o2, rfl, _, hc2⟩ := (HB.out.below hbl).at_ (by omega)
        have hk1 := hc1 k hlt
        have hk2 := hc2 k hlt
        obtain ⟨x, hx⟩ : ∃ x, xs.getD k 0 = x := ⟨_, rfl⟩
        obtain ⟨y, hy⟩ : ∃ y, ys.getD k 0 = y := ⟨_, rfl⟩
        rw [hx] at hk1
        rw [hy] at hk2
        have i0 : (0 : Int) ≤ (k : Int) := by omega
        have i1 : (k : Int) < (n : Int) := by omega
        clear heq hbl hc1 hc2
        by_cases hxy : x = y
        · subst hxy
          have HK : ∀ j, j < k + 1 → xs.getD j 0 = ys.getD j 0 := fun j hj => by
            by_cases h : j = k
            · rw [h, hx, hy]
            · exact HEQ.out j (by omega)
          have HKK := Lib.hid HK
          have t1 : (x != x) = false := by simp
          clear hx hy HEQ HK
          go_wp2
          go_quiet (fail)
          go_wp2
          go_roundw
          case rel => exact ⟨k + 1, by omega, by go_num, HKK.out, HBL.out.trans (below_drewN (Below.refl _ _) _)⟩
          case measure => simp [intOf]; omega
        · have hne : ¬ xs = ys := fun h => hxy (by rw [← hx, ← hy, h])
          have t1 : (x != y) = true := by simp [bne, hxy]
          have HNE := Lib.hid hne
          clear hx hy HEQ hne
          go_wp2
          go_quiet (fail)
          go_wp2
          go_ret
          exact ⟨ret_bool (decide_eq_false HNE.out).symm, below_drewN HBL.out _⟩
      · have hxy : xs = ys := ext_getD (by omega) fun j hj => heq j (by omega)
        obtain rfl : k = n := by omega
        have HXY := Lib.hid hxy
        clear heq hbl hxy
        go_wp2
        go_ret
        exact ⟨ret_bool (decide_eq_true HXY.out).symm, HBL.out⟩
  · have t0 : ((n : Int) != (m : Int)) = true := by simp [bne]; omega
    have hne : ¬ xs = ys := fun h => hl (by rw [← hla, ← hlb, h])
    have HNE := Lib.hid hne
    clear hne
    go_enter Tryz.func35, Tryz.ntmps35
    go_wp2
    go_ret
    exact ⟨ret_bool (decide_eq_false HNE.out).symm, Below.refl _ _⟩
end
section
open Go.ChangeShapes Go.WideShapes Go.ChangeAt Go.RowKit
theorem r10trim_c (zs : List Int) (A : Option Addr) (n c : Nat) (hn : n ≤ maxLen) (hnc : n ≤ c) (w : World) (hrd : Rd .u32 w w.heap.size A n zs) : Calls Tryz.prog 57 #[.slice A n c] w fun e w' => e = .returned (.slice A (trimL zs).length c) ∧ w = w' := by
  have HR := Lib.hid hrd
  have hlen := hrd.len
  have htk : zs.take n = zs := by rw [← hlen, List.take_length]
  have HTZ := Lib.hid (fun k h1 h2 => trimL_zero (l := zs) (k := k) h1 h2)
  have HTS := Lib.hid (fun k h1 h2 => trimL_stop (l := zs) (k := k) h1 h2)
  have hnm : (n : Int) ≤ 9223372036854775807 := by unfold maxLen at hn; omega
  have hnc' : (n : Int) ≤ (c : Int) := by omega
  clear hrd hn
  go_enter Tryz.func57, Tryz.ntmps57
  go_wp2
  go_loop [0] (fun v => ∃ k : Nat, k ≤ n ∧ v = .slice A k c ∧ trimL (zs.take k) = trimL zs) (fun v => match v with | .slice _ k _ => k | _ => 0)
  case atStart => exact ⟨n, Nat.le_refl _, rfl, by rw [htk]⟩
  case round =>
    obtain ⟨k, hk, rfl, htr⟩ := hrel
    have HTR := Lib.hid htr
    clear htr
    rcases k with _ | m
    · have HL : Hid ((trimL zs).length = 0) := Lib.hid (by rw [← HTR.out]; rfl)
      go_wp2
      go_ret
      exact ⟨ret_slice HL.out.symm, rfl⟩
    · obtain ⟨b, off, rfl, _, hc⟩ := HR.out.at_ (by omega)
      have hcm := hc m (by omega)
      have m0 : ((m + 1 : Nat) : Int) = (m : Int) + 1 := by omega
      have m3 : (m : Int) + 1 - 1 = (m : Int) := by omega
      have m2 : (m : Int) + 1 ≤ (n : Int) := by omega
      have m4 : (m : Int) ≤ (c : Int) := by omega
      by_cases hz : zs.getD m 0 = 0
      · rw [hz] at hcm
        have HN := Lib.hid ((HTZ.out m (by omega) hz).trans HTR.out)
        clear hc hz
        go_wp2
        go_round
        case rel => exact ⟨m, by omega, rfl, HN.out⟩
        case measure => simp
      · have hl := HTS.out m (by omega) hz
        rw [HTR.out] at hl
        have HL := Lib.hid hl
        obtain ⟨z, hzz⟩ : ∃ z, zs.getD m 0 = z := ⟨_, rfl⟩
        rw [hzz] at hcm hz
        have tz : (z == 0) = false := by rw [beq_eq_false_iff_ne]; exact hz
        clear hc hl hzz
        go_wp2
        go_ret
        exact ⟨ret_slice HL.out.symm, rfl⟩
theorem r10of_c (n : Int) (n0 : 0 ≤ n) (n1 : n < 18446744073709551616) (w : World) : Calls Tryz.prog 20 #[.int .u64 n] w (RetN w (natL n.toNat)) := by
  have hl : trimL [n % 4294967296, n / 4294967296] = natL n.toNat := by
    rw [trimL_eq (Lim.cons ⟨by omega, by omega⟩ (Lim.cons ⟨by omega, by omega⟩ Lim.nil))]
    congr 1
    show (n % 4294967296).toNat + 4294967296 * ((n / 4294967296).toNat + 4294967296 * 0) = n.toNat
    omega
  have e1 : IntKind.u32.wrap (n % 4294967296) = n % 4294967296 := by rw [IntKind.wrap_u32]; omega
  have e2 : IntKind.u32.wrap (n / 4294967296) = n / 4294967296 := by rw [IntKind.wrap_u32]; omega
  have ht : ∀ (A : Option Addr) W, Rd .u32 W W.heap.size A 2 [n % 4294967296, n / 4294967296] → Calls Tryz.prog 57 #[.slice A 2 2] W fun e w' => e = .returned (.slice A (trimL [n % 4294967296, n / 4294967296]).length 2) ∧ W = w' := fun A W h => r10trim_c _ A 2 2 (by simp [maxLen]) (Nat.le_refl _) W h
  have hrt := fun A W (h : Rd .u32 W W.heap.size A 2 [n % 4294967296, n / 4294967296]) => rd_trim h
  rw [hl] at ht hrt
  have hlt := trimL_len [n % 4294967296, n / 4294967296]
  rw [hl] at hlt
  have HLT := Lib.hid hlt
  obtain ⟨p, hp⟩ : ∃ p, n % 4294967296 = p := ⟨_, rfl⟩
  obtain ⟨q, hq⟩ : ∃ p, n / 4294967296 = p := ⟨_, rfl⟩
  obtain ⟨R, hR⟩ : ∃ p, natL n.toNat = p := ⟨_, rfl⟩
  rw [hp] at e1
  rw [hq] at e2
  rw [hp, hq, hR] at ht hrt
  rw [hR] at HLT ⊢
  have HT := Lib.hid ht
  have HRT := Lib.hid hrt
  have HRD := Lib.hid (rd_two32 w 89 p q)
  have HBL := Lib.hid ((Below.refl w.heap.size w).alloc (Nat.le_refl _) (.cells #[.int .u32 p, .int .u32 q] 89))
  clear ht hrt hl hlt hR
  go_enter Tryz.func20, Tryz.ntmps20
  go_wp2_with (first
    | (go_at_call 57; (with_reducible refine (HT.out _ _ HRD.out).mono ?_); rintro e _ ⟨rfl, rfl⟩))
  go_ret
  exact ⟨_, _, rfl, HLT.out, by simp [maxLen], HRT.out _ _ HRD.out, HBL.out⟩
theorem r10limb_c (zs : List Int) (hz : Lim zs) (A : Option Addr) (n c : Nat) (hn : n ≤ maxLen) (i : Nat) (w : World) (hrd : Rd .u32 w w.heap.size A n zs) : Calls Tryz.prog 62 #[.slice A n c, .int .i64 (i : Int)] w fun e w' => e = .returned (.int .u64 (zs.getD i 0)) ∧ w = w' := by
  have hlen := hrd.len
  have hnm : (n : Int) ≤ 9223372036854775807 := by unfold maxLen at hn; omega
  by_cases hlt : i < n
  · obtain ⟨b, off, rfl, _, hc⟩ := hrd.at_ (by omega)
    have hci := hc i hlt
    have hzi := hz.getD i
    obtain ⟨z, hzz⟩ : ∃ z, zs.getD i 0 = z := ⟨_, rfl⟩
    rw [hzz] at hci hzi ⊢
    obtain ⟨z0, z1⟩ := hzi
    clear hrd hc hn hz hzz
    go_enter Tryz.func62, Tryz.ntmps62
    go_wp2
    go_ret
    exact ⟨rfl, rfl⟩
  · have hv : zs.getD i 0 = 0 := by rw [List.getD_eq_getElem?_getD, List.getElem?_eq_none (by omega)]; rfl
    rw [hv]
    clear hrd hn hz hv
    go_enter Tryz.func62, Tryz.ntmps62
    go_wp2
    go_ret
    exact ⟨rfl, rfl⟩
end
section
open Go.ChangeShapes Go.WideShapes Go.ChangeAt Go.RowKit
set_option maxHeartbeats 8000000 in
theorem r10times_c (xs ys : List Int) (hx : Lim xs) (hy : Lim ys) (A B : Option Addr) (n m c d : Nat) (hn : n ≤ 100000) (hm : m ≤ 100000) (w : World) (hra : Rd .u32 w w.heap.size A n xs) (hrb : Rd .u32 w w.heap.size B m ys) : Calls Tryz.prog 24 #[.slice A n c, .slice B m d] w (RetN w (natL (valL xs * valL ys))) := by
  have hlx := hra.len
  have hly := hrb.len
  have HRA := Lib.hid hra
  have HRB := Lib.hid hrb
  obtain ⟨i0, hi0, hz0, hz1, hzb⟩ := info_parts info_u32d
  have HLB := Lib.hid (fun (i : Nat) W (h : Rd .u32 W W.heap.size B m ys) => r10limb_c ys hy B m d (by unfold maxLen; omega) i W h)
  have HXG := Lib.hid (fun i => hx.getD i)
  have HYG := Lib.hid (fun i => hy.getD i)
  have HYD := Lib.hid (fun i => valL_drop_getD ys i)
  have HXT := Lib.hid (fun i (h : i < n) => valL_take_succ xs i (by omega))
  have HYE := Lib.hid (fun i (h : m ≤ i) => show ys.getD i 0 = 0 by rw [List.getD_eq_getElem?_getD, List.getElem?_eq_none (by omega)]; rfl)
  have HDY := Lib.hid (fun i (h : m ≤ i) => show valL (ys.drop i) = 0 by rw [List.drop_eq_nil_of_le (by omega)]; rfl)
  have hyl := valL_lt hy
  have hxl := fun i => valL_lt (hx.take i)
  rw [hly] at hyl
  have HYL := Lib.hid hyl
  have HXL := Lib.hid hxl
  obtain ⟨L, hL⟩ : ∃ L, n + m = L := ⟨_, rfl⟩
  have hLI : (n : Int) + (m : Int) = (L : Int) := by omega
  have hL2 : (L : Int) ≤ 200000 := by omega
  have hmk : ∀ W, (Instr.makeSlice 45 (.int .i64 (L : Int)) (.int .i64 (L : Int))).run Tryz.prog W = .ok (.slice (some ⟨W.heap.size, 0, none⟩) L L) (W.alloc (.cells (intsA .u32 (List.replicate L 0)) 89)) := fun W => run_make_ints (P := Tryz.prog) 45 89 i0 .u32 Tryz.underlying45 hi0 hz0 hz1 .i64 .i64 L (by rw [hzb]; omega) (by omega) W
  have HS0 : Hid (NatS w w.heap.size (List.replicate L 0) (w.alloc (.cells (intsA .u32 (List.replicate L 0)) 89))) := Lib.hid ⟨Blk.new _ _ _, Nat.le_refl _, (Below.refl _ _).alloc (Nat.le_refl _) _⟩
  have hst : valL (List.replicate L 0) = valL (xs.take 0) * valL ys := by rw [valL_rep, List.take_zero]; show 0 = 0 * _; omega
  have HST := Lib.hid hst
  have htk : xs.take n = xs := by rw [← hlx, List.take_length]
  obtain ⟨Y, hY⟩ : ∃ Y, valL ys = Y := ⟨_, rfl⟩
  rw [hY] at HYL HST ⊢
  have hY0 : valL (ys.drop 0) = Y := by rw [List.drop_zero]; exact hY
  have HY0 := Lib.hid hY0
  clear hra hrb hx hy hst hly hyl hxl hY hY0 hlx hi0 hz0 hz1 hzb
  go_enter Tryz.func24, Tryz.ntmps24
  go_wp2
  clear hmk hLI
  obtain ⟨g, hg⟩ : ∃ g, w.heap.size = g := ⟨_, rfl⟩
  have HS1 : Hid (NatS w g (List.replicate L 0) (w.alloc (.cells (intsA .u32 (List.replicate L 0)) 89))) := by rw [← hg]; exact HS0
  rw [hg]
  clear hg HS0
  obtain ⟨w1, hw1⟩ : ∃ w1, w.alloc (.cells (intsA .u32 (List.replicate L 0)) 89) = w1 := ⟨_, rfl⟩
  rw [hw1] at HS1
  rw [hw1]
  clear hw1
  go_loopw [6] (fun ii wr => ∃ (i : Nat) (out : List Int), i ≤ n ∧ ii = .int .i64 (i : Int) ∧ out.length = L ∧ Lim out ∧ valL out = valL (xs.take i) * Y ∧ NatS w g out wr) (fun ii _ => n - (intOf ii).toNat)
  case atStart => exact ⟨0, _, by omega, rfl, List.length_replicate, Lim.rep _, HST.out, HS1.out⟩
  case round =>
    clear HST HS1
    obtain ⟨i, out0, hi, rfl, hol, hlo, hval, hns⟩ := hrel
    by_cases hin : i < n
    · have HNS := Lib.hid hns
      have hxi := HXG.out i
      have hxt := HXT.out i hin
      obtain ⟨b, off, rfl, hblt, hxc⟩ := HRA.out.at_ (by omega)
      have hxci := hxc i hin
      obtain ⟨x, hxx⟩ : ∃ x, xs.getD i 0 = x := ⟨_, rfl⟩
      rw [hxx] at hxi hxci hxt
      have HXC0 := Lib.hid (fun W (h : Below w.heap.size w W) => (h.cell (p := ⟨b, off + i, none⟩) hblt).trans hxci)
      have HXT1 := Lib.hid hxt
      have hzt : out0.getD (i + m) 0 = 0 := limb_zero hlo (by
        rw [hval, Nat.pow_add]
        have h1 := HXL.out i
        have h2 := HYL.out
        have h3 : (xs.take i).length = i := by rw [List.length_take, HRA.out.len]; omega
        rw [h3] at h1
        exact Nat.mul_lt_mul'' h1 h2)
      obtain ⟨V, hV⟩ : ∃ V, valL out0 + 4294967296 ^ i * (0 + x.toNat * Y) = V := ⟨_, rfl⟩
      have HST : Hid (valL out0 + 4294967296 ^ (i + 0) * (0 + x.toNat * valL (ys.drop 0)) = V) := Lib.hid (by rw [HY0.out, Nat.add_zero]; exact hV)
      have HVV : Hid (V = valL (xs.take (i + 1)) * Y) := Lib.hid (by
        rw [← hV, hval, HXT1.out, Nat.zero_add, Nat.add_mul, Nat.mul_assoc])
      have HZT := Lib.hid hzt
      have HOL := Lib.hid hol
      have HLO := Lib.hid hlo
      have hiI : (i : Int) < (n : Int) := by omega
      have HIN := Lib.hid hiI
      have hi1 : i + 1 ≤ n := by omega
      have HI1 := Lib.hid hi1
      obtain ⟨x0, x1⟩ := hxi
      have HX1 := Lib.hid x1
      have hxn : x.toNat < 4294967296 := by omega
      have hxN : ((x.toNat : Nat) : Int) = x := Int.toNat_of_nonneg x0
      have HXN := Lib.hid hxN
      have HXB := Lib.hid hxn
      have HXW := Lib.hid (show IntKind.u64.wrap x = x by rw [IntKind.wrap_u64]; omega)
      clear hns hol hlo hval hxt hxc hxci hxx hzt hV hblt hi hxn hxN
      go_wp2
      obtain ⟨wo, hwo⟩ : ∃ wo : World, wo = wr := ⟨_, rfl⟩
      rw [← hwo] at HNS
      rw [← hwo]
      clear hwo wr
      go_loopw [7, 8] (fun cc kk wr => ∃ (k r : Nat) (out : List Int), k ≤ m + 1 ∧ (k = m + 1 → r = 0) ∧ r < 4294967296 ∧ cc = .int .u64 (r : Int) ∧ kk = .int .i64 (k : Int) ∧ out.length = L ∧ Lim out ∧ valL out + 4294967296 ^ (i + k) * (r + x.toNat * valL (ys.drop k)) = V ∧ (k ≤ m → out.getD (i + m) 0 = 0) ∧ NatS w g out wr) (fun _ kk _ => m + 1 - (intOf kk).toNat)
      case atStart => exact ⟨0, 0, out0, by omega, fun h => rfl, by omega, rfl, rfl, HOL.out, HLO.out, HST.out, fun _ => HZT.out, HNS.out⟩
      case round =>
        clear HST HNS HOL HLO HZT
        obtain ⟨k, r, out, hk, hkr, hr1, rfl, rfl, hol, hlo, hval, hzt, hns⟩ := hrel
        by_cases hgo : k < m ∨ 0 < r
        · have hkm : k ≤ m := by
            rcases hgo with h | h
            · omega
            · rcases Nat.lt_or_ge k (m + 1) with h2 | h2
              · omega
              · have := hkr (by omega); omega
          have hyi := HYG.out k
          have hye := HYE.out k
          have hlb := fun W (h : Rd .u32 W W.heap.size B m ys) => HLB.out k W h
          rw [HYD.out k] at hval
          obtain ⟨y, hyy⟩ : ∃ x, ys.getD k 0 = x := ⟨_, rfl⟩
          rw [hyy] at hyi hlb hval hye
          obtain ⟨j, hj⟩ : ∃ j, i + k = j := ⟨_, rfl⟩
          have hjL : j < L := by have := HI1.out; omega
          have hoi := hlo.getD j
          obtain ⟨o, hoo⟩ : ∃ o, out.getD j 0 = o := ⟨_, rfl⟩
          have hoc := fun W (h : NatS w g out W) => h.at_ (j := j) (by omega)
          rw [hoo] at hoi hoc
          have hxb := mul_bound HXB.out (show y.toNat < 4294967296 by omega)
          obtain ⟨t, ht⟩ : ∃ t, x.toNat * y.toNat = t := ⟨_, rfl⟩
          have htI : x * y = (t : Int) := by
            rw [← ht, Int.natCast_mul, HXN.out, Int.toNat_of_nonneg hyi.1]
          rw [ht] at hxb
          obtain ⟨s, hs⟩ : ∃ s : Nat, s = o.toNat + t + r := ⟨_, rfl⟩
          have hsI : o + (t : Int) + (r : Int) = (s : Int) := by omega
          have hmod : (s : Int) % 4294967296 = ((s % 4294967296 : Nat) : Int) := by omega
          have hdiv : (s : Int) / 4294967296 = ((s / 4294967296 : Nat) : Int) := by omega
          have hsb : s < 18446744073709551616 := by omega
          obtain ⟨p, hp⟩ : ∃ p, s % 4294967296 = p := ⟨_, rfl⟩
          obtain ⟨q, hq⟩ : ∃ p, s / 4294967296 = p := ⟨_, rfl⟩
          rw [hp] at hmod
          rw [hq] at hdiv
          have hpq : p + 4294967296 * q = s := by omega
          have hset := valL_set out j (p : Int) (by omega)
          rw [hoo, Int.toNat_natCast] at hset
          rw [hj] at hval
          have hnew := mul_step (4294967296 ^ j) p q r o.toNat x.toNat y.toNat (valL (ys.drop (k + 1))) (valL out) (valL (out.set j (p : Int))) V (by rw [ht]; omega) hset hval
          have HV2 : Hid (valL (out.set j (p : Int)) + 4294967296 ^ (i + (k + 1)) * (q + x.toNat * valL (ys.drop (k + 1))) = V) := Lib.hid (by rw [← Nat.add_assoc, hj, Nat.pow_succ]; exact hnew)
          have HLM2 := Lib.hid (hlo.set j (x := (p : Int)) ⟨by omega, by omega⟩)
          have HL2 : Hid ((out.set j (p : Int)).length = L) := Lib.hid (by rw [List.length_set]; exact hol)
          have HK2 : Hid (k + 1 ≤ m + 1) := Lib.hid (by omega)
          have HQ1 : Hid (q < 4294967296) := Lib.hid (by omega)
          have HK3 : Hid (k + 1 = m + 1 → q = 0) := Lib.hid (fun h => by
            obtain rfl : k = m := by omega
            have h1 := hye (Nat.le_refl _)
            have h2 := hzt (Nat.le_refl _)
            rw [hj, hoo] at h2
            subst h1 h2
            have : t = 0 := by rw [← ht]; rfl
            omega)
          have HZ2 : Hid (k + 1 ≤ m → (out.set j (p : Int)).getD (i + m) 0 = 0) := Lib.hid (fun h => by
            have h2 := hzt hkm
            rw [List.getD_eq_getElem?_getD] at h2 ⊢
            rw [List.getElem?_set_ne (by omega)]
            exact h2)
          have HIK := Lib.hid (show (i : Int) + (k : Int) = (j : Int) by omega)
          have HJW := Lib.hid (show IntKind.i64.wrap (j : Int) = (j : Int) by rw [IntKind.wrap_i64]; omega)
          have HJL := Lib.hid (show (j : Int) < (L : Int) by omega)
          have HOC := Lib.hid hoc
          have HOW := Lib.hid (show IntKind.u64.wrap o = o by rw [IntKind.wrap_u64]; omega)
          have HXC := Lib.hid (fun W (h : NatS w g out W) => HXC0.out W h.bel)
          obtain ⟨xy, hxy⟩ : ∃ z : Int, (t : Int) = z := ⟨_, rfl⟩
          rw [hxy] at htI hsI
          have HXY := Lib.hid htI
          have HXYW := Lib.hid (show IntKind.u64.wrap xy = xy by rw [IntKind.wrap_u64]; omega)
          have HOXW := Lib.hid (show IntKind.u64.wrap (o + xy) = o + xy by rw [IntKind.wrap_u64]; omega)
          have HSI := Lib.hid hsI
          have HSW := Lib.hid (show IntKind.u64.wrap (s : Int) = (s : Int) by rw [IntKind.wrap_u64]; omega)
          have HLB1 := Lib.hid hlb
          have HJS := Lib.hid (nat_lt (out := out) (j := j) (by omega))
          have hpw : IntKind.u32.wrap (p : Int) = (p : Int) := by rw [IntKind.wrap_u32]; omega
          have HPW := Lib.hid hpw
          have HNS := Lib.hid hns
          have hor : ((k : Int) < (m : Int)) ∨ (¬ (k : Int) < (m : Int) ∧ (0 : Int) < (r : Int)) := by omega
          have r1 : (r : Int) ≤ 4294967296 := by omega
          have k1 : (k : Int) ≤ 100001 := by omega
          have j1 : (j : Int) < (L : Int) := by omega
          clear hk hkr hr1 hol hlo hval hzt hns hgo hkm hyi hye hlb hyy hj hjL hoi hoo hoc hxb ht htI hs hsI hp hq hpq hset hnew hxy hsb
          rcases hor with h | ⟨h, h'⟩
          all_goals
            go_wp2
            refine wp_region_held_drew (S := (NatS w g out)) (by kernel_rfl) (HNS.out.drew) (fun hH => ?_)
            refine wpAnyH_letter #[false, false, false, false, false, false, false, false, false, false, false, false, false, false, false, false, false, false, false, false] (by kernel_rfl) (fun _ _ d _ _ h => by cases d <;> exact h) (fun QL HQ1 HQ2 => ?_)
            refine held_v 0 (some 32) rfl (by kernel_rfl) (by kernel_rfl) (by kernel_rfl) (by kernel_rfl) (fun c a v w h => HQ2.out c a _ v w h) (by kernel_rfl) (.slice (some ⟨g, 0, none⟩) L L) (fun W h => by kernel_rfl) hH ?_
            try simp only [Act.put, List.setIfInBounds_toArray, List.set_cons_zero, List.set_cons_succ]
            refine held_v 1 (some 33) rfl (by kernel_rfl) (by kernel_rfl) (by kernel_rfl) (by kernel_rfl) (fun c a v w h => HQ2.out c a _ v w h) (by kernel_rfl) (.int .i64 (i : Int)) (fun W h => by kernel_rfl) hH ?_
            try simp only [Act.put, List.setIfInBounds_toArray, List.set_cons_zero, List.set_cons_succ]
            refine held_v 2 (some 34) rfl (by kernel_rfl) (by kernel_rfl) (by kernel_rfl) (by kernel_rfl) (fun c a v w h => HQ2.out c a _ v w h) (by kernel_rfl) (.int .i64 (k : Int)) (fun W h => by kernel_rfl) hH ?_
            try simp only [Act.put, List.setIfInBounds_toArray, List.set_cons_zero, List.set_cons_succ]
            refine held_v 3 (some 35) rfl (by kernel_rfl) (by kernel_rfl) (by kernel_rfl) (by kernel_rfl) (fun c a v w h => HQ2.out c a _ v w h) (by kernel_rfl) (.int .i64 (j : Int)) (fun W h => by have p := HIK.out; have p2 := HJW.out; go_simp) hH ?_
            try simp only [Act.put, List.setIfInBounds_toArray, List.set_cons_zero, List.set_cons_succ]
            refine held_v 4 (some 36) rfl (by kernel_rfl) (by kernel_rfl) (by kernel_rfl) (by kernel_rfl) (fun c a v w h => HQ2.out c a _ v w h) (by kernel_rfl) (.pointer (some ⟨g, j, none⟩)) (fun W h => by have p := HJL.out; go_simp) hH ?_
            try simp only [Act.put, List.setIfInBounds_toArray, List.set_cons_zero, List.set_cons_succ]
            refine held_v 5 (some 37) rfl (by kernel_rfl) (by kernel_rfl) (by kernel_rfl) (by kernel_rfl) (fun c a v w h => HQ2.out c a _ v w h) (by kernel_rfl) (.int .u32 o) (fun W h => by have p := HOC.out W h; go_simp) hH ?_
            try simp only [Act.put, List.setIfInBounds_toArray, List.set_cons_zero, List.set_cons_succ]
            refine held_v 6 (some 38) rfl (by kernel_rfl) (by kernel_rfl) (by kernel_rfl) (by kernel_rfl) (fun c a v w h => HQ2.out c a _ v w h) (by kernel_rfl) (.int .u64 o) (fun W h => by have p := HOW.out; go_simp) hH ?_
            try simp only [Act.put, List.setIfInBounds_toArray, List.set_cons_zero, List.set_cons_succ]
            refine held_v 7 (some 39) rfl (by kernel_rfl) (by kernel_rfl) (by kernel_rfl) (by kernel_rfl) (fun c a v w h => HQ2.out c a _ v w h) (by kernel_rfl) (.slice (some ⟨b, off, none⟩) n c) (fun W h => by kernel_rfl) hH ?_
            try simp only [Act.put, List.setIfInBounds_toArray, List.set_cons_zero, List.set_cons_succ]
            refine held_v 8 (some 40) rfl (by kernel_rfl) (by kernel_rfl) (by kernel_rfl) (by kernel_rfl) (fun c a v w h => HQ2.out c a _ v w h) (by kernel_rfl) (.int .i64 (i : Int)) (fun W h => by kernel_rfl) hH ?_
            try simp only [Act.put, List.setIfInBounds_toArray, List.set_cons_zero, List.set_cons_succ]
            refine held_v 9 (some 41) rfl (by kernel_rfl) (by kernel_rfl) (by kernel_rfl) (by kernel_rfl) (fun c a v w h => HQ2.out c a _ v w h) (by kernel_rfl) (.pointer (some ⟨b, off + i, none⟩)) (fun W h => by have p := HIN.out; go_simp) hH ?_
            try simp only [Act.put, List.setIfInBounds_toArray, List.set_cons_zero, List.set_cons_succ]
            refine held_v 10 (some 42) rfl (by kernel_rfl) (by kernel_rfl) (by kernel_rfl) (by kernel_rfl) (fun c a v w h => HQ2.out c a _ v w h) (by kernel_rfl) (.int .u32 x) (fun W h => by have p := HXC.out W h; go_simp) hH ?_
            try simp only [Act.put, List.setIfInBounds_toArray, List.set_cons_zero, List.set_cons_succ]
            refine held_v 11 (some 43) rfl (by kernel_rfl) (by kernel_rfl) (by kernel_rfl) (by kernel_rfl) (fun c a v w h => HQ2.out c a _ v w h) (by kernel_rfl) (.int .u64 x) (fun W h => by have p := HXW.out; go_simp) hH ?_
            try simp only [Act.put, List.setIfInBounds_toArray, List.set_cons_zero, List.set_cons_succ]
            refine held_v 12 (some 44) rfl (by kernel_rfl) (by kernel_rfl) (by kernel_rfl) (by kernel_rfl) (fun c a v w h => HQ2.out c a _ v w h) (by kernel_rfl) (.slice B m d) (fun W h => by kernel_rfl) hH ?_
            try simp only [Act.put, List.setIfInBounds_toArray, List.set_cons_zero, List.set_cons_succ]
            refine held_v 13 (some 45) rfl (by kernel_rfl) (by kernel_rfl) (by kernel_rfl) (by kernel_rfl) (fun c a v w h => HQ2.out c a _ v w h) (by kernel_rfl) (.int .i64 (k : Int)) (fun W h => by kernel_rfl) hH ?_
            try simp only [Act.put, List.setIfInBounds_toArray, List.set_cons_zero, List.set_cons_succ]
            refine held_v 17 (some 49) rfl (by kernel_rfl) (by kernel_rfl) (by kernel_rfl) (by kernel_rfl) (fun c a v w h => HQ2.out c a _ v w h) (by kernel_rfl) (.int .u64 (r : Int)) (fun W h => by kernel_rfl) hH ?_
            try simp only [Act.put, List.setIfInBounds_toArray, List.set_cons_zero, List.set_cons_succ]
            refine wpAnyH_ready (rs := [14]) (by kernel_rfl) (by decide) ?_
            refine AllReadyH.cons rfl (fun K hK => ?_) AllReadyH.nil
            refine step_call (some 46) (by kernel_rfl) (by kernel_rfl) _ _ (by kernel_rfl) _ (HLB1.out _ (HRB.out.below (NatS.bel hH)).fit) ?_
            rintro e _ ⟨rfl, rfl⟩
            refine ⟨_, rfl, ?_⟩
            refine hK.out _ _ hH (fun _ => ?_)
            clear hK K
            try simp only [Act.put, List.setIfInBounds_toArray, List.set_cons_zero, List.set_cons_succ]
            refine held_v 15 (some 47) rfl (by kernel_rfl) (by kernel_rfl) (by kernel_rfl) (by kernel_rfl) (fun c a v w h => HQ2.out c a _ v w h) (by kernel_rfl) (.int .u64 xy) (fun W h => by have p := HXY.out; have p2 := HXYW.out; go_simp) hH ?_
            try simp only [Act.put, List.setIfInBounds_toArray, List.set_cons_zero, List.set_cons_succ]
            refine held_v 16 (some 48) rfl (by kernel_rfl) (by kernel_rfl) (by kernel_rfl) (by kernel_rfl) (fun c a v w h => HQ2.out c a _ v w h) (by kernel_rfl) (.int .u64 (o + xy)) (fun W h => by have p := HOXW.out; go_simp) hH ?_
            try simp only [Act.put, List.setIfInBounds_toArray, List.set_cons_zero, List.set_cons_succ]
            refine held_v 18 (some 50) rfl (by kernel_rfl) (by kernel_rfl) (by kernel_rfl) (by kernel_rfl) (fun c a v w h => HQ2.out c a _ v w h) (by kernel_rfl) (.int .u64 (s : Int)) (fun W h => by have p := HSI.out; have p2 := HSW.out; go_simp) hH ?_
            try simp only [Act.put, List.setIfInBounds_toArray, List.set_cons_zero, List.set_cons_succ]
            refine held_v 19 (some 9) rfl (by kernel_rfl) (by kernel_rfl) (by kernel_rfl) (by kernel_rfl) (fun c a v w h => HQ2.out c a _ v w h) (by kernel_rfl) (.int .u64 (s : Int)) (fun W h => by kernel_rfl) hH ?_
            try simp only [Act.put, List.setIfInBounds_toArray, List.set_cons_zero, List.set_cons_succ]
            refine wpAnyH_done (by kernel_rfl) ?_ _
            refine HQ1.out _ _ ?_
            clear HQ1 HQ2
            have HH := Lib.hid hH
            have e1 := HIK.out
            have e2 := HPW.out
            have e3 : IntKind.u64.wrap (q : Int) = (q : Int) := by have := HQ1.out; rw [IntKind.wrap_u64]; omega
            go_wp2_with (first
              | (with_reducible refine at_any ?_; refine at_store 60 rfl ?_; refine wpList_store_cell rfl 89 (.tmp 60) (.tmp 57) rfl g j rfl 89 (intsA .u32 out) (NatS.blk HH.out) (.int .u32 (p : Int)) rfl HJS.out size_u32s rfl rfl ?_; intro w90 hk90 ho90; have HF9 := Lib.hid (NatS.set HH.out hk90.out ho90); clear hk90 ho90))
            go_roundw
            case rel => exact ⟨k + 1, q, _, HK2.out, HK3.out, HQ1.out, rfl, by go_num, HL2.out, HLM2.out, HV2.out, HZ2.out, HF9.out⟩
            case measure => have := HK2.out; simp [intOf]; omega
        · obtain rfl : r = 0 := by omega
          have hVt := hval
          rw [HDY.out k (by omega), Nat.mul_zero, Nat.zero_add, Nat.mul_zero, Nat.add_zero] at hVt
          have HVT := Lib.hid (hVt.trans HVV.out)
          have HOL2 := Lib.hid hol
          have HLO2 := Lib.hid hlo
          have HN2 := Lib.hid hns
          have h1 : (m : Int) ≤ (k : Int) := by omega
          clear hk hkr hr1 hol hlo hval hzt hns hgo hVt
          go_wp2
          go_roundw
          case rel => exact ⟨i + 1, _, HI1.out, by go_num, HOL2.out, HLO2.out, HVT.out, HN2.out⟩
          case measure => have := HI1.out; simp [intOf]; omega
    · obtain rfl : i = n := by omega
      rw [htk] at hval
      have hrd7 := hns.rd
      have htr := r10trim_c out0 (some ⟨g, 0, none⟩) out0.length L (by unfold maxLen; omega) (by omega) wr hrd7
      have hrt := rd_trim hrd7
      have htl := trimL_len out0
      rw [trimL_eq hlo, hval] at htr hrt htl
      rw [hol] at htr htl
      have HTR := Lib.hid htr
      have HRT := Lib.hid hrt
      have HTL := Lib.hid htl
      have HBL := Lib.hid hns.bel
      have HML : Hid (L ≤ maxLen) := Lib.hid (by unfold maxLen; omega)
      clear htr hrt htl hrd7 hval hlo hol hns
      go_wp2_with (first
        | (go_at_call 57; (with_reducible refine HTR.out.mono ?_); rintro e _ ⟨rfl, rfl⟩))
      go_ret
      exact ⟨_, _, rfl, HTL.out, HML.out, HRT.out, HBL.out⟩
end
section
open Go.ChangeShapes Go.WideShapes Go.ChangeAt Go.RowKit
set_option maxHeartbeats 2000000 in
theorem r10same_c (xs ys : List Int) (A B : Option Addr) (n m c d : Nat) (hn : n ≤ maxLen) (hm : m ≤ maxLen) (w : World) (hra : Rd .u32 w w.heap.size A n xs) (hrb : Rd .u32 w w.heap.size B m ys) : Calls Tryz.prog 19 #[.slice A n c, .slice B m d] w fun e w' => e = .returned (.bool (decide (xs = ys))) ∧ Below w.heap.size w w' := by
  have HA := Lib.hid hra
  have HB := Lib.hid hrb
  have hla := hra.len
  have hlb := hrb.len
  have hnm : (n : Int) ≤ 9223372036854775807 := by unfold maxLen at hn; omega
  clear hra hrb hn hm
  by_cases hl : n = m
  · subst hl
    have t0 : ((n : Int) != (n : Int)) = false := by simp
    go_enter Tryz.func19, Tryz.ntmps19
    go_wp2
    go_loopw [5] (fun i wr => ∃ k : Nat, k ≤ n ∧ i = .int .i64 (k : Int) ∧ (∀ j, j < k → xs.getD j 0 = ys.getD j 0) ∧ Below w.heap.size w wr) (fun i _ => n - (intOf i).toNat)
    case atStart => exact ⟨0, by omega, rfl, fun j h => absurd h (by omega), Below.refl _ _⟩
    case round =>
      obtain ⟨k, hk, rfl, heq, hbl⟩ := hrel
      have HEQ := Lib.hid heq
      have HBL := Lib.hid hbl
      by_cases hlt : k < n
      · obtain ⟨b1, o1, rfl, _, hc1⟩ := (HA.out.below hbl).at_ (by omega)
        obtain ⟨b2, o2, rfl, _, hc2⟩ := (HB.out.below hbl).at_ (by omega)
        have hk1 := hc1 k hlt
        have hk2 := hc2 k hlt
        obtain ⟨x, hx⟩ : ∃ x, xs.getD k 0 = x := ⟨_, rfl⟩
        obtain ⟨y, hy⟩ : ∃ y, ys.getD k 0 = y := ⟨_, rfl⟩
        rw [hx] at hk1
        rw [hy] at hk2
        have i0 : (0 : Int) ≤ (k : Int) := by omega
        have i1 : (k : Int) < (n : Int) := by omega
        clear heq hbl hc1 hc2
        by_cases hxy : x = y
        · subst hxy
          have HK : ∀ j, j < k + 1 → xs.getD j 0 = ys.getD j 0 := fun j hj => by
            by_cases h : j = k
            · rw [h, hx, hy]
            · exact HEQ.out j (by omega)
          have HKK := Lib.hid HK
          have t1 : (x != x) = false := by simp
          clear hx hy HEQ HK
          go_wp2
          go_quiet (fail)
          go_wp2
          go_roundw
          case rel => exact ⟨k + 1, by omega, by go_num, HKK.out, HBL.out.trans (below_drewN (Below.refl _ _) _)⟩
          case measure => simp [intOf]; omega
        · have hne : ¬ xs = ys := fun h => hxy (by rw [← hx, ← hy, h])
          have t1 : (x != y) = true := by simp [bne, hxy]
          have HNE := Lib.hid hne
          clear hx hy HEQ hne
          go_wp2
          go_quiet (fail)
          go_wp2
          go_ret
          exact ⟨ret_boolN (decide_eq_false HNE.out).symm, below_drewN HBL.out _⟩
      · have hxy : xs = ys := ext_getDN (by omega) fun j hj => heq j (by omega)
        obtain rfl : k = n := by omega
        have HXY := Lib.hid hxy
        clear heq hbl hxy
        go_wp2
        go_ret
        exact ⟨ret_boolN (decide_eq_true HXY.out).symm, HBL.out⟩
  · have t0 : ((n : Int) != (m : Int)) = true := by simp [bne]; omega
    have hne : ¬ xs = ys := fun h => hl (by rw [← hla, ← hlb, h])
    have HNE := Lib.hid hne
    clear hne
    go_enter Tryz.func19, Tryz.ntmps19
    go_wp2
    go_ret
    exact ⟨ret_boolN (decide_eq_false HNE.out).symm, Below.refl _ _⟩
end
section
open Go.ChangeShapes Go.WideShapes Go.ChangeAt Go.RowKit
theorem tapeOf_okX (zs : List Int) (hl : zs.length ≤ 1000) (hz : ∀ z ∈ zs, 0 ≤ z ∧ z < 256) (b : Int) (b0 : 0 ≤ b) (b1 : b < 18446744073709551616) : (Src.tapeOf zs b).Ok :=
  ⟨(by show (-9223372036854775808 : Int) ≤ 1; omega), (by show (1 : Int) < 9223372036854775808; omega), (by show zs.length ≤ _; omega), hz, b0, b1, rfl, (fun z h => by obtain ⟨_, rfl⟩ := List.mem_replicate.1 h; exact ⟨by omega, by omega⟩), Int.le_refl _, (by show (0 : Int) < 18446744073709551616; omega), Int.le_refl _, (by show (0 : Int) < 18446744073709551616; omega)⟩
set_option maxHeartbeats 8000000 in
theorem aliveT_c (w : World) (hkst : Kst w) : Calls Tryz.prog 9 #[] w fun e w' => e = .returned (.bool true) ∧ Below w.heap.size w w' := by
  have ok1 := tapeOf_okX [96] (by simp) (by decide) 8 (by omega) (by omega)
  have hTP : ∀ A W, Rd .u8 W W.heap.size A 1 [96] → Calls Tryz.prog 41 #[.slice A 1 1, .int .u64 8] W (fun e w' => ∃ A' c', e = .returned (.tuple #[.agg (srcV (Src.tapeOf [96] 8) A' c'), .int .i64 0]) ∧ Rd .u8 w' w'.heap.size A' 1 [96] ∧ 1 ≤ c' ∧ c' ≤ maxLen ∧ Below W.heap.size W w') := fun A W h => qstape_c [96] (by simp) 8 (by omega) (by omega) A 1 1 W h (Nat.le_refl _)
  have hBU := fun A c W (hT : TzT W) h => calls_fen (ts' := treeL [3, 0, 2]) (er' := 0) (n := 3) (q11build_c [3, 0, 2] (by decide) A 3 c (by simp [maxLen]) W hT h) (by decide +kernel) (by decide +kernel) (by decide +kernel)
  have hLD : ∀ AF c, 3 ≤ c → c ≤ maxLen → ∀ A c0, 1 ≤ c0 → c0 ≤ maxLen → ∀ W, Rd .u64 W W.heap.size AF 3 (treeL [3, 0, 2]) → Rd .u8 W W.heap.size A 1 [96] → Kst W → Calls Tryz.prog 15 #[.agg #[.slice AF 3 c], .agg (srcV (Src.tapeOf [96] 8) A c0), .int .i64 2] W (fun e w' => ∃ A' c', e = .returned (.tuple #[.int .i64 2, .agg (srcV ((Src.tapeOf [96] 8).to 3) A' c'), .int .i64 0]) ∧ Rd .u8 w' w'.heap.size A' 1 [96] ∧ 1 ≤ c' ∧ c' ≤ maxLen ∧ Sep W A A' ∧ Below W.heap.size W w') := fun AF c g1 g2 A c0 h1 h2 W h0 h3 h4 => by
    have h := q13draw_c [3, 0, 2] (by decide) (by decide) (by decide) AF 3 c rfl g1 g2 (Src.tapeOf [96] 8) ok1 2 (by omega) (by omega) A c0 h1 h2 W h0 h3 h4
    unfold RetLead at h
    rw [show ledT [3, 0, 2] (Src.tapeOf [96] 8) 2 = (2, (Src.tapeOf [96] 8).to 3, 0) by kernel_rfl] at h
    exact h
  have hPL : ∀ AL c A c0, 1 ≤ c0 → c0 ≤ maxLen → ∀ W, Rd .u64 W W.heap.size AL 3 [3, 0, 2] → Rd .u8 W W.heap.size A 1 [96] → Kst W → Calls Tryz.prog 43 #[.agg (srcV (Src.tapeOf [96] 8) A c0), .int .i64 2, .slice AL 3 c] W (fun e w' => ∃ A' c', e = .returned (.tuple #[.int .i64 2, .agg (srcV ((Src.tapeOf [96] 8).to 4) A' c'), .int .i64 0]) ∧ Rd .u8 w' w'.heap.size A' 1 [96] ∧ 1 ≤ c' ∧ c' ≤ maxLen ∧ Sep W A A' ∧ Below W.heap.size W w') := fun AL c A c0 h1 h2 W h0 h3 h4 => by
    have h := q15list_c [3, 0, 2] (by decide) AL 3 c (by omega) (Src.tapeOf [96] 8) ok1 2 (by omega) (by omega) A c0 h1 h2 W h0 h3 h4
    unfold RetLead at h
    rw [show pikR [3, 0, 2] (Src.tapeOf [96] 8) 2 = (2, (Src.tapeOf [96] 8).to 4, 0) by kernel_rfl] at h
    exact h
  have hCD : ∀ AF c, 3 ≤ c → c ≤ maxLen → ∀ A c0, 1 ≤ c0 → c0 ≤ maxLen → ∀ W, Rd .u64 W W.heap.size AF 3 (treeL [3, 0, 2]) → Rd .u8 W W.heap.size A 1 [96] → Kst W → Calls Tryz.prog 36 #[.agg #[.slice AF 3 c], .int .i64 2, .agg (srcV (Src.tapeOf [96] 8) A c0), .int .i64 2] W (fun e w' => ∃ A' c' AM cM, e = .returned (.tuple #[.slice AM 2 cM, .agg (srcV ((Src.tapeOf [96] 8).to 5) A' c'), .int .i64 0]) ∧ Rd .i64 w' w'.heap.size AM 2 [2, 0] ∧ 2 ≤ cM ∧ cM ≤ maxLen ∧ Frs W AM ∧ Rd .u8 w' w'.heap.size A' 1 [96] ∧ 1 ≤ c' ∧ c' ≤ maxLen ∧ Sep W A A' ∧ Below W.heap.size W w') := fun AF c g1 g2 A c0 h1 h2 W h0 h3 h4 => by
    have h := q17draw_c [3, 0, 2] (by decide) (by decide) (by decide) AF 3 c rfl g1 g2 2 (by omega) (by omega) (Src.tapeOf [96] 8) ok1 2 (by omega) (by omega) A c0 h1 h2 W h0 h3 h4
    unfold RetComm at h
    rw [show comR [3, 0, 2] 2 (Src.tapeOf [96] 8) 2 = ([2, 0], (Src.tapeOf [96] 8).to 5, 0) by kernel_rfl] at h
    exact h
  have hOL := fun A c (W : World) (h : Rd .u64 W W.heap.size A 3 [3, 0, 2]) => q16lead_c 0 (by omega) (by omega) 2 (by omega) (by omega) [3, 0, 2] (by decide) A 3 c (by omega) W h
  rw [show leadR' 0 2 [3, 0, 2] = (0, [33]) by show ((0 : Int), natL ((3 : Int).toNat * eachV 5 2)) = _; rw [show (3 : Int).toNat * eachV 5 2 = 33 by decide +kernel, natL_pos (by decide), show 33 / 4294967296 = 0 by decide, natL_zero]; rfl] at hOL
  unfold RetNE at hOL
  dsimp only [List.length_cons, List.length_nil] at hOL
  have hs1 := fun A B c d (W : World) (h1 : Rd .i64 W W.heap.size A 2 [2, 0]) (h2 : Rd .i64 W W.heap.size B 2 [2, 0]) => r17same_c [2, 0] [2, 0] A B 2 2 c d (by simp [maxLen]) (by simp [maxLen]) W h1 h2
  rw [decide_eq_true (show ([2, 0] : List Int) = [2, 0] from rfl)] at hs1
  have hs2 := fun A B c d (W : World) (h1 : Rd .u32 W W.heap.size A 1 [33]) (h2 : Rd .u32 W W.heap.size B 1 [33]) => r10same_c [33] [33] A B 1 1 c d (by simp [maxLen]) (by simp [maxLen]) W h1 h2
  rw [decide_eq_true (show ([33] : List Int) = [33] from rfl)] at hs2
  have hc4 := fun (W : World) (g : Nat) A c (h : Blk W g 40 (srcV ((Src.tapeOf [96] 8).to 4) A c)) => (h.cell 36).trans (srcV_at ((Src.tapeOf [96] 8).to 4) rfl A c)
  rw [show ((Src.tapeOf [96] 8).to 4).at_ = 4 from rfl] at hc4
  have hl0 : (Src.tapeOf [96] 8).seed.length = 32 := rfl
  have hm3 : ((Src.tapeOf [96] 8).to 3).seed.length = 32 := rfl
  have hm4 : ((Src.tapeOf [96] 8).to 4).seed.length = 32 := rfl
  have hm5 : ((Src.tapeOf [96] 8).to 5).seed.length = 32 := rfl
  have HZZ := Lib.hid (fun (s : Src) (h : s.seed.length = 32) (A : Option Addr) (c : Nat) => srcV_same Src.zero s rfl h none A 0 c)
  have HZ0 := Lib.hid zero_src
  obtain ⟨T3, hT3'⟩ : ∃ S, (Src.tapeOf [96] 8).to 3 = S := ⟨_, rfl⟩
  obtain ⟨T4, hT4'⟩ : ∃ S, (Src.tapeOf [96] 8).to 4 = S := ⟨_, rfl⟩
  obtain ⟨T5, hT5'⟩ : ∃ S, (Src.tapeOf [96] 8).to 5 = S := ⟨_, rfl⟩
  rw [hT3'] at hLD hm3
  rw [hT4'] at hPL hc4 hm4
  rw [hT5'] at hCD hm5
  obtain ⟨S1, hS1⟩ : ∃ S, (Src.tapeOf [96] 8) = S := ⟨_, rfl⟩
  rw [hS1] at hTP hLD hPL hCD hl0
  obtain ⟨Z, hZ⟩ : ∃ Z, srcV Src.zero none 0 = Z := ⟨_, rfl⟩
  rw [hZ] at HZ0 HZZ
  obtain ⟨TF, hTF⟩ : ∃ x, treeL [3, 0, 2] = x := ⟨_, rfl⟩
  rw [hTF] at hBU hLD hCD
  have HLS1 := Lib.hid hl0
  have HLT3 := Lib.hid hm3
  have HLT4 := Lib.hid hm4
  have HLT5 := Lib.hid hm5
  have HTP := Lib.hid hTP
  have HBU := Lib.hid hBU
  have HLD := Lib.hid hLD
  have HPL := Lib.hid hPL
  have HCD := Lib.hid hCD
  have HOL := Lib.hid hOL
  have HS1 := Lib.hid hs1
  have HS2 := Lib.hid hs2
  have HC4 := Lib.hid hc4
  have HKS := Lib.hid hkst
  have G0 := Lib.hid (Fx.bel0 w)
  clear ok1 hTP hBU hLD hPL hCD hOL hs1 hs2 hc4 hl0 hm3 hm4 hm5 hT3' hT4' hT5' hS1 hZ hTF hkst
  go_enter Tryz.func9, Tryz.ntmps9
  go_wp2_with (first
    | (go_at_call 41; (with_reducible refine (HTP.out _ _ (Rd.fit (rd_one _ _ _ _))).mono ?_); rintro e w1 ⟨A1, c1, rfl, hrw1, hlw1, hmw1, hbw1⟩; have lc1 := Lib.hid hlw1; have mc1 := Lib.hid hmw1; have G2 := Lib.hid (Fx.addR (Fx.alloc G0.out _) hbw1 hrw1); clear G0; clear hrw1 hbw1 hlw1 hmw1)
    | (with_reducible refine at_any ?_; refine at_dst 1 rfl ?_; refine wpList_alloc_any rfl 40 rfl Z HZ0.out ?_; intro w3 hkw3 hsw3 hbw3; have U4 := Lib.hid (Fx.under_new G2.out rfl); have G5 := Lib.hid (Fx.newB G2.out hkw3.out hbw3); clear G2; clear hkw3 hsw3 hbw3)
    | (with_reducible refine at_any ?_; refine at_store 1 rfl ?_; refine wpList_store_any rfl 40 (.tmp 1) (.tmp 19) rfl w1.heap.size rfl 40 Z (srcV S1 A1 c1) (Fx.b0 G5.out) rfl (HZZ.out S1 HLS1.out _ _) (sizedS S1 HLS1.out _ _) (srcV_ones _ _ _) ?_; intro w6 hkw6 hsw6 hbw6 how6; have G7 := Lib.hid (Fx.put1B G5.out U4.out hkw6.out hsw6.out hbw6 how6); clear G5; clear hkw6 hsw6 hbw6 how6)
    | (with_reducible refine at_any ?_; refine at_dst 22 rfl ?_; refine wpList_build3 (by kernel_rfl) (.const (.int .u64 3)) (.const (.int .u64 0)) (.const (.int .u64 2)) rfl 3 0 2 rfl rfl rfl ?_; intro gl9 w8 hrw8 hbw8; have G10 := Lib.hid (Fx.addR G7.out hbw8 hrw8); clear G7; clear hrw8 hbw8)
    | (go_at_call 13; (with_reducible refine (HBU.out _ _ _ (Kst.tz (HKS.out.below (Fx.e3 G10.out))) (Fx.r0 G10.out)).mono ?_); rintro e w11 ⟨A12, c13, rfl, hrw11, hlw11, hmw11, hbw11⟩; have lc13 := Lib.hid hlw11; have mc13 := Lib.hid hmw11; have G14 := Lib.hid (Fx.addR G10.out hbw11 hrw11); clear G10; clear hrw11 hbw11 hlw11 hmw11)
    | (with_reducible refine at_any ?_; refine at_dst 3 rfl ?_; refine wpList_alloc_any rfl 32 rfl #[.slice none 0 0] zero_fen ?_; intro w15 hkw15 hsw15 hbw15; have U16 := Lib.hid (Fx.under_new G14.out rfl); have G17 := Lib.hid (Fx.newB G14.out hkw15.out hbw15); clear G14; clear hkw15 hsw15 hbw15)
    | (with_reducible refine at_any ?_; refine at_store 3 rfl ?_; refine wpList_store_any rfl 32 (.tmp 3) (.tmp 24) rfl w11.heap.size rfl 32 #[.slice none 0 0] (#[.slice A12 3 c13]) (Fx.b0 G17.out) rfl (size1 _ _) (sizedF _) (fen_ones _ _ _) ?_; intro w18 hkw18 hsw18 hbw18 how18; have G19 := Lib.hid (Fx.put1B G17.out U16.out hkw18.out hsw18.out hbw18 how18); clear G17; clear hkw18 hsw18 hbw18 how18)
    | (with_reducible refine at_any ?_; refine at_dst 27 rfl ?_; refine wpList_load_fen (by kernel_rfl) (.tmp 3) rfl w11.heap.size rfl 32 (.slice A12 3 c13) (Fx.b0 G19.out) ?_)
    | (with_reducible refine at_any ?_; refine at_dst 28 rfl ?_; refine wpList_load_blk rfl 40 (.tmp 1) rfl w1.heap.size rfl 40 (srcV S1 A1 c1) (Fx.b3 G19.out) _ Tryz.underlying40 rfl (sizedS S1 HLS1.out _ _) ?_)
    | (go_at_call 15; (with_reducible refine (HLD.out _ _ lc13.out mc13.out _ _ lc1.out mc1.out _ (Fx.r1 G19.out) (Fx.r4 G19.out) (HKS.out.below (Fx.e5 G19.out))).mono ?_); rintro e w20 ⟨A21, c22, rfl, hrw20, hlw20, hmw20, _, hbw20⟩; have lc22 := Lib.hid hlw20; have mc22 := Lib.hid hmw20; have G23 := Lib.hid (Fx.addR G19.out hbw20 hrw20); clear G19; clear hrw20 hbw20 hlw20 hmw20)
    | (with_reducible refine at_any ?_; refine at_dst 6 rfl ?_; refine wpList_alloc_any rfl 40 rfl Z HZ0.out ?_; intro w24 hkw24 hsw24 hbw24; have U25 := Lib.hid (Fx.under_new G23.out rfl); have G26 := Lib.hid (Fx.newB G23.out hkw24.out hbw24); clear G23; clear hkw24 hsw24 hbw24)
    | (with_reducible refine at_any ?_; refine at_store 6 rfl ?_; refine wpList_store_any rfl 40 (.tmp 6) (.tmp 31) rfl w20.heap.size rfl 40 Z (srcV T3 A21 c22) (Fx.b0 G26.out) rfl (HZZ.out T3 HLT3.out _ _) (sizedS T3 HLT3.out _ _) (srcV_ones _ _ _) ?_; intro w27 hkw27 hsw27 hbw27 how27; have G28 := Lib.hid (Fx.put1B G26.out U25.out hkw27.out hsw27.out hbw27 how27); clear G26; clear hkw27 hsw27 hbw27 how27)
    | (with_reducible refine at_any ?_; refine at_dst 34 rfl ?_; refine wpList_load_blk rfl 40 (.tmp 1) rfl w1.heap.size rfl 40 (srcV S1 A1 c1) (Fx.b5 G28.out) _ Tryz.underlying40 rfl (sizedS S1 HLS1.out _ _) ?_)
    | (with_reducible refine at_any ?_; refine at_dst 35 rfl ?_; refine wpList_build3 (by kernel_rfl) (.const (.int .u64 3)) (.const (.int .u64 0)) (.const (.int .u64 2)) rfl 3 0 2 rfl rfl rfl ?_; intro gl30 w29 hrw29 hbw29; have G31 := Lib.hid (Fx.addR G28.out hbw29 hrw29); clear G28; clear hrw29 hbw29)
    | (go_at_call 43; (with_reducible refine (HPL.out _ _ _ _ lc1.out mc1.out _ (Fx.r0 G31.out) (Fx.r7 G31.out) (HKS.out.below (Fx.e8 G31.out))).mono ?_); rintro e w32 ⟨A33, c34, rfl, hrw32, hlw32, hmw32, _, hbw32⟩; have lc34 := Lib.hid hlw32; have mc34 := Lib.hid hmw32; have G35 := Lib.hid (Fx.addR G31.out hbw32 hrw32); clear G31; clear hrw32 hbw32 hlw32 hmw32)
    | (with_reducible refine at_any ?_; refine at_dst 9 rfl ?_; refine wpList_alloc_any rfl 40 rfl Z HZ0.out ?_; intro w36 hkw36 hsw36 hbw36; have U37 := Lib.hid (Fx.under_new G35.out rfl); have G38 := Lib.hid (Fx.newB G35.out hkw36.out hbw36); clear G35; clear hkw36 hsw36 hbw36)
    | (with_reducible refine at_any ?_; refine at_store 9 rfl ?_; refine wpList_store_any rfl 40 (.tmp 9) (.tmp 38) rfl w32.heap.size rfl 40 Z (srcV T4 A33 c34) (Fx.b0 G38.out) rfl (HZZ.out T4 HLT4.out _ _) (sizedS T4 HLT4.out _ _) (srcV_ones _ _ _) ?_; intro w39 hkw39 hsw39 hbw39 how39; have G40 := Lib.hid (Fx.put1B G38.out U37.out hkw39.out hsw39.out hbw39 how39); clear G38; clear hkw39 hsw39 hbw39 how39)
    | (with_reducible refine at_any ?_; refine at_dst 41 rfl ?_; refine wpList_load_fen (by kernel_rfl) (.tmp 3) rfl w11.heap.size rfl 32 (.slice A12 3 c13) (Fx.b5 G40.out) ?_)
    | (with_reducible refine at_any ?_; refine at_dst 42 rfl ?_; refine wpList_load_blk rfl 40 (.tmp 1) rfl w1.heap.size rfl 40 (srcV S1 A1 c1) (Fx.b8 G40.out) _ Tryz.underlying40 rfl (sizedS S1 HLS1.out _ _) ?_)
    | (go_at_call 36; (with_reducible refine (HCD.out _ _ lc13.out mc13.out _ _ lc1.out mc1.out _ (Fx.r6 G40.out) (Fx.r9 G40.out) (HKS.out.below (Fx.e10 G40.out))).mono ?_); rintro e w41 ⟨A42, c43, M44, d45, rfl, hnw41, _, _, _, hrw41, hlw41, hmw41, _, hbw41⟩; have lc43 := Lib.hid hlw41; have mc43 := Lib.hid hmw41; have G46 := Lib.hid (Fx.addR (Fx.addR G40.out hbw41 hrw41) (Below.refl _ _) hnw41); clear G40; clear hrw41 hbw41 hlw41 hmw41 hnw41)
    | (with_reducible refine at_any ?_; refine at_dst 12 rfl ?_; refine wpList_alloc_any rfl 40 rfl Z HZ0.out ?_; intro w47 hkw47 hsw47 hbw47; have U48 := Lib.hid (Fx.under_new G46.out rfl); have G49 := Lib.hid (Fx.newB G46.out hkw47.out hbw47); clear G46; clear hkw47 hsw47 hbw47)
    | (with_reducible refine at_any ?_; refine at_store 12 rfl ?_; refine wpList_store_any rfl 40 (.tmp 12) (.tmp 45) rfl w41.heap.size rfl 40 Z (srcV T5 A42 c43) (Fx.b0 G49.out) rfl (HZZ.out T5 HLT5.out _ _) (sizedS T5 HLT5.out _ _) (srcV_ones _ _ _) ?_; intro w50 hkw50 hsw50 hbw50 how50; have G51 := Lib.hid (Fx.put1B G49.out U48.out hkw50.out hsw50.out hbw50 how50); clear G49; clear hkw50 hsw50 hbw50 how50)
    | (with_reducible refine at_any ?_; refine at_dst 48 rfl ?_; refine wpList_build3 (by kernel_rfl) (.const (.int .u64 3)) (.const (.int .u64 0)) (.const (.int .u64 2)) rfl 3 0 2 rfl rfl rfl ?_; intro gl53 w52 hrw52 hbw52; have G54 := Lib.hid (Fx.addR G51.out hbw52 hrw52); clear G51; clear hrw52 hbw52)
    | (go_at_call 18; (with_reducible refine (HOL.out _ _ _ (Fx.r0 G54.out)).mono ?_); rintro e w55 ⟨A56, c57, rfl, hlw55, hmw55, hrw55, hbw55⟩; have lc57 := Lib.hid hlw55; have mc57 := Lib.hid hmw55; have G58 := Lib.hid (Fx.addR G54.out hbw55 hrw55); clear G54; clear hrw55 hbw55 hlw55 hmw55; have z9 := HC4.out _ _ A33 c34 (Fx.b5 G58.out))
    | (go_at_call 35; (with_reducible refine (HS1.out _ _ _ _ _ (Fx.r4 (Fx.lit2i G58.out 2 0)) (Fx.r0 (Fx.lit2i G58.out 2 0))).mono ?_); rintro e w59 ⟨rfl, hbw59⟩; have G60 := Lib.hid (Fx.below (Fx.lit2i G58.out 2 0) hbw59); clear G58; clear hbw59)
    | (go_at_call 19; (with_reducible refine (HS2.out _ _ _ _ _ (Fx.r2 (Fx.lit1n G60.out 33)) (Fx.r0 (Fx.lit1n G60.out 33))).mono ?_); rintro e w61 ⟨rfl, hbw61⟩; have G62 := Lib.hid (Fx.below (Fx.lit1n G60.out 33) hbw61); clear G60; clear hbw61))
  go_ret
  exact ⟨rfl, (Fx.e17 G62.out)⟩
end
section
open Go.ChangeShapes Go.WideShapes Go.ChangeAt Go.RowKit
theorem r8pow_c (x n : Nat) (hb : ∀ i, i ≤ n → x ^ i < 18446744073709551616) (hn : n ≤ 1000) (w : World) : Calls Tryz.prog 14 #[.int .u64 (x : Int), .int .i64 (n : Int)] w fun e w' => e = .returned (.int .u64 ((x ^ n : Nat) : Int)) ∧ w = w' := by
  have HB := Lib.hid hb
  clear hb
  go_enter Tryz.func14, Tryz.ntmps14
  go_wp2
  go_loop [5, 6] (fun v cc => ∃ i : Nat, i ≤ n ∧ v = .int .u64 ((x ^ i : Nat) : Int) ∧ cc = .int .i64 (i : Int)) (fun _ cc => n - (intOf cc).toNat)
  case atStart => exact ⟨0, by omega, rfl, rfl⟩
  case round =>
    obtain ⟨i, hi, rfl, rfl⟩ := hrel
    by_cases hlt : i < n
    · have hp := HB.out (i + 1) (by omega)
      rw [Nat.pow_succ] at hp
      have HS := Lib.hid (Nat.pow_succ (m := i) (n := x))
      obtain ⟨P, hP⟩ : ∃ P, x ^ i = P := ⟨_, rfl⟩
      rw [hP] at hp HS ⊢
      have hm : ((P : Int)) * (x : Int) = ((P * x : Nat) : Int) := by push_cast; rfl
      obtain ⟨M, hM⟩ : ∃ M, P * x = M := ⟨_, rfl⟩
      rw [hM] at hp hm HS
      have e1 : IntKind.u64.wrap ((P : Int) * (x : Int)) = (M : Int) := by rw [hm, IntKind.wrap_u64]; omega
      have HM := Lib.hid hm
      clear hP hM hm
      go_wp2
      go_round
      case rel => exact ⟨i + 1, by omega, by rw [HS.out], by go_num⟩
      case measure => simp [intOf]; omega
    · obtain rfl : i = n := by omega
      go_wp2
      go_ret
      exact ⟨rfl, rfl⟩
theorem size_u8s : (Tryz.prog.info? 5).map (·.size) = some 1 := by kernel_rfl
theorem blk_drew8 {w : World} {g : Nat} {t : TypeId} {cs : Array Value} (h : Blk w g t cs) : Blk w.drew g t cs := h
def AnyB (_ : World) : Prop := True
def RetSl (w : World) (zs : List Int) (e : Ending) (w' : World) : Prop := ∃ A c, e = .returned (.slice A zs.length c) ∧ zs.length ≤ c ∧ c ≤ maxLen ∧ Rd .u8 w' w'.heap.size A zs.length zs ∧ Below w.heap.size w w'
theorem right_at (x n : Nat) (hn : n ≤ 31) : Wd.right (x : Int) (n : Int) = ((x / 2 ^ n : Nat) : Int) := by
  unfold Wd.right
  rcases Nat.eq_zero_or_pos n with h0 | h0
  · subst h0
    simp
  · rw [if_neg (by omega), if_neg (by omega), Int.toNat_natCast, Int.natCast_ediv, Int.natCast_pow]
    rfl
theorem left_one (q : Nat) (hq : q ≤ 7) : Wd.left 1 (q : Int) = 2 ^ q := by
  have : q = 0 ∨ q = 1 ∨ q = 2 ∨ q = 3 ∨ q = 4 ∨ q = 5 ∨ q = 6 ∨ q = 7 := by omega
  rcases this with rfl | rfl | rfl | rfl | rfl | rfl | rfl | rfl <;> rfl
set_option maxHeartbeats 8000000 in
theorem r8bytes_c (x bits : Nat) (hx : x < 4294967296) (hb : bits ≤ 31) (w : World) : Calls Tryz.prog 53 #[.int .u64 (x : Int), .int .i64 (bits : Int)] w (RetSl w (bytesB x bits bits)) := by
  obtain ⟨i0, hi0, hz0, hz1, hzb⟩ := info_parts info_u8'
  have e1 : (x : Int) % 4294967296 = (x : Int) := by omega
  have e2 : IntKind.u32.wrap (x : Int) = (x : Int) := by rw [IntKind.wrap_u32]; omega
  have HEND : Hid (∀ v W, OwnI W w.heap.size 5 .u8 v (bytesB x bits bits) → Below w.heap.size w W → RetSl w (bytesB x bits bits) (.returned v) W) := Lib.hid (fun v W h hb => by
    obtain ⟨A, c, rfl, h1, h2⟩ := h.form
    exact ⟨A, c, rfl, h1, h2, h.rd rfl, hb⟩)
  obtain ⟨F, hF⟩ : ∃ F, RetSl w (bytesB x bits bits) = F := ⟨_, rfl⟩
  rw [hF] at HEND ⊢
  clear hF
  go_enter Tryz.func53, Tryz.ntmps53
  go_wp2
  go_loopw [5, 6] (fun v cc wr => ∃ i : Nat, i ≤ bits ∧ cc = .int .i64 (i : Int) ∧ OwnI wr w.heap.size 5 .u8 v (bytesB x bits i) ∧ Below w.heap.size w wr) (fun _ cc _ => bits - (intOf cc).toNat)
  case atStart => exact ⟨0, by omega, rfl, ⟨by simp [bytesB], .inl ⟨rfl, by simp [bytesB]⟩⟩, Below.refl _ _⟩
  case round =>
    obtain ⟨i, hi, rfl, hown, hbq⟩ := hrel
    by_cases hlt : i < bits
    · have hnx := byteB_next x bits i
      have hlb := bytesB_len x bits i
      have hlc := bytesC_len x bits i
      have hcv := bytesC_at x bits i
      have hyi := byteB_in x bits i (i / 8)
      have hrt := fun W => rright_c (x : Int) ((bits - 1 - i : Nat) : Int) (by omega) (by omega) (by omega) (by omega) W
      rw [right_at _ _ (by omega)] at hrt
      have hba := bitB_at x bits i
      have hyb : x / 2 ^ (bits - 1 - i) < 4294967296 := Nat.lt_of_le_of_lt (Nat.div_le_self _ _) hx
      obtain ⟨Y, hY⟩ : ∃ Y, x / 2 ^ (bits - 1 - i) = Y := ⟨_, rfl⟩
      rw [hY] at hrt hba hyb
      have e3 : IntKind.i64.wrap ((bits : Int) - 1 - (i : Int)) = ((bits - 1 - i : Nat) : Int) := by rw [IntKind.wrap_i64]; omega
      have e4 : (bits : Int) - 1 - (i : Int) = ((bits - 1 - i : Nat) : Int) := by omega
      obtain ⟨u, hu⟩ : ∃ u, bits - 1 - i = u := ⟨_, rfl⟩
      rw [hu] at hrt e3 e4
      have HRT := Lib.hid hrt
      obtain ⟨j, hj⟩ : ∃ j, i / 8 = j := ⟨_, rfl⟩
      obtain ⟨r, hr⟩ : ∃ r, i % 8 = r := ⟨_, rfl⟩
      have hr8 : r < 8 := by omega
      rw [hj] at hlc hcv hyi hnx
      rw [hr] at hnx
      obtain ⟨y, hy⟩ : ∃ y, byteB x bits i j = y := ⟨_, rfl⟩
      rw [hy] at hcv hyi hnx
      have hp0 : (0 : Int) < 2 ^ (7 - r) := Wd.pow_pos2 _
      have hlf := fun W => rleft_c 1 ((7 - r : Nat) : Int) (by omega) (by omega) (by omega) (by omega) W
      rw [left_one _ (by omega)] at hlf
      have hone : bitB x bits (i + 1) i = 1 → bytesB x bits (i + 1) = (bytesC x bits i).set j (y + 2 ^ (7 - r)) := fun h => by rw [bytesB_one x bits i h, hj, hr, hy]
      obtain ⟨p, hp⟩ : ∃ p : Int, 2 ^ (7 - r) = p := ⟨_, rfl⟩
      rw [hp] at hlf hnx hp0 hone
      have HLF := Lib.hid hlf
      have HJI := Lib.hid hj
      have HRI := Lib.hid hr
      have hpl := hnx.2
      have hzero := bytesB_zero x bits i
      clear hrt hnx hY hu hp hlf
      -- the row with room for one bit more
      have hjb : j ≤ 4 := by omega
      by_cases h8 : r = 0
      · have t8 : ((i : Int) % 8 == 0) = true := by rw [beq_iff_eq]; omega
        have hcn := bytesC_new x bits i (by omega)
        have HCN := Lib.hid hcn
        have hl8 : (bytesB x bits i).length ≤ 4 := by omega
        have HOW := Lib.hid hown
        have HBQ := Lib.hid hbq
        have hsz := hbq.size
        have HL8 := Lib.hid hl8
        have H8 := Lib.hid h8
        clear h8
        clear hcn hown hbq hj hr hy  e4
        by_cases hbit : Y % 2 = 1
        · have tb : ((Y : Int) % 2 == 1) = true := by rw [beq_iff_eq]; omega
          have HON1 := Lib.hid (hone (by rw [hba]; omega))
          have HLC := Lib.hid hlc
          have HCV := Lib.hid hcv
          clear hzero hone hba hcv hlc hlb
          go_wp2_with (first
            | (at_builtin; refine wpList_append_ints _ rfl (.tmp 15) (.tmp 16) 36 rfl w.heap.size 5 i0 _ 1 .u8 Tryz.underlying36 hi0 hz0 hz1 hzb rfl _ (bytesB x bits i) rfl (HOW.out.alloc _) (wr.heap.size + 1) (some ⟨wr.heap.size, 0, none⟩) 1 1 [0] rfl (rd_one wr 5 .u8 0) (by have := HL8.out; simp [maxLen]; omega) (by have := HL8.out; omega) (by simp; omega) ?_; intro v6 w6 hown6 hg6 hat6; have hb6 : Below w.heap.size w w6 := (HOW.out.alloc _).below_ (HBQ.out.alloc hsz _) (by simp; omega) hg6; rw [HCN.out] at hown6; have HOC := Lib.hid hown6; have HBQ := Lib.hid hb6; clear hown6 hg6 hat6 hb6)
            | (go_at_call 82; (with_reducible refine (HRT.out _).mono ?_); rintro e _ ⟨rfl, rfl⟩))
          have hoc := HOC.out
          obtain ⟨A8, c, hv8, hc1, hc2⟩ := hoc.form
          rw [hv8] at hoc
          obtain ⟨g, cur, hA8, hge, hB8, hcs, hcc⟩ := hoc.whole (by rw [HLC.out]; omega)
          have hcj := hcc j (by rw [HLC.out]; omega)
          rw [HCV.out] at hcj
          rw [HLC.out] at hv8 hcs
          rw [hA8] at hv8 hoc
          rw [HLC.out] at hoc
          subst hv8
          have HB8 : Hid (Blk w6.drew g 5 cur) := Lib.hid (blk_drew8 hB8)
          have HNW : Hid (∀ W, Blk W g 5 (cur.setIfInBounds j (.int .u8 (y + p))) → Only g w6.drew W → OwnI W w.heap.size 5 .u8 (.slice (some ⟨g, 0, none⟩) (j + 1) c) (bytesB x bits (i + 1)) ∧ Below w.heap.size w W) := Lib.hid (fun W h1 h2 => ⟨by rw [HON1.out]; exact hoc.put hB8 (by rw [HLC.out]; omega) h1, HBQ.out.trans (h2.of_drew.below hge HBQ.out.size)⟩)
          have HCJ : Hid (w6.drew.cell? ⟨g, j, none⟩ = some (.int .u8 y)) := Lib.hid (by rw [HB8.out.cell]; exact hcj)
          have HJL : Hid (j < cur.size) := Lib.hid (by omega)
          have HIX := Lib.hid (show (j : Int) < (j : Int) + 1 by omega)
          have HZ1 := Lib.hid (show ((i : Nat) : Int).tdiv 8 = (j : Int) by rw [Int.tdiv_eq_ediv_of_nonneg (by omega)]; have := HJI.out; omega)
          have HZ2 := Lib.hid (show IntKind.i64.wrap (j : Int) = (j : Int) by rw [IntKind.wrap_i64]; omega)
          have HR1 := Lib.hid (show ((i : Nat) : Int).tmod 8 = (r : Int) by rw [Int.tmod_eq_emod_of_nonneg (by omega)]; have := HRI.out; omega)
          have HR2 := Lib.hid (show IntKind.i64.wrap (r : Int) = (r : Int) by rw [IntKind.wrap_i64]; omega)
          have HS1 := Lib.hid (show IntKind.i64.wrap (7 - (r : Int)) = ((7 - r : Nat) : Int) by rw [IntKind.wrap_i64]; omega)
          have HP1 := Lib.hid (show IntKind.u8.wrap p = p by rw [IntKind.wrap_u8]; omega)
          have HP2 := Lib.hid (show IntKind.u8.wrap (y + p) = y + p by rw [IntKind.wrap_u8]; omega)
          clear hoc hA8 hge hB8 hcs hcc hcj hc1 hc2
          refine wp_region_held_drew (S := AnyB) (by kernel_rfl) trivial (fun _ => ?_)
          refine wpAnyH_letter #[false, false, false, false, false, false, false, false, false, false, false, false, false, false, false, false] (by kernel_rfl) (fun _ _ d _ _ h => by cases d <;> exact h) (fun QL HQ1 HQ2 => ?_)
          refine held_v 0 (some 28) rfl (by kernel_rfl) (by kernel_rfl) (by kernel_rfl) (by kernel_rfl) (fun c a v w h => HQ2.out c a _ v w h) (by kernel_rfl) (.slice (some ⟨g, 0, none⟩) (j + 1) c) (fun W h => by kernel_rfl) trivial ?_
          try simp only [Act.put, List.setIfInBounds_toArray, List.set_cons_zero, List.set_cons_succ]
          refine held_v 1 (some 29) rfl (by kernel_rfl) (by kernel_rfl) (by kernel_rfl) (by kernel_rfl) (fun c a v w h => HQ2.out c a _ v w h) (by kernel_rfl) (.int .i64 (i : Int)) (fun W h => by kernel_rfl) trivial ?_
          try simp only [Act.put, List.setIfInBounds_toArray, List.set_cons_zero, List.set_cons_succ]
          refine held_v 2 (some 30) rfl (by kernel_rfl) (by kernel_rfl) (by kernel_rfl) (by kernel_rfl) (fun c a v w h => HQ2.out c a _ v w h) (by kernel_rfl) (.int .i64 (j : Int)) (fun W h => by have p := HZ1.out; have p2 := HZ2.out; go_simp) trivial ?_
          try simp only [Act.put, List.setIfInBounds_toArray, List.set_cons_zero, List.set_cons_succ]
          refine held_v 3 (some 31) rfl (by kernel_rfl) (by kernel_rfl) (by kernel_rfl) (by kernel_rfl) (fun c a v w h => HQ2.out c a _ v w h) (by kernel_rfl) (.slice (some ⟨g, 0, none⟩) (j + 1) c) (fun W h => by kernel_rfl) trivial ?_
          try simp only [Act.put, List.setIfInBounds_toArray, List.set_cons_zero, List.set_cons_succ]
          refine held_v 4 (some 32) rfl (by kernel_rfl) (by kernel_rfl) (by kernel_rfl) (by kernel_rfl) (fun c a v w h => HQ2.out c a _ v w h) (by kernel_rfl) (.int .i64 (i : Int)) (fun W h => by kernel_rfl) trivial ?_
          try simp only [Act.put, List.setIfInBounds_toArray, List.set_cons_zero, List.set_cons_succ]
          refine held_v 5 (some 33) rfl (by kernel_rfl) (by kernel_rfl) (by kernel_rfl) (by kernel_rfl) (fun c a v w h => HQ2.out c a _ v w h) (by kernel_rfl) (.int .i64 (j : Int)) (fun W h => by have p := HZ1.out; have p2 := HZ2.out; go_simp) trivial ?_
          try simp only [Act.put, List.setIfInBounds_toArray, List.set_cons_zero, List.set_cons_succ]
          refine held_v 6 (some 34) rfl (by kernel_rfl) (by kernel_rfl) (by kernel_rfl) (by kernel_rfl) (fun c a v w h => HQ2.out c a _ v w h) (by kernel_rfl) (.pointer (some ⟨g, j, none⟩)) (fun W h => by have p := HIX.out; go_simp) trivial ?_
          try simp only [Act.put, List.setIfInBounds_toArray, List.set_cons_zero, List.set_cons_succ]
          refine held_v 8 (some 36) rfl (by kernel_rfl) (by kernel_rfl) (by kernel_rfl) (by kernel_rfl) (fun c a v w h => HQ2.out c a _ v w h) (by kernel_rfl) (.int .i64 (i : Int)) (fun W h => by kernel_rfl) trivial ?_
          try simp only [Act.put, List.setIfInBounds_toArray, List.set_cons_zero, List.set_cons_succ]
          refine held_v 9 (some 37) rfl (by kernel_rfl) (by kernel_rfl) (by kernel_rfl) (by kernel_rfl) (fun c a v w h => HQ2.out c a _ v w h) (by kernel_rfl) (.int .i64 (r : Int)) (fun W h => by have p := HR1.out; have p2 := HR2.out; go_simp) trivial ?_
          try simp only [Act.put, List.setIfInBounds_toArray, List.set_cons_zero, List.set_cons_succ]
          refine held_v 10 (some 38) rfl (by kernel_rfl) (by kernel_rfl) (by kernel_rfl) (by kernel_rfl) (fun c a v w h => HQ2.out c a _ v w h) (by kernel_rfl) (.int .i64 ((7 - r : Nat) : Int)) (fun W h => by have p := HS1.out; go_simp) trivial ?_
          try simp only [Act.put, List.setIfInBounds_toArray, List.set_cons_zero, List.set_cons_succ]
          refine wpAnyH_ready (rs := [7, 11]) (by kernel_rfl) (by decide) ?_
          refine AllReadyH.cons rfl (fun K hK => ?_) (AllReadyH.cons rfl (fun K hK => ?_) AllReadyH.nil)
          · refine step_v (some 35) (by kernel_rfl) (by kernel_rfl) (.int .u8 y) (by have p := HCJ.out; go_simp) ?_
            refine hK.out _ _ trivial (fun _ => ?_)
            clear hK K
            try simp only [Act.put, List.setIfInBounds_toArray, List.set_cons_zero, List.set_cons_succ]
            refine wpAnyH_ready (rs := [11]) (by kernel_rfl) (by decide) ?_
            refine AllReadyH.cons rfl (fun K hK => ?_) AllReadyH.nil
            refine step_call (some 39) (by kernel_rfl) (by kernel_rfl) _ _ (by kernel_rfl) _ (HLF.out _) ?_
            rintro e _ ⟨rfl, rfl⟩
            refine ⟨_, rfl, ?_⟩
            refine hK.out _ _ trivial (fun _ => ?_)
            clear hK K
            try simp only [Act.put, List.setIfInBounds_toArray, List.set_cons_zero, List.set_cons_succ]
            refine held_v 12 (some 40) rfl (by kernel_rfl) (by kernel_rfl) (by kernel_rfl) (by kernel_rfl) (fun c a v w h => HQ2.out c a _ v w h) (by kernel_rfl) (.int .u8 p) (fun W h => by have p := HP1.out; go_simp) trivial ?_
            try simp only [Act.put, List.setIfInBounds_toArray, List.set_cons_zero, List.set_cons_succ]
            refine held_v 13 (some 41) rfl (by kernel_rfl) (by kernel_rfl) (by kernel_rfl) (by kernel_rfl) (fun c a v w h => HQ2.out c a _ v w h) (by kernel_rfl) (.int .u8 (y + p)) (fun W h => by have p := HP2.out; go_simp) trivial ?_
            try simp only [Act.put, List.setIfInBounds_toArray, List.set_cons_zero, List.set_cons_succ]
            refine held_v 14 (some 42) rfl (by kernel_rfl) (by kernel_rfl) (by kernel_rfl) (by kernel_rfl) (fun c a v w h => HQ2.out c a _ v w h) (by kernel_rfl) (.pointer (some ⟨g, j, none⟩)) (fun W h => by have p := HIX.out; go_simp) trivial ?_
            try simp only [Act.put, List.setIfInBounds_toArray, List.set_cons_zero, List.set_cons_succ]
            refine wpAnyH_ready (rs := [15]) (by kernel_rfl) (by decide) ?_
            refine AllReadyH.cons rfl (fun K hK => ?_) AllReadyH.nil
            refine step_store_cell none (by kernel_rfl) (by kernel_rfl) 5 (.tmp 42) (.tmp 41) rfl g j (by kernel_rfl) 5 cur HB8.out (.int .u8 (y + p)) (by kernel_rfl) HJL.out size_u8s rfl rfl ?_
            intro w42 hkw42 how42
            have HKN := Lib.hid hkw42.out
            have HON := Lib.hid how42
            refine hK.out _ _ trivial (fun _ => ?_)
            clear hK K
            try simp only [Act.put, List.setIfInBounds_toArray, List.set_cons_zero, List.set_cons_succ]
            refine wpAnyH_done (by kernel_rfl) ?_ _
            refine HQ1.out _ _ ?_
            clear HQ1 HQ2
            have HF := Lib.hid (HNW.out _ HKN.out HON.out)
            clear HKN HON
            go_wp2
            go_roundw
            case rel => exact ⟨i + 1, by omega, by go_num, HF.out.1, HF.out.2⟩
            case measure => simp [intOf]; omega
          · refine step_call (some 39) (by kernel_rfl) (by kernel_rfl) _ _ (by kernel_rfl) _ (HLF.out _) ?_
            rintro e _ ⟨rfl, rfl⟩
            refine ⟨_, rfl, ?_⟩
            refine hK.out _ _ trivial (fun _ => ?_)
            clear hK K
            try simp only [Act.put, List.setIfInBounds_toArray, List.set_cons_zero, List.set_cons_succ]
            refine held_v 12 (some 40) rfl (by kernel_rfl) (by kernel_rfl) (by kernel_rfl) (by kernel_rfl) (fun c a v w h => HQ2.out c a _ v w h) (by kernel_rfl) (.int .u8 p) (fun W h => by have p := HP1.out; go_simp) trivial ?_
            try simp only [Act.put, List.setIfInBounds_toArray, List.set_cons_zero, List.set_cons_succ]
            refine wpAnyH_ready (rs := [7]) (by kernel_rfl) (by decide) ?_
            refine AllReadyH.cons rfl (fun K hK => ?_) AllReadyH.nil
            refine step_v (some 35) (by kernel_rfl) (by kernel_rfl) (.int .u8 y) (by have p := HCJ.out; go_simp) ?_
            refine hK.out _ _ trivial (fun _ => ?_)
            clear hK K
            try simp only [Act.put, List.setIfInBounds_toArray, List.set_cons_zero, List.set_cons_succ]
            refine held_v 13 (some 41) rfl (by kernel_rfl) (by kernel_rfl) (by kernel_rfl) (by kernel_rfl) (fun c a v w h => HQ2.out c a _ v w h) (by kernel_rfl) (.int .u8 (y + p)) (fun W h => by have p := HP2.out; go_simp) trivial ?_
            try simp only [Act.put, List.setIfInBounds_toArray, List.set_cons_zero, List.set_cons_succ]
            refine held_v 14 (some 42) rfl (by kernel_rfl) (by kernel_rfl) (by kernel_rfl) (by kernel_rfl) (fun c a v w h => HQ2.out c a _ v w h) (by kernel_rfl) (.pointer (some ⟨g, j, none⟩)) (fun W h => by have p := HIX.out; go_simp) trivial ?_
            try simp only [Act.put, List.setIfInBounds_toArray, List.set_cons_zero, List.set_cons_succ]
            refine wpAnyH_ready (rs := [15]) (by kernel_rfl) (by decide) ?_
            refine AllReadyH.cons rfl (fun K hK => ?_) AllReadyH.nil
            refine step_store_cell none (by kernel_rfl) (by kernel_rfl) 5 (.tmp 42) (.tmp 41) rfl g j (by kernel_rfl) 5 cur HB8.out (.int .u8 (y + p)) (by kernel_rfl) HJL.out size_u8s rfl rfl ?_
            intro w44 hkw44 how44
            have HKN := Lib.hid hkw44.out
            have HON := Lib.hid how44
            refine hK.out _ _ trivial (fun _ => ?_)
            clear hK K
            try simp only [Act.put, List.setIfInBounds_toArray, List.set_cons_zero, List.set_cons_succ]
            refine wpAnyH_done (by kernel_rfl) ?_ _
            refine HQ1.out _ _ ?_
            clear HQ1 HQ2
            have HF := Lib.hid (HNW.out _ HKN.out HON.out)
            clear HKN HON
            go_wp2
            go_roundw
            case rel => exact ⟨i + 1, by omega, by go_num, HF.out.1, HF.out.2⟩
            case measure => simp [intOf]; omega

        · have tb : ((Y : Int) % 2 == 1) = false := by rw [beq_eq_false_iff_ne]; omega
          have tb2 : ((Y : Int) % 2 = 1) = False := by rw [eq_iff_iff]; exact ⟨fun h => by omega, False.elim⟩
          have HZE := Lib.hid (hzero (by rw [hba]; omega))
          clear hzero hone hba hcv hlc hlb
          go_wp2_with (first
            | (at_builtin; refine wpList_append_ints _ rfl (.tmp 15) (.tmp 16) 36 rfl w.heap.size 5 i0 _ 1 .u8 Tryz.underlying36 hi0 hz0 hz1 hzb rfl _ (bytesB x bits i) rfl (HOW.out.alloc _) (wr.heap.size + 1) (some ⟨wr.heap.size, 0, none⟩) 1 1 [0] rfl (rd_one wr 5 .u8 0) (by have := HL8.out; simp [maxLen]; omega) (by have := HL8.out; omega) (by simp; omega) ?_; intro v6 w6 hown6 hg6 hat6; have hb6 : Below w.heap.size w w6 := (HOW.out.alloc _).below_ (HBQ.out.alloc hsz _) (by simp; omega) hg6; rw [HCN.out] at hown6; have HOC := Lib.hid hown6; have HBQ := Lib.hid hb6; clear hown6 hg6 hat6 hb6)
            | (go_at_call 82; (with_reducible refine (HRT.out _).mono ?_); rintro e _ ⟨rfl, rfl⟩))
          go_roundw
          case rel => exact ⟨i + 1, by omega, by go_num, by rw [HZE.out]; exact HOC.out, HBQ.out⟩
          case measure => simp [intOf]; omega

      · have t8 : ((i : Int) % 8 == 0) = false := by rw [beq_eq_false_iff_ne]; omega
        have hco := bytesC_old x bits i (by omega)
        rw [hco] at hown
        have HOC := Lib.hid hown
        have HBQ := Lib.hid hbq
        clear hco hown hbq hj hr hy  e4
        by_cases hbit : Y % 2 = 1
        · have tb : ((Y : Int) % 2 == 1) = true := by rw [beq_iff_eq]; omega
          have HON1 := Lib.hid (hone (by rw [hba]; omega))
          have HLC := Lib.hid hlc
          have HCV := Lib.hid hcv
          clear hzero hone hba hcv hlc hlb
          go_wp2_with (first
            | (go_at_call 82; (with_reducible refine (HRT.out _).mono ?_); rintro e _ ⟨rfl, rfl⟩))
          have hoc := HOC.out
          obtain ⟨A8, c, hv8, hc1, hc2⟩ := hoc.form
          rw [hv8] at hoc
          obtain ⟨g, cur, hA8, hge, hB8, hcs, hcc⟩ := hoc.whole (by rw [HLC.out]; omega)
          have hcj := hcc j (by rw [HLC.out]; omega)
          rw [HCV.out] at hcj
          rw [HLC.out] at hv8 hcs
          rw [hA8] at hv8 hoc
          rw [HLC.out] at hoc
          subst hv8
          have HB8 : Hid (Blk wr.drew g 5 cur) := Lib.hid (blk_drew8 hB8)
          have HNW : Hid (∀ W, Blk W g 5 (cur.setIfInBounds j (.int .u8 (y + p))) → Only g wr.drew W → OwnI W w.heap.size 5 .u8 (.slice (some ⟨g, 0, none⟩) (j + 1) c) (bytesB x bits (i + 1)) ∧ Below w.heap.size w W) := Lib.hid (fun W h1 h2 => ⟨by rw [HON1.out]; exact hoc.put hB8 (by rw [HLC.out]; omega) h1, HBQ.out.trans (h2.of_drew.below hge HBQ.out.size)⟩)
          have HCJ : Hid (wr.drew.cell? ⟨g, j, none⟩ = some (.int .u8 y)) := Lib.hid (by rw [HB8.out.cell]; exact hcj)
          have HJL : Hid (j < cur.size) := Lib.hid (by omega)
          have HIX := Lib.hid (show (j : Int) < (j : Int) + 1 by omega)
          have HZ1 := Lib.hid (show ((i : Nat) : Int).tdiv 8 = (j : Int) by rw [Int.tdiv_eq_ediv_of_nonneg (by omega)]; have := HJI.out; omega)
          have HZ2 := Lib.hid (show IntKind.i64.wrap (j : Int) = (j : Int) by rw [IntKind.wrap_i64]; omega)
          have HR1 := Lib.hid (show ((i : Nat) : Int).tmod 8 = (r : Int) by rw [Int.tmod_eq_emod_of_nonneg (by omega)]; have := HRI.out; omega)
          have HR2 := Lib.hid (show IntKind.i64.wrap (r : Int) = (r : Int) by rw [IntKind.wrap_i64]; omega)
          have HS1 := Lib.hid (show IntKind.i64.wrap (7 - (r : Int)) = ((7 - r : Nat) : Int) by rw [IntKind.wrap_i64]; omega)
          have HP1 := Lib.hid (show IntKind.u8.wrap p = p by rw [IntKind.wrap_u8]; omega)
          have HP2 := Lib.hid (show IntKind.u8.wrap (y + p) = y + p by rw [IntKind.wrap_u8]; omega)
          clear hoc hA8 hge hB8 hcs hcc hcj hc1 hc2
          refine wp_region_held_drew (S := AnyB) (by kernel_rfl) trivial (fun _ => ?_)
          refine wpAnyH_letter #[false, false, false, false, false, false, false, false, false, false, false, false, false, false, false, false] (by kernel_rfl) (fun _ _ d _ _ h => by cases d <;> exact h) (fun QL HQ1 HQ2 => ?_)
          refine held_v 0 (some 28) rfl (by kernel_rfl) (by kernel_rfl) (by kernel_rfl) (by kernel_rfl) (fun c a v w h => HQ2.out c a _ v w h) (by kernel_rfl) (.slice (some ⟨g, 0, none⟩) (j + 1) c) (fun W h => by kernel_rfl) trivial ?_
          try simp only [Act.put, List.setIfInBounds_toArray, List.set_cons_zero, List.set_cons_succ]
          refine held_v 1 (some 29) rfl (by kernel_rfl) (by kernel_rfl) (by kernel_rfl) (by kernel_rfl) (fun c a v w h => HQ2.out c a _ v w h) (by kernel_rfl) (.int .i64 (i : Int)) (fun W h => by kernel_rfl) trivial ?_
          try simp only [Act.put, List.setIfInBounds_toArray, List.set_cons_zero, List.set_cons_succ]
          refine held_v 2 (some 30) rfl (by kernel_rfl) (by kernel_rfl) (by kernel_rfl) (by kernel_rfl) (fun c a v w h => HQ2.out c a _ v w h) (by kernel_rfl) (.int .i64 (j : Int)) (fun W h => by have p := HZ1.out; have p2 := HZ2.out; go_simp) trivial ?_
          try simp only [Act.put, List.setIfInBounds_toArray, List.set_cons_zero, List.set_cons_succ]
          refine held_v 3 (some 31) rfl (by kernel_rfl) (by kernel_rfl) (by kernel_rfl) (by kernel_rfl) (fun c a v w h => HQ2.out c a _ v w h) (by kernel_rfl) (.slice (some ⟨g, 0, none⟩) (j + 1) c) (fun W h => by kernel_rfl) trivial ?_
          try simp only [Act.put, List.setIfInBounds_toArray, List.set_cons_zero, List.set_cons_succ]
          refine held_v 4 (some 32) rfl (by kernel_rfl) (by kernel_rfl) (by kernel_rfl) (by kernel_rfl) (fun c a v w h => HQ2.out c a _ v w h) (by kernel_rfl) (.int .i64 (i : Int)) (fun W h => by kernel_rfl) trivial ?_
          try simp only [Act.put, List.setIfInBounds_toArray, List.set_cons_zero, List.set_cons_succ]
          refine held_v 5 (some 33) rfl (by kernel_rfl) (by kernel_rfl) (by kernel_rfl) (by kernel_rfl) (fun c a v w h => HQ2.out c a _ v w h) (by kernel_rfl) (.int .i64 (j : Int)) (fun W h => by have p := HZ1.out; have p2 := HZ2.out; go_simp) trivial ?_
          try simp only [Act.put, List.setIfInBounds_toArray, List.set_cons_zero, List.set_cons_succ]
          refine held_v 6 (some 34) rfl (by kernel_rfl) (by kernel_rfl) (by kernel_rfl) (by kernel_rfl) (fun c a v w h => HQ2.out c a _ v w h) (by kernel_rfl) (.pointer (some ⟨g, j, none⟩)) (fun W h => by have p := HIX.out; go_simp) trivial ?_
          try simp only [Act.put, List.setIfInBounds_toArray, List.set_cons_zero, List.set_cons_succ]
          refine held_v 8 (some 36) rfl (by kernel_rfl) (by kernel_rfl) (by kernel_rfl) (by kernel_rfl) (fun c a v w h => HQ2.out c a _ v w h) (by kernel_rfl) (.int .i64 (i : Int)) (fun W h => by kernel_rfl) trivial ?_
          try simp only [Act.put, List.setIfInBounds_toArray, List.set_cons_zero, List.set_cons_succ]
          refine held_v 9 (some 37) rfl (by kernel_rfl) (by kernel_rfl) (by kernel_rfl) (by kernel_rfl) (fun c a v w h => HQ2.out c a _ v w h) (by kernel_rfl) (.int .i64 (r : Int)) (fun W h => by have p := HR1.out; have p2 := HR2.out; go_simp) trivial ?_
          try simp only [Act.put, List.setIfInBounds_toArray, List.set_cons_zero, List.set_cons_succ]
          refine held_v 10 (some 38) rfl (by kernel_rfl) (by kernel_rfl) (by kernel_rfl) (by kernel_rfl) (fun c a v w h => HQ2.out c a _ v w h) (by kernel_rfl) (.int .i64 ((7 - r : Nat) : Int)) (fun W h => by have p := HS1.out; go_simp) trivial ?_
          try simp only [Act.put, List.setIfInBounds_toArray, List.set_cons_zero, List.set_cons_succ]
          refine wpAnyH_ready (rs := [7, 11]) (by kernel_rfl) (by decide) ?_
          refine AllReadyH.cons rfl (fun K hK => ?_) (AllReadyH.cons rfl (fun K hK => ?_) AllReadyH.nil)
          · refine step_v (some 35) (by kernel_rfl) (by kernel_rfl) (.int .u8 y) (by have p := HCJ.out; go_simp) ?_
            refine hK.out _ _ trivial (fun _ => ?_)
            clear hK K
            try simp only [Act.put, List.setIfInBounds_toArray, List.set_cons_zero, List.set_cons_succ]
            refine wpAnyH_ready (rs := [11]) (by kernel_rfl) (by decide) ?_
            refine AllReadyH.cons rfl (fun K hK => ?_) AllReadyH.nil
            refine step_call (some 39) (by kernel_rfl) (by kernel_rfl) _ _ (by kernel_rfl) _ (HLF.out _) ?_
            rintro e _ ⟨rfl, rfl⟩
            refine ⟨_, rfl, ?_⟩
            refine hK.out _ _ trivial (fun _ => ?_)
            clear hK K
            try simp only [Act.put, List.setIfInBounds_toArray, List.set_cons_zero, List.set_cons_succ]
            refine held_v 12 (some 40) rfl (by kernel_rfl) (by kernel_rfl) (by kernel_rfl) (by kernel_rfl) (fun c a v w h => HQ2.out c a _ v w h) (by kernel_rfl) (.int .u8 p) (fun W h => by have p := HP1.out; go_simp) trivial ?_
            try simp only [Act.put, List.setIfInBounds_toArray, List.set_cons_zero, List.set_cons_succ]
            refine held_v 13 (some 41) rfl (by kernel_rfl) (by kernel_rfl) (by kernel_rfl) (by kernel_rfl) (fun c a v w h => HQ2.out c a _ v w h) (by kernel_rfl) (.int .u8 (y + p)) (fun W h => by have p := HP2.out; go_simp) trivial ?_
            try simp only [Act.put, List.setIfInBounds_toArray, List.set_cons_zero, List.set_cons_succ]
            refine held_v 14 (some 42) rfl (by kernel_rfl) (by kernel_rfl) (by kernel_rfl) (by kernel_rfl) (fun c a v w h => HQ2.out c a _ v w h) (by kernel_rfl) (.pointer (some ⟨g, j, none⟩)) (fun W h => by have p := HIX.out; go_simp) trivial ?_
            try simp only [Act.put, List.setIfInBounds_toArray, List.set_cons_zero, List.set_cons_succ]
            refine wpAnyH_ready (rs := [15]) (by kernel_rfl) (by decide) ?_
            refine AllReadyH.cons rfl (fun K hK => ?_) AllReadyH.nil
            refine step_store_cell none (by kernel_rfl) (by kernel_rfl) 5 (.tmp 42) (.tmp 41) rfl g j (by kernel_rfl) 5 cur HB8.out (.int .u8 (y + p)) (by kernel_rfl) HJL.out size_u8s rfl rfl ?_
            intro w42 hkw42 how42
            have HKN := Lib.hid hkw42.out
            have HON := Lib.hid how42
            refine hK.out _ _ trivial (fun _ => ?_)
            clear hK K
            try simp only [Act.put, List.setIfInBounds_toArray, List.set_cons_zero, List.set_cons_succ]
            refine wpAnyH_done (by kernel_rfl) ?_ _
            refine HQ1.out _ _ ?_
            clear HQ1 HQ2
            have HF := Lib.hid (HNW.out _ HKN.out HON.out)
            clear HKN HON
            go_wp2
            go_roundw
            case rel => exact ⟨i + 1, by omega, by go_num, HF.out.1, HF.out.2⟩
            case measure => simp [intOf]; omega
          · refine step_call (some 39) (by kernel_rfl) (by kernel_rfl) _ _ (by kernel_rfl) _ (HLF.out _) ?_
            rintro e _ ⟨rfl, rfl⟩
            refine ⟨_, rfl, ?_⟩
            refine hK.out _ _ trivial (fun _ => ?_)
            clear hK K
            try simp only [Act.put, List.setIfInBounds_toArray, List.set_cons_zero, List.set_cons_succ]
            refine held_v 12 (some 40) rfl (by kernel_rfl) (by kernel_rfl) (by kernel_rfl) (by kernel_rfl) (fun c a v w h => HQ2.out c a _ v w h) (by kernel_rfl) (.int .u8 p) (fun W h => by have p := HP1.out; go_simp) trivial ?_
            try simp only [Act.put, List.setIfInBounds_toArray, List.set_cons_zero, List.set_cons_succ]
            refine wpAnyH_ready (rs := [7]) (by kernel_rfl) (by decide) ?_
            refine AllReadyH.cons rfl (fun K hK => ?_) AllReadyH.nil
            refine step_v (some 35) (by kernel_rfl) (by kernel_rfl) (.int .u8 y) (by have p := HCJ.out; go_simp) ?_
            refine hK.out _ _ trivial (fun _ => ?_)
            clear hK K
            try simp only [Act.put, List.setIfInBounds_toArray, List.set_cons_zero, List.set_cons_succ]
            refine held_v 13 (some 41) rfl (by kernel_rfl) (by kernel_rfl) (by kernel_rfl) (by kernel_rfl) (fun c a v w h => HQ2.out c a _ v w h) (by kernel_rfl) (.int .u8 (y + p)) (fun W h => by have p := HP2.out; go_simp) trivial ?_
            try simp only [Act.put, List.setIfInBounds_toArray, List.set_cons_zero, List.set_cons_succ]
            refine held_v 14 (some 42) rfl (by kernel_rfl) (by kernel_rfl) (by kernel_rfl) (by kernel_rfl) (fun c a v w h => HQ2.out c a _ v w h) (by kernel_rfl) (.pointer (some ⟨g, j, none⟩)) (fun W h => by have p := HIX.out; go_simp) trivial ?_
            try simp only [Act.put, List.setIfInBounds_toArray, List.set_cons_zero, List.set_cons_succ]
            refine wpAnyH_ready (rs := [15]) (by kernel_rfl) (by decide) ?_
            refine AllReadyH.cons rfl (fun K hK => ?_) AllReadyH.nil
            refine step_store_cell none (by kernel_rfl) (by kernel_rfl) 5 (.tmp 42) (.tmp 41) rfl g j (by kernel_rfl) 5 cur HB8.out (.int .u8 (y + p)) (by kernel_rfl) HJL.out size_u8s rfl rfl ?_
            intro w44 hkw44 how44
            have HKN := Lib.hid hkw44.out
            have HON := Lib.hid how44
            refine hK.out _ _ trivial (fun _ => ?_)
            clear hK K
            try simp only [Act.put, List.setIfInBounds_toArray, List.set_cons_zero, List.set_cons_succ]
            refine wpAnyH_done (by kernel_rfl) ?_ _
            refine HQ1.out _ _ ?_
            clear HQ1 HQ2
            have HF := Lib.hid (HNW.out _ HKN.out HON.out)
            clear HKN HON
            go_wp2
            go_roundw
            case rel => exact ⟨i + 1, by omega, by go_num, HF.out.1, HF.out.2⟩
            case measure => simp [intOf]; omega

        · have tb : ((Y : Int) % 2 == 1) = false := by rw [beq_eq_false_iff_ne]; omega
          have tb2 : ((Y : Int) % 2 = 1) = False := by rw [eq_iff_iff]; exact ⟨fun h => by omega, False.elim⟩
          have HZE := Lib.hid (hzero (by rw [hba]; omega))
          clear hzero hone hba hcv hlc hlb
          go_wp2_with (first
            | (go_at_call 82; (with_reducible refine (HRT.out _).mono ?_); rintro e _ ⟨rfl, rfl⟩))
          go_roundw
          case rel => exact ⟨i + 1, by omega, by go_num, by rw [HZE.out]; exact HOC.out, HBQ.out⟩
          case measure => simp [intOf]; omega

    · obtain rfl : i = bits := by omega
      have HO := Lib.hid hown
      have HB := Lib.hid hbq
      clear hown hbq
      go_wp2
      exact HEND.out _ _ HO.out HB.out
end
section
open Go.ChangeShapes Go.WideShapes Go.ChangeAt Go.RowKit
def smlL (b : Int) (l : List Int) : List Int := l.map (· % b)
theorem smlL_len (b : Int) (l : List Int) : (smlL b l).length = l.length := by unfold smlL; rw [List.length_map]
theorem smlL_in {b : Int} (hb : 0 < b) {l : List Int} : ∀ z ∈ smlL b l, 0 ≤ z ∧ z < b := fun z h => by
  unfold smlL at h
  obtain ⟨x, _, rfl⟩ := List.mem_map.1 h
  exact ⟨Int.emod_nonneg _ (by omega), Int.emod_lt_of_pos _ hb⟩
theorem smlL_take {b : Int} {l : List Int} {i : Nat} (h : i < l.length) : (smlL b l).take (i + 1) = (smlL b l).take i ++ [l.getD i 0 % b] := by
  unfold smlL
  rw [List.take_add_one, List.getElem?_map, List.getElem?_eq_getElem h, List.getD_eq_getElem?_getD, List.getElem?_eq_getElem h]
  rfl
theorem sumL_app1 : ∀ (l : List Int) (y : Int), sumL (l ++ [y]) = sumL l + y
  | [], y => by show y + 0 = 0 + y; omega
  | x :: l, y => by
    show x + sumL (l ++ [y]) = x + sumL l + y
    rw [sumL_app1 l y]; omega
theorem smlL_sum {b : Int} (hb : 0 < b) {l : List Int} : ∀ i, i ≤ l.length → 0 ≤ sumL ((smlL b l).take i) ∧ sumL ((smlL b l).take i) ≤ (i : Int) * b
  | 0, _ => by rw [List.take_zero]; exact ⟨Int.le_refl _, by simp [sumL]⟩
  | i + 1, h => by
    obtain ⟨h1, h2⟩ := smlL_sum hb (l := l) i (by omega)
    rw [smlL_take (l := l) (i := i) (by omega), sumL_app1, show ((i + 1 : Nat) : Int) * b = (i : Int) * b + b by rw [Int.natCast_add, Int.add_mul]; simp]
    have h3 := Int.emod_nonneg (l.getD i 0) (show b ≠ 0 by omega)
    have h4 := Int.emod_lt_of_pos (l.getD i 0) hb
    omega
def RetSm (w : World) (n : Nat) (S : List Int) (e : Ending) (w' : World) : Prop := ∃ A c, e = .returned (.tuple #[.slice A n c, .int .u64 (sumL S)]) ∧ Rd .u64 w' w'.heap.size A n S ∧ n ≤ c ∧ c ≤ maxLen ∧ Below w.heap.size w w'
set_option maxHeartbeats 8000000 in
theorem small_c (zs : List Int) (a0 : Option Addr) (n c : Nat) (hn : n ≤ 1000) (hc : (c : Int) ≤ 9223372036854775807) (hnc : n ≤ c) (hz : ∀ z ∈ zs, 0 ≤ z ∧ z < 18446744073709551616) (b : Int) (b0 : 0 < b) (b1 : b ≤ 1000) (w : World) (hrd : Rd .u64 w w.heap.size a0 n zs) :
    Calls Tryz.prog 10 #[.slice a0 n c, .int .u64 b] w (RetSm w n (smlL b zs)) := by
  obtain ⟨ti, hti, hz0, hz1, hzb⟩ := info_parts info_u64d
  have HR := Lib.hid hrd
  have hlen := hrd.len
  have HZ : Hid (∀ k, k < n → 0 ≤ zs.getD k 0 ∧ zs.getD k 0 < 18446744073709551616) := Lib.hid (fun k h => hz _ (getD_in (l := zs) (k := k) (by omega)))
  have HTK := Lib.hid (fun i (h : i < n) => smlL_take (b := b) (l := zs) (i := i) (by omega))
  have HSB := Lib.hid (fun i (h : i ≤ n) => smlL_sum b0 (l := zs) i (by omega))
  have hlS : (smlL b zs).length = n := (smlL_len b zs).trans hlen
  obtain ⟨S, hS⟩ : ∃ S, smlL b zs = S := ⟨_, rfl⟩
  rw [hS] at HTK HSB hlS ⊢
  have HLEN : Hid (∀ i, i ≤ n → (S.take i).length = i) := Lib.hid (fun i h => by rw [List.length_take]; omega)
  have HLS := Lib.hid hlS
  have HB0 := Lib.hid (show b ≠ 0 by omega)
  have hnI : (n : Int) ≤ 1000 := by omega
  have hncI : (n : Int) ≤ (c : Int) := by omega
  clear hrd hz hS hlS hlen
  go_enter Tryz.func10, Tryz.ntmps10
  go_wp2
  go_loopw [6, 7, 8] (fun v tt jj wr => ∃ j : Nat, j ≤ n ∧ jj = .int .i64 (j : Int) ∧ tt = .int .u64 (sumL (S.take j)) ∧ OwnI wr w.heap.size 24 .u64 v (S.take j) ∧ Below w.heap.size w wr) (fun _ _ jj _ => n - (intOf jj).toNat)
  case atStart => exact ⟨0, by omega, rfl, rfl, OwnI.empty _ _ _ _, Below.refl _ _⟩
  case round =>
    obtain ⟨j, hj, rfl, rfl, hown, hb⟩ := hrel
    obtain ⟨A5, c5, rfl, hl5, hm5⟩ := hown.form
    rw [HLEN.out j hj] at hown hl5 ⊢
    by_cases hlt : j < n
    · have jI : (j : Int) < (n : Int) := by omega
      have j0 : (0 : Int) ≤ (j : Int) := by omega
      obtain ⟨g, off, ha0, hgl, hck⟩ := HR.out.at_ (by omega)
      subst ha0
      have hc0 := hck j (by omega)
      have htk := HTK.out j hlt
      have hzk := HZ.out j hlt
      have hsb := HSB.out (j + 1) (by omega)
      have hsb0 := HSB.out j hj
      obtain ⟨z, hze⟩ : ∃ z, zs.getD j 0 = z := ⟨_, rfl⟩
      rw [hze] at hc0 htk hzk
      have htm : z.tmod b = z % b := Int.tmod_eq_emod_of_nonneg hzk.1
      obtain ⟨y, hy⟩ : ∃ y, z % b = y := ⟨_, rfl⟩
      rw [hy] at htm htk
      have hsum : sumL (S.take (j + 1)) = sumL (S.take j) + y := by rw [htk, sumL_app1]
      have HCL : Hid (∀ W, Below w.heap.size w W → W.cell? ⟨g, off + j, none⟩ = some (.int .u64 z)) := Lib.hid (fun W h => (h.cell (p := ⟨g, off + j, none⟩) (cell_lt hc0)).trans hc0)
      have HTM := Lib.hid htm
      have y0 : 0 ≤ y := by rw [← hy]; exact Int.emod_nonneg _ (by omega)
      have y1 : y < b := by rw [← hy]; exact Int.emod_lt_of_pos _ b0
      have HSU : Hid (IntKind.u64.wrap (sumL (S.take j) + y) = sumL (S.take (j + 1))) := Lib.hid (by
        rw [hsum, IntKind.wrap_u64]
        have h5 : ((j + 1 : Nat) : Int) * b ≤ 1001 * 1000 := Int.mul_le_mul (by omega) b1 (by omega) (by omega)
        rw [hsum] at hsb
        omega)
      have HN2 := Lib.hid htk.symm
      have HON := Lib.hid hown
      have HBN := Lib.hid hb
      have HLJ := Lib.hid (HLEN.out j hj)
      have HLJ1 := Lib.hid (HLEN.out (j + 1) (by omega))
      have HJK : Hid (j ≤ 1000) := Lib.hid (by omega)
      have c0 := hc
      have c1 := hncI
      clear hck hc0 htk hzk hsb hsb0 hze hy hown hb hsum htm hl5 hm5
      go_upto_region 6 with fail
      have OD : OwnI wr.drew w.heap.size 24 .u64 (.slice A5 j c5) (S.take j) := OwnI.below HON.out (Below.refl _ _).drew
      have BD : Below w.heap.size w wr.drew := HBN.out.trans ((Below.refl _ _).drew.mono (Below.size HBN.out))
      refine wp_region_held_drew (S := fun W => W.cell? ⟨g, off + j, none⟩ = some (.int .u64 z)) (by kernel_rfl) (HCL.out _ BD) (fun hH => ?_)
      refine wpAnyH_letter #[false, false, false, false, false, false, false, false, false, false, false, false, false, false, false, false, false, false, false] (by kernel_rfl) (fun _ _ d _ _ h => by cases d <;> exact h) (fun QL HQ1 HQ2 => ?_)
      refine held_v 0 (some 15) rfl (by kernel_rfl) (by kernel_rfl) (by kernel_rfl) (by kernel_rfl) (fun c a v w h => HQ2.out c a _ v w h) (by kernel_rfl) (.slice A5 j c5) (fun W h => by kernel_rfl) hH ?_
      try simp only [Act.put, List.setIfInBounds_toArray, List.set_cons_zero, List.set_cons_succ]
      refine held_v 1 (some 16) rfl (by kernel_rfl) (by kernel_rfl) (by kernel_rfl) (by kernel_rfl) (fun c a v w h => HQ2.out c a _ v w h) (by kernel_rfl) (.slice (some ⟨g, off, none⟩) n c) (fun W h => by kernel_rfl) hH ?_
      try simp only [Act.put, List.setIfInBounds_toArray, List.set_cons_zero, List.set_cons_succ]
      refine held_v 2 (some 17) rfl (by kernel_rfl) (by kernel_rfl) (by kernel_rfl) (by kernel_rfl) (fun c a v w h => HQ2.out c a _ v w h) (by kernel_rfl) (.int .i64 (j : Int)) (fun W h => by kernel_rfl) hH ?_
      try simp only [Act.put, List.setIfInBounds_toArray, List.set_cons_zero, List.set_cons_succ]
      refine held_v 3 (some 18) rfl (by kernel_rfl) (by kernel_rfl) (by kernel_rfl) (by kernel_rfl) (fun c a v w h => HQ2.out c a _ v w h) (by kernel_rfl) (.pointer (some ⟨g, off + j, none⟩)) (fun W h => by have q1 := c0; have q2 := c1; have q3 := j0; have q4 := jI; go_simp) hH ?_
      try simp only [Act.put, List.setIfInBounds_toArray, List.set_cons_zero, List.set_cons_succ]
      refine held_v 4 (some 19) rfl (by kernel_rfl) (by kernel_rfl) (by kernel_rfl) (by kernel_rfl) (fun c a v w h => HQ2.out c a _ v w h) (by kernel_rfl) (.int .u64 z) (fun W h => by have p := h; go_simp) hH ?_
      try simp only [Act.put, List.setIfInBounds_toArray, List.set_cons_zero, List.set_cons_succ]
      refine held_v 5 (some 20) rfl (by kernel_rfl) (by kernel_rfl) (by kernel_rfl) (by kernel_rfl) (fun c a v w h => HQ2.out c a _ v w h) (by kernel_rfl) (.int .u64 b) (fun W h => by kernel_rfl) hH ?_
      try simp only [Act.put, List.setIfInBounds_toArray, List.set_cons_zero, List.set_cons_succ]
      refine held_v 6 (some 21) rfl (by kernel_rfl) (by kernel_rfl) (by kernel_rfl) (by kernel_rfl) (fun c a v w h => HQ2.out c a _ v w h) (by kernel_rfl) (.int .u64 y) (fun W h => by have p := HTM.out; have p2 := HB0.out; go_simp) hH ?_
      try simp only [Act.put, List.setIfInBounds_toArray, List.set_cons_zero, List.set_cons_succ]
      refine held_v 9 (some 24) rfl (by kernel_rfl) (by kernel_rfl) (by kernel_rfl) (by kernel_rfl) (fun c a v w h => HQ2.out c a _ v w h) (by kernel_rfl) (.int .u64 (sumL (S.take j))) (fun W h => by kernel_rfl) hH ?_
      try simp only [Act.put, List.setIfInBounds_toArray, List.set_cons_zero, List.set_cons_succ]
      refine held_v 10 (some 25) rfl (by kernel_rfl) (by kernel_rfl) (by kernel_rfl) (by kernel_rfl) (fun c a v w h => HQ2.out c a _ v w h) (by kernel_rfl) (.slice (some ⟨g, off, none⟩) n c) (fun W h => by kernel_rfl) hH ?_
      try simp only [Act.put, List.setIfInBounds_toArray, List.set_cons_zero, List.set_cons_succ]
      refine held_v 11 (some 26) rfl (by kernel_rfl) (by kernel_rfl) (by kernel_rfl) (by kernel_rfl) (fun c a v w h => HQ2.out c a _ v w h) (by kernel_rfl) (.int .i64 (j : Int)) (fun W h => by kernel_rfl) hH ?_
      try simp only [Act.put, List.setIfInBounds_toArray, List.set_cons_zero, List.set_cons_succ]
      refine held_v 12 (some 27) rfl (by kernel_rfl) (by kernel_rfl) (by kernel_rfl) (by kernel_rfl) (fun c a v w h => HQ2.out c a _ v w h) (by kernel_rfl) (.pointer (some ⟨g, off + j, none⟩)) (fun W h => by have q1 := c0; have q2 := c1; have q3 := j0; have q4 := jI; go_simp) hH ?_
      try simp only [Act.put, List.setIfInBounds_toArray, List.set_cons_zero, List.set_cons_succ]
      refine held_v 13 (some 28) rfl (by kernel_rfl) (by kernel_rfl) (by kernel_rfl) (by kernel_rfl) (fun c a v w h => HQ2.out c a _ v w h) (by kernel_rfl) (.int .u64 z) (fun W h => by have p := h; go_simp) hH ?_
      try simp only [Act.put, List.setIfInBounds_toArray, List.set_cons_zero, List.set_cons_succ]
      refine held_v 14 (some 29) rfl (by kernel_rfl) (by kernel_rfl) (by kernel_rfl) (by kernel_rfl) (fun c a v w h => HQ2.out c a _ v w h) (by kernel_rfl) (.int .u64 b) (fun W h => by kernel_rfl) hH ?_
      try simp only [Act.put, List.setIfInBounds_toArray, List.set_cons_zero, List.set_cons_succ]
      refine held_v 15 (some 30) rfl (by kernel_rfl) (by kernel_rfl) (by kernel_rfl) (by kernel_rfl) (fun c a v w h => HQ2.out c a _ v w h) (by kernel_rfl) (.int .u64 y) (fun W h => by have p := HTM.out; have p2 := HB0.out; go_simp) hH ?_
      try simp only [Act.put, List.setIfInBounds_toArray, List.set_cons_zero, List.set_cons_succ]
      refine held_v 16 (some 31) rfl (by kernel_rfl) (by kernel_rfl) (by kernel_rfl) (by kernel_rfl) (fun c a v w h => HQ2.out c a _ v w h) (by kernel_rfl) (.int .u64 (sumL (S.take (j + 1)))) (fun W h => by have p := HSU.out; go_simp) hH ?_
      try simp only [Act.put, List.setIfInBounds_toArray, List.set_cons_zero, List.set_cons_succ]
      refine wpAnyH_ready (rs := [7]) (by kernel_rfl) (by decide) ?_
      refine AllReadyH.cons rfl (fun K hK => ?_) AllReadyH.nil
      refine step_build_u64 (some 22) (by kernel_rfl) (by kernel_rfl) (.tmp 21) (by kernel_rfl) y (by kernel_rfl) ?_
      intro bw61 w61 hrw61 hbw61
      have oww61 := OwnI.below OD hbw61
      have bew61 := Below.trans BD (hbw61.mono (Below.size BD))
      refine hK.out _ _ ((HCL.out _ bew61)) (fun hw61 => ?_)
      clear hK K
      try simp only [Act.put, List.setIfInBounds_toArray, List.set_cons_zero, List.set_cons_succ]
      refine wpAnyH_ready (rs := [8]) (by kernel_rfl) (by decide) ?_
      refine AllReadyH.cons rfl (fun K hK => ?_) AllReadyH.nil
      refine step_append_d _ (some 23) (by kernel_rfl) (by kernel_rfl) (.tmp 15) (.tmp 22) 22 (by kernel_rfl) w.heap.size 24 ti _ 8 .u64 Tryz.underlying22 hti hz0 hz1 hzb rfl _ (S.take j) (by kernel_rfl) oww61 w61.heap.size (some ⟨bw61, 0, none⟩) 1 1 [y] (by kernel_rfl) hrw61 (by have h1 := HLJ.out; have h2 := HJK.out; simp only [maxLen]; omega) (by have h1 := HLJ.out; have h2 := HJK.out; omega) (Below.size bew61) ?_
      intro vw62 w62 how62 hgw62 hatw62
      have bew62 := OwnI.below_ oww61 bew61 (Below.size bew61) hgw62
      have oww62 := how62
      obtain ⟨Aw62, cw62, rfl, F1w62, F2w62⟩ := how62.form
      rw [HN2.out] at oww62 F1w62 ⊢
      rw [HLJ1.out] at oww62 F1w62 ⊢
      refine hK.out _ _ ((HCL.out _ bew62)) (fun hw62 => ?_)
      clear hK K
      try simp only [Act.put, List.setIfInBounds_toArray, List.set_cons_zero, List.set_cons_succ]
      refine held_v 17 (some 6) rfl (by kernel_rfl) (by kernel_rfl) (by kernel_rfl) (by kernel_rfl) (fun c a v w h => HQ2.out c a _ v w h) (by kernel_rfl) (.slice Aw62 (j + 1) cw62) (fun W h => by kernel_rfl) hw62 ?_
      try simp only [Act.put, List.setIfInBounds_toArray, List.set_cons_zero, List.set_cons_succ]
      refine held_v 18 (some 7) rfl (by kernel_rfl) (by kernel_rfl) (by kernel_rfl) (by kernel_rfl) (fun c a v w h => HQ2.out c a _ v w h) (by kernel_rfl) (.int .u64 (sumL (S.take (j + 1)))) (fun W h => by kernel_rfl) hw62 ?_
      try simp only [Act.put, List.setIfInBounds_toArray, List.set_cons_zero, List.set_cons_succ]
      refine wpAnyH_done (by kernel_rfl) ?_ _
      refine HQ1.out _ _ ?_
      clear HQ1 HQ2
      have OF := Lib.hid oww62
      have BF := Lib.hid bew62
      clear hH
      go_wp2
      go_roundw
      case rel => exact ⟨j + 1, by omega, by go_num, rfl, OF.out, BF.out⟩
      case measure => simp [intOf]; omega
    · obtain rfl : j = n := by omega
      have HRS := hown.rd (HLEN.out _ (Nat.le_refl _))
      rw [show S.take j = S from List.take_of_length_le (by rw [HLS.out]; exact Nat.le_refl _)] at HRS ⊢
      have H1 := Lib.hid HRS
      have H2 := Lib.hid hb
      have H3 := Lib.hid hl5
      have H4 := Lib.hid hm5
      clear hown hb HRS hl5 hm5
      go_wp2
      go_ret2
      exact ⟨A5, c5, rfl, H1.out, H3.out, H4.out, H2.out⟩
theorem apt_fresh {w : World} {n g : Nat} {A : Option Addr} (hf : ∀ b off, A = some ⟨b, off, none⟩ → w.heap.size ≤ b) (hg : g < w.heap.size) : Apt n A g := fun b off _ e => by have := hf b off e; omega
def RetSrc (w : World) (s : Src) (e : Ending) (w' : World) : Prop := ∃ A c, e = .returned (.agg (srcV s A c)) ∧ Rd .u8 w' w'.heap.size A s.tape.length s.tape ∧ s.tape.length ≤ c ∧ c ≤ maxLen ∧ Below w.heap.size w w'
set_option maxHeartbeats 4000000 in
theorem rstapeF_c (zs : List Int) (hzl : zs.length ≤ 1000000) (b : Int) (b0 : 0 ≤ b) (b1 : b < 18446744073709551616) (A : Option Addr) (n c : Nat) (w : World) (hrd : Rd .u8 w w.heap.size A n zs) (hnc : n ≤ c) (hbig : b ≤ 8 * (zs.length : Int)) : Calls Tryz.prog 52 #[.slice A n c, .int .u64 b] w (fun e w' => ∃ A' c', e = .returned (.tuple #[.agg (srcV (Src.tapeOf zs b) A' c'), .int .i64 0]) ∧ Rd .u8 w' w'.heap.size A' n zs ∧ n ≤ c' ∧ c' ≤ maxLen ∧ Below w.heap.size w w' ∧ ∀ g off, A' = some ⟨g, off, none⟩ → w.heap.size ≤ g) := by
  obtain ⟨i0, hi, hz0, hz1, hzb⟩ := info_parts info_u8'
  have hl := hrd.len
  have e1 : IntKind.u64.wrap (8 * (n : Int)) = 8 * n := by rw [IntKind.wrap_u64]; omega
  have HZ0 := Lib.hid zero_src
  obtain ⟨Z, hZ⟩ : ∃ Z, srcV Src.zero none 0 = Z := ⟨_, rfl⟩
  rw [hZ] at HZ0
  have hT := Lib.hid (fun (A' : Option Addr) (c' : Nat) => sizedS (Src.tapeOf zs b) (by rfl) A' c')
  have OT := Lib.hid (fun (A' : Option Addr) (c' : Nat) => srcV_ones (Src.tapeOf zs b) A' c')
  have ZT := Lib.hid (fun (A' : Option Addr) (c' : Nat) => srcV_same Src.zero (Src.tapeOf zs b) rfl (by rfl) none A' 0 c')
  have BT := Lib.hid (fun (a : Act) (o : Oper) (x y z : Operand) (W : World) (A' : Option Addr) (c' : Nat) h1 h2 (h3 : a.eval y = .slice A' n c') h4 => build_src1 (a := a) (o := o) (x := x) (y := y) (z := z) W A' c' zs b h1 h2 (by rw [hl]; exact h3) h4)
  rw [hZ] at ZT
  rw [hl] at hbig
  have HRD := Lib.hid hrd
  have HLZ := Lib.hid hl
  have hn : n ≤ 1000000 := by omega
  clear hZ hrd hl hzl
  go_enter Tryz.func52, Tryz.ntmps52
  go_wp2_with (first
    | (with_reducible refine at_any ?_; refine at_dst 4 rfl ?_; refine wpList_alloc_any rfl 40 rfl Z HZ0.out ?_; intro w1 hk1 hs1 hb1)
    | (at_builtin; refine wpList_append_ints _ rfl (.tmp 13) (.tmp 14) 36 rfl w.heap.size 5 i0 _ 1 .u8 Tryz.underlying36 hi hz0 hz1 hzb rfl _ [] rfl (own_empty w1 5 .u8 hb1.size) w.heap.size A n c zs rfl ((HRD.out.below hb1).alloc hb1.size _) (by simp [maxLen]; omega) (by simp; omega) (by have := hb1.size; simp; omega) ?_; intro v2 w2 hown2 hg2 hat2; have hb2 : Below w.heap.size w w2 := (own_empty w1 5 .u8 hb1.size).below_ (hb1.alloc hb1.size _) (by have := hb1.size; simp; omega) hg2; have hk2 : Blk w2 w.heap.size 40 Z := Blk.grown (hk1.out.alloc _) (own_empty w1 5 .u8 hb1.size) (by decide) hg2; simp only [List.nil_append] at hown2; obtain ⟨A2, c2, rfl, hc2, hm2⟩ := hown2.form; rw [HLZ.out] at hown2 hc2 ⊢; clear hg2 hat2)
    | (with_reducible refine at_any ?_; refine at_dst 17 rfl ?_; refine wpList_val rfl (.agg (srcV (Src.tapeOf zs b) A2 c2)) (BT.out _ _ _ _ _ _ A2 c2 rfl rfl rfl rfl) ?_)
    | (with_reducible refine at_any ?_; refine at_store 4 rfl ?_; refine wpList_store_any rfl 40 (.tmp 4) (.tmp 17) rfl w.heap.size rfl 40 Z (srcV (Src.tapeOf zs b) A2 c2) hk2 rfl (ZT.out _ _) (hT.out _ _) (OT.out _ _) ?_; intro w3 hk3 hs3 hb3 ho3)
    | (refine bodyPost_any2 4 5 40 rfl w.heap.size rfl (.int .i64 0) rfl 40 (srcV (Src.tapeOf zs b) A2 c2) hk3.out _ Tryz.underlying40 rfl (hT.out _ _) rfl ?_))
  exact ⟨A2, c2, rfl, ((hown2.rd HLZ.out).other ho3 (hown2.apart hk2 (by decide))).fit, hc2, hm2, hb2.trans (hb3 _ (Nat.le_refl _)), fun g off e => by subst e; exact hown2.block_ge g rfl⟩
set_option maxHeartbeats 4000000 in
theorem source_c (x B : Nat) (hx : x < 4294967296) (hB : B ≤ 31) (w : World) : Calls Tryz.prog 16 #[.int .u64 (x : Int), .int .i64 (B : Int)] w (RetSrc w (numT x B)) := by
  have HZ0 := Lib.hid zero_src
  have HZZ := Lib.hid (fun (s : Src) (h : s.seed.length = 32) (A : Option Addr) (c : Nat) => srcV_same Src.zero s rfl h none A 0 c)
  have okT := numT_ok x B (by omega)
  have HBY := Lib.hid (fun W => r8bytes_c x B hx hB W)
  have hlb := bytesB_len x B B
  have hcond : (B : Int) ≤ 8 * ((bytesB x B B).length : Int) := by rw [hlb]; omega
  have htp := fun A c W (h : Rd .u8 W W.heap.size A (bytesB x B B).length (bytesB x B B)) (hc : (bytesB x B B).length ≤ c) => rstapeF_c (bytesB x B B) (by rw [hlb]; omega) (B : Int) (by omega) (by omega) A (bytesB x B B).length c W h hc hcond
  have e1 : Src.tapeOf (bytesB x B B) (B : Int) = numT x B := rfl
  have e2 : (numT x B).tape = bytesB x B B := rfl
  rw [e1] at htp
  unfold RetSrc
  rw [e2]
  obtain ⟨S1, hS1⟩ : ∃ S, numT x B = S := ⟨_, rfl⟩
  rw [hS1] at htp okT ⊢
  obtain ⟨zs, hzs⟩ : ∃ zs, bytesB x B B = zs := ⟨_, rfl⟩
  rw [hzs] at htp HBY hlb ⊢
  unfold RetSl at HBY
  obtain ⟨L, hL⟩ : ∃ L, zs.length = L := ⟨_, rfl⟩
  rw [hL] at htp HBY ⊢
  have HTP := Lib.hid htp
  have HLS1 := Lib.hid okT.sl
  have bI : (B : Int) ≤ 31 := by omega
  have b0 : (0 : Int) ≤ (B : Int) := by omega
  obtain ⟨Z, hZ⟩ : ∃ Z, srcV Src.zero none 0 = Z := ⟨_, rfl⟩
  rw [hZ] at HZ0 HZZ
  have G0 := Lib.hid (Fx.bel0 w)
  have eB : IntKind.u64.wrap (B : Int) = (B : Int) := by rw [IntKind.wrap_u64]; omega
  clear okT htp hcond e1 e2 hS1 hzs hL hlb hZ hx hB
  go_enter Tryz.func16, Tryz.ntmps16
  go_wp2_with (first
    | (with_reducible refine at_any ?_; refine at_dst 4 rfl ?_; refine wpList_alloc_any rfl 40 rfl Z HZ0.out ?_; intro w1 hkw1 hsw1 hbw1; have U2 := Lib.hid (Fx.under_new G0.out rfl); have G3 := Lib.hid (Fx.newB G0.out hkw1.out hbw1); clear G0; clear hkw1 hsw1 hbw1)
    | (go_at_call 53; (with_reducible refine (HBY.out _).mono ?_); rintro e w4 ⟨A5, c6, rfl, hlw4, hmw4, hrw4, hbw4⟩; have lc6 := Lib.hid hlw4; have mc6 := Lib.hid hmw4; have G7 := Lib.hid (Fx.addR G3.out hbw4 hrw4); clear G3; clear hrw4 hbw4 hlw4 hmw4)
    | (go_at_call 52; (with_reducible refine (HTP.out _ _ _ (Fx.r0 G7.out) lc6.out).mono ?_); rintro e w8 ⟨A9, c10, rfl, hrw8, hlw8, hmw8, hbw8, hfr⟩; have HG4 := Lib.hid (apt_fresh (n := L) hfr (Blk.lt (Fx.b1 G7.out))); clear hfr; have lc10 := Lib.hid hlw8; have mc10 := Lib.hid hmw8; have G11 := Lib.hid (Fx.addR G7.out hbw8 hrw8); clear G7; clear hrw8 hbw8 hlw8 hmw8)
    | (with_reducible refine at_any ?_; refine at_dst 5 rfl ?_; refine wpList_alloc_any rfl 40 rfl Z HZ0.out ?_; intro w12 hkw12 hsw12 hbw12; have U13 := Lib.hid (Fx.under_new G11.out rfl); have G14 := Lib.hid (Fx.newB G11.out hkw12.out hbw12); clear G11; clear hkw12 hsw12 hbw12)
    | (with_reducible refine at_any ?_; refine at_store 5 rfl ?_; refine wpList_store_any rfl 40 (.tmp 5) (.tmp 14) rfl w8.heap.size rfl 40 Z (srcV S1 A9 c10) (Fx.b0 G14.out) rfl (HZZ.out S1 HLS1.out _ _) (sizedS S1 HLS1.out _ _) (srcV_ones _ _ _) ?_; intro w15 hkw15 hsw15 hbw15 how15; have G16 := Lib.hid (Fx.put1B G14.out U13.out hkw15.out hsw15.out hbw15 how15); clear G14; clear hkw15 hsw15 hbw15 how15)
    | (with_reducible refine at_any ?_; refine at_dst 16 rfl ?_; refine wpList_load_blk rfl 40 (.tmp 5) rfl w8.heap.size rfl 40 (srcV S1 A9 c10) (Fx.b0 G16.out) _ Tryz.underlying40 rfl (sizedS S1 HLS1.out _ _) ?_)
    | (with_reducible refine at_any ?_; refine at_store 4 rfl ?_; refine wpList_store_any rfl 40 (.tmp 4) (.tmp 16) rfl w.heap.size rfl 40 Z (srcV S1 A9 c10) (Fx.b3 G16.out) rfl (HZZ.out S1 HLS1.out _ _) (sizedS S1 HLS1.out _ _) (srcV_ones _ _ _) ?_; intro w17 hkw17 hsw17 hbw17 how17; have KR := Lib.hid hkw17.out; have RR := Lib.hid (Rd.other_ (Fx.r1 G16.out) HG4.out hsw17.out how17); have BR := Lib.hid (Below.trans (Fx.e4 G16.out) (hbw17 _ (Nat.le_refl _))); clear hkw17 hsw17 hbw17 how17)
    | (refine bodyPost_any 4 40 rfl w.heap.size rfl 40 (srcV S1 A9 c10) KR.out _ Tryz.underlying40 rfl (sizedS S1 HLS1.out _ _) rfl ?_))
  exact ⟨A9, c10, rfl, RR.out, lc10.out, mc10.out, BR.out⟩
end
section
theorem all_parts {b t : Nat} (h : mayB (b : Int) (t : Int) = true) : (∀ v, v < b → cnt (fun y => hits (oddP b) b t y == some v) (oddP b ^ t) * b + lostV b t = oddP b ^ t) ∧ noneL (oddP b) b t (oddP b ^ t) = lostV b t ∧ b * eachV b t + lostV b t = oddP b ^ t := by
  obtain ⟨h1, h2, -, -⟩ := mayB_iff.1 h
  have hs := odd_sum h
  have hp := odd_pow (b : Int) (t : Int)
  have hq := (need_in h1 h2).2
  rw [Int.toNat_natCast] at hs hp hq
  rw [← hp] at hs
  have hl : lostV (b : Int) (t : Int) = (oddP b - b) ^ t := by unfold lostV oddR; rw [Int.toNat_natCast, Int.toNat_natCast]
  refine ⟨fun v hv => ?_, ?_, hs⟩
  · rw [hl]; exact cnt_even (oddP b) b v hv hq t
  · rw [hl]; exact cnt_lost (oddP b) b t
theorem led_each {S : List Int} (hz : ∀ z ∈ S, 0 ≤ z) {b t : Nat} (hb : sumL S = (b : Int)) (h : mayB (b : Int) (t : Int) = true) {i : Nat} (hi : i < S.length) : ledC S (oddP b) b t i (oddP b ^ t) = (S.getD i 0).toNat * eachV b t := by
  obtain ⟨h1, -, h3⟩ := all_parts h
  have b1 := (mayB_iff.1 h).1
  have hc := led_count hz hb h1 hi
  have g0 := (getD_le hz hi).1
  obtain ⟨s, hs⟩ := Int.eq_ofNat_of_zero_le g0
  have e3 : ((oddP b ^ t : Nat) : Int) - (lostV b t : Nat) = (b : Int) * (eachV b t : Nat) := by rw [← h3]; push_cast; omega
  rw [e3, hs] at hc
  rw [hs, Int.toNat_natCast]
  unfold ledC
  have hb0 : 0 < b := by omega
  apply Nat.eq_of_mul_eq_mul_right hb0
  have : ((cnt (fun y => pickB (ownP S i) (hits (oddP b) b t y)) (oddP b ^ t) * b : Nat) : Int) = ((s * eachV b t * b : Nat) : Int) := by
    push_cast
    push_cast at hc
    rw [hc, Int.mul_assoc, Int.mul_comm (b : Int)]
  exact_mod_cast this
theorem leadR_all {S : List Int} (hz : ∀ z ∈ S, 0 ≤ z) {b t : Nat} (hb : sumL S = (b : Int)) (h : mayB (b : Int) (t : Int) = true) {i : Nat} (hi : i < S.length) : leadR' (i : Int) (t : Int) S = (0, natL (ledC S (oddP b) b t i (oddP b ^ t))) := by
  obtain ⟨h1, h2, h3, h4⟩ := mayB_iff.1 h
  unfold leadR'
  rw [if_pos ⟨h3, h4⟩, if_pos (by omega), if_neg (by omega), if_pos ⟨by omega, by omega⟩, Int.toNat_natCast, hb, shareR_ok h (by rw [← hb]; exact (getD_le hz hi).2), led_each hz hb h hi]
theorem pik_each {S : List Int} (hz : ∀ z ∈ S, 0 ≤ z) (ht : tbE S = 0) {tt b t : Nat} (hs : sumL S = (tt : Int)) (hb : S.length * tt = b) (h : mayB (b : Int) (t : Int) = true) {i : Nat} (hi : i < S.length) : pikC (tbT S) (tbC S) (oddP b) b t i (oddP b ^ t) = ((S.length : Int) * S.getD i 0).toNat * eachV b t := by
  obtain ⟨h1, -, h3⟩ := all_parts h
  have b1 := (mayB_iff.1 h).1
  have hc := pik_count hz ht hs hb h1 hi
  have g0 := (getD_le hz hi).1
  obtain ⟨s, hg⟩ := Int.eq_ofNat_of_zero_le g0
  have e3 : ((oddP b ^ t : Nat) : Int) - (lostV b t : Nat) = (b : Int) * (eachV b t : Nat) := by rw [← h3]; push_cast; omega
  rw [e3, hg] at hc
  rw [hg, ← Int.natCast_mul, Int.toNat_natCast]
  unfold pikC
  have t0 : 0 < tt := by
    rcases Nat.eq_zero_or_pos tt with h0 | h0
    · subst h0; rw [Nat.mul_zero] at hb; omega
    · exact h0
  apply Nat.eq_of_mul_eq_mul_right t0
  have : ((cnt (fun y => pickB (pikP (tbT S) (tbC S) i) (hits (oddP b) b t y)) (oddP b ^ t) * tt : Nat) : Int) = ((S.length * s * eachV b t * tt : Nat) : Int) := by
    rw [Int.natCast_mul, hc, ← Int.natCast_mul, ← Int.natCast_mul, ← hb]
    congr 1
    rw [Nat.mul_assoc, ← Nat.mul_assoc s, Nat.mul_comm s, Nat.mul_assoc S.length, Nat.mul_assoc S.length, Nat.mul_assoc, Nat.mul_assoc, Nat.mul_comm tt]
  exact_mod_cast this
theorem pickR_all {S : List Int} (hz : ∀ z ∈ S, 0 ≤ z) (ht : tbE S = 0) {tt b t : Nat} (hs : sumL S = (tt : Int)) (hb : S.length * tt = b) (h : mayB (b : Int) (t : Int) = true) {i : Nat} (hi : i < S.length) : pickR' (i : Int) (t : Int) S = (0, natL (pikC (tbT S) (tbC S) (oddP b) b t i (oddP b ^ t))) := by
  obtain ⟨h1, h2, h3, h4⟩ := mayB_iff.1 h
  have e := tbE_iff.1 ht
  have hB : (S.length : Int) * (tt : Int) = (b : Int) := by rw [← hb]; push_cast; rfl
  have g := getD_le hz hi
  unfold pickR'
  rw [if_pos ⟨h3, h4⟩, if_pos (by omega), if_neg (by omega), hs, hB, if_pos h2, if_pos ⟨by omega, by omega⟩, Int.toNat_natCast, shareR_ok h (by rw [← hB, ← hs]; exact Int.mul_le_mul_of_nonneg_left g.2 (by omega)), pik_each hz ht hs hb h hi]
end
section
open Go.ChangeShapes Go.WideShapes Go.ChangeAt Go.RowKit
theorem r8need_c (n : Int) (n0 : 0 ≤ n) (n1 : n < 18446744073709551616) (w : World) : Calls Tryz.prog 11 #[.int .u64 n] w fun e w' => e = .returned (.int .i64 (needN n : Nat)) ∧ w = w' := by
  by_cases h : n = 0
  · subst h
    go_enter Tryz.func11, Tryz.ntmps11
    go_wp2
    go_ret
    exact ⟨rfl, rfl⟩
  · have HB := Lib.hid (fun W => rbits_i (n - 1) (by omega) (by omega) W)
    have hR : needN n = Wd.bitsL (n - 1).toNat := by unfold needN; rw [if_neg h]
    rw [hR]
    obtain ⟨B, hB⟩ : ∃ B, Wd.bitsL (n - 1).toNat = B := ⟨_, rfl⟩
    rw [hB] at HB ⊢
    have t1 : (n == 0) = false := by rw [beq_eq_false_iff_ne]; exact h
    have e1 : IntKind.u64.wrap (n - 1) = n - 1 := by rw [IntKind.wrap_u64]; omega
    clear h hR hB
    go_enter Tryz.func11, Tryz.ntmps11
    go_wp2_with (go_at_call 44; (with_reducible refine (HB.out _).mono ?_); rintro e _ ⟨rfl, rfl⟩)
    go_ret
    exact ⟨rfl, rfl⟩
end
section
open Go.ChangeShapes Go.WideShapes Go.ChangeAt Go.RowKit
theorem open_rd {H : Type} {enc : TypeId × Value → H} {P : Program} {w : World} {base : Nat} {spare : Nat → Bool} {held : Bool} {t e : TypeId} {k : IntKind} {a : Option Addr} {len cap : Nat} {d : DataW H} {p : List MemPlace}
    (ht : P.underlying t = some (.slice e)) (he : P.underlying e = some (.int k)) (hc : P.cellsOf e = 1) (h : DataW.Trod enc P w base spare held t (.slice a len cap) d p) :
    ∃ zs : List Int, Rd k w w.heap.size a len zs ∧ len ≤ cap ∧ cap ≤ maxLen ∧ ∀ z ∈ zs, (Lit.int k z).wf = true := by
  obtain ⟨fuel, hf⟩ := h
  rcases open_ints ht he hc hf with ⟨hcs, _⟩ | ⟨x, l, c, zs, hcs, _, hl, hm, hz, _, hcell, hwz⟩
  · simp [Value.cells] at hcs
    obtain ⟨rfl, rfl, rfl⟩ := hcs
    exact ⟨[], Rd.none_, Nat.le_refl _, by simp [maxLen], fun _ h => by cases h⟩
  · simp [Value.cells] at hcs
    obtain ⟨rfl, rfl, rfl⟩ := hcs
    refine ⟨zs.take len, ⟨?_, fun hn => ?_⟩, hl, hm, fun z hz' => hwz z (List.mem_of_mem_take hz')⟩
    · have : len ≤ zs.length := by rw [hz]; split <;> omega
      rw [List.length_take]; omega
    · have hlen : len ≤ zs.length := by rw [hz]; split <;> omega
      obtain ⟨b, off, spot⟩ := x
      have h0 := hcell 0 (by omega)
      have hspot : spot = none := by simpa [Addr.add] using World.cell?_spot h0
      subst hspot
      have h1 : w.cell? ⟨b, off, none⟩ = some (.int k (zs.getD 0 0)) := by simpa [Addr.add] using h0
      refine ⟨b, off, rfl, World.block_lt_of_cell? w _ h1, fun j hj => ?_⟩
      have h2 := hcell j (by omega)
      rw [add_flat] at h2
      rw [h2]
      congr 2
      simp only [List.getD_eq_getElem?_getD, List.getElem?_take]
      rw [if_pos hj]
end
end Go.Proofs.YtkhlkggdibaefaaGreatDoor

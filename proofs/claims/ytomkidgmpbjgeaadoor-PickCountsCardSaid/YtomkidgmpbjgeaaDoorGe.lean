/-
  Texts of this claim, joined: PikA, LawT, OpenA, OpenC, SrcO, GrtR, RefNd, UniQ, UniB. What each shows, and its conditions, stand at its own head.
-/
import Derived.Test.YtomkidgmpbjgeaaDoorGd
import Derived.Test.YtomkidgmpbjgeaaDoorRows
import Derived.ShutString
import Derived.ChangeOld
import Derived.Deep.Matrix
/-
  What pick's calls return (Draw, List), and that memory is left as it was: over the landed alias and uniform.
  Conditions: the arguments lie in their types' ranges; there are at most 1000 stakes or cells; the table of constants holds what the text lays.
-/
set_option maxRecDepth 100000
set_option linter.unusedVariables false
set_option linter.unusedSimpArgs false
namespace Go.Proofs.YtomkidgmpbjgeaaDoor
open Go.ChangeShapes Go.WideShapes Go.ChangeAt Go.RowKit
theorem tb_laterA {v0 : World} {g : Nat} {t : TypeId} {cs : Array Value} (h : Blk v0 g t cs) : ∀ W, Below v0.heap.size v0 W → Blk W g t cs := fun _ hb => h.below hb h.lt
theorem pr_laterA {w v0 : World} {A : Option Addr} {n : Nat} {ts : List (Int × Int)} (h : RdPr .u64 .i64 w w.heap.size A n ts) (h0 : Below w.heap.size w v0) : ∀ W, Below v0.heap.size v0 W → RdPr .u64 .i64 W W.heap.size A n ts := fun _ hb => h.to (h0.trans (hb.mono h0.size))
theorem pr_keepA {v0 : World} {A : Option Addr} {n : Nat} {ts : List (Int × Int)} (h : RdPr .u64 .i64 v0 v0.heap.size A n ts) : ∀ W, Below v0.heap.size v0 W → RdPr .u64 .i64 W W.heap.size A n ts := fun _ hb => h.to hb
/-- A number that was drawn below a table's Size has an owner. -/
theorem pick_owns {T : Int} {ts : List (Int × Int)} (hr : tabR T ts = true) (s : Src) (a : Int) (h : (drawR s (tabZ T ts) a).2.2 = 0) : owE T ts (drawR s (tabZ T ts) a).1 = 0 := by
  have h1 : (drawR s (tabZ T ts) a).1 < tabZ T ts := by
    unfold drawR at h ⊢
    split
    next hb => rw [if_pos hb] at h; exact (drawGo_first _ _ _ _ h).1
    next hb => rw [if_neg hb] at h; exact absurd h (by show ¬ (1 : Int) = 0; omega)
  have hZe : tabZ T ts = (ts.length : Int) * T := if_pos hr
  unfold owE
  rw [if_pos hr, if_pos (by rw [← hZe]; exact h1)]
set_option maxHeartbeats 16000000 in
theorem q15draw_c (T : Int) (T0 : 0 ≤ T) (T1 : T < 18446744073709551616) (ts : List (Int × Int)) (hts : PrOk ts) (A : Option Addr) (n c : Nat) (hn : n ≤ 1000) (hnc : n ≤ c) (hnm : c ≤ maxLen) (s : Src) (ok : s.Ok) (a : Int) (a0 : -9223372036854775808 ≤ a) (a1 : a < 9223372036854775808) (A0 : Option Addr) (c0 : Nat) (hc : s.tape.length ≤ c0) (hcm : c0 ≤ maxLen) (w : World) (hrp : RdPr .u64 .i64 w w.heap.size A n ts) (hrd : Rd .u8 w w.heap.size A0 s.tape.length s.tape) (hkst : Kst w) :
    Calls Tryd.prog 11 #[.agg #[.int .u64 T, .slice A n c], .agg (srcV s A0 c0), .int .i64 a] w (RetLead w s A0 (pikT T ts s a)) := by
  have HKS := Lib.hid hkst
  have HZ0 := Lib.hid zero_src
  have hRd := Lib.hid hrd
  have hPr := Lib.hid hrp
  have HZSS := Lib.hid (fun (t : Src) (h : t.seed.length = 32) A c => srcV_same Src.zero t rfl h none A 0 c)
  have hsz := fun W h => q14size_c T T0 T1 ts hts A n c hn hnc hnm W h
  obtain ⟨Z, hZ⟩ : ∃ Z, srcV Src.zero none 0 = Z := ⟨_, rfl⟩
  rw [hZ] at HZ0 HZSS
  have SV := Lib.hid (sizedS s ok.sl A0 c0)
  have OV := Lib.hid (srcV_ones s A0 c0)
  have ZV := Lib.hid (HZSS.out s ok.sl A0 c0)
  cases hr : tabR T ts with
  | false =>
    rw [pikT_bad s a hr]
    rw [show tabZ T ts = 0 from if_neg (by rw [hr]; decide)] at hsz
    have HSZ := Lib.hid hsz
    have HEND0 : Hid (∀ V0, Below w.heap.size w V0 → ∀ w', RdP A0 s.tape.length s.tape w' → Below V0.heap.size V0 w' → RetLead w s A0 (0, s, 1) (.returned (.tuple #[.int .i64 0, .agg (srcV s A0 c0), .int .i64 1])) w') := Lib.hid (fun V0 h0 w' hr hb => ⟨A0, c0, rfl, hr, hc, hcm, .inl rfl, h0.trans (hb.mono h0.size)⟩)
    obtain ⟨rr, hrr⟩ : ∃ r : Int × Src × Int, (0, s, 1) = r := ⟨_, rfl⟩
    rw [hrr] at HEND0 ⊢
    obtain ⟨V, hV⟩ : ∃ V, srcV s A0 c0 = V := ⟨_, rfl⟩
    rw [hV] at SV OV ZV HEND0 ⊢
    obtain ⟨zs, hzs⟩ : ∃ zs, s.tape = zs := ⟨_, rfl⟩
    obtain ⟨L, hL⟩ : ∃ L, zs.length = L := ⟨_, rfl⟩
    rw [hzs, hL] at HEND0
    rw [hzs, hL] at hRd
    have HEND := HEND0
    clear HEND0 hrr hV hzs hL hsz hr hts hrd hrp hc hcm hZ hn hnc hnm a0 a1 HZSS T0 T1 hkst
    go_enter Tryd.func11, Tryd.ntmps11
    go_wp2_with (first
      | (with_reducible refine at_any ?_; refine at_dst 3 rfl ?_; refine wpList_box_any rfl 28 (.tmp 0) rfl #[.int .u64 T, .slice A n c] rfl ?_; intro v0 hk0 hs0 hb0; have HB0 := Lib.hid hb0; have HK0 := Lib.hid (HKS.out.below hb0); have HRD0 := Lib.hid ((Rd.below hRd.out hb0).mono (Below.size hb0)); have HTB := Lib.hid (tb_laterA hk0.out); have HPR := Lib.hid (pr_laterA hPr.out hb0); clear hk0 hs0 hb0)
      | (with_reducible refine at_any ?_; refine at_dst 4 rfl ?_; refine wpList_box_any rfl 37 (.tmp 1) rfl V rfl ?_; intro w1 hk1 hs1 hb1)
      | (with_reducible refine at_any ?_; refine at_dst 7 rfl ?_; refine wpList_alloc_any rfl 37 rfl Z HZ0.out ?_; intro w2 hk2 hs2 hb2; have HS2 := Lib.hid (DrS.mk2 HRD0.out hk1.out hb1 hk2.out hb2 (Below.refl _ _)); have HZ2 := Lib.hid (fx1 hk2.out); have HBT := Lib.hid (HTB.out _ HS2.out.bel); have HPT := Lib.hid (HPR.out _ HS2.out.bel); clear hs1 hb1 hs2 hb2)
      | (with_reducible refine at_any ?_; refine at_dst 14 rfl ?_; refine wpList_load_tab (by kernel_rfl) (.tmp 3) rfl w.heap.size rfl 28 (.int .u64 T) (.slice A n c) HBT.out ?_)
      | (go_at_call 19; (with_reducible refine (HSZ.out _ HPT.out).mono ?_); rintro e w3 ⟨rfl, hb3⟩; have HS := Lib.hid (DrS.below HS2.out hb3); have HZ := Lib.hid (Fx.below HZ2.out hb3); clear HS2 HZ2 hb3))
    obtain ⟨g4, hg4⟩ : ∃ g, v0.heap.size = g := ⟨_, rfl⟩
    obtain ⟨g7, hg7⟩ : ∃ g, w1.heap.size = g := ⟨_, rfl⟩
    have HS9 := HS.out
    have HZ9 := HZ.out
    rw [hg4, hg7] at HS9
    rw [hg7] at HZ9
    rw [hg4, hg7]
    clear hg4 hg7 hk1 hk2 HS HZ
    have HZ7 := HZ9.drew
    refine wp_region_held_drew (S := (DrS v0 g4 g7 V A0 L zs)) (by kernel_rfl) HS9.drew (fun hH => ?_)
    refine wpAnyH_letter #[false, false, false, false] (by kernel_rfl) (fun _ _ d _ _ h => by cases d <;> exact h) (fun QL HQ1 HQ2 => ?_)
    refine held_row 0 (some 18) rfl (by kernel_rfl) (by kernel_rfl) (by kernel_rfl) (by kernel_rfl) (fun c a v w h => HQ2.out c a _ v w h) (by kernel_rfl) 37 (.tmp 4) rfl g4 (by kernel_rfl) 37 V (fun _ h => h.blk) _ Tryd.underlying37 rfl SV.out hH ?_
    try simp only [Act.put, List.setIfInBounds_toArray, List.set_cons_zero, List.set_cons_succ]
    refine held_v 1 (some 6) rfl (by kernel_rfl) (by kernel_rfl) (by kernel_rfl) (by kernel_rfl) (fun c a v w h => HQ2.out c a _ v w h) (by kernel_rfl) (.int .i64 0) (fun W h => by kernel_rfl) hH ?_
    try simp only [Act.put, List.setIfInBounds_toArray, List.set_cons_zero, List.set_cons_succ]
    refine wpAnyH_ready (rs := [2]) (by kernel_rfl) (by decide) ?_
    refine AllReadyH.cons rfl (fun K hK => ?_) AllReadyH.nil
    refine step_store none (by kernel_rfl) (by kernel_rfl) 37 (.tmp 7) (.tmp 18) rfl g7 (by kernel_rfl) 37 Z V HZ7.1 (by kernel_rfl) ZV.out SV.out OV.out ?_
    intro w41 hkw41 hsw41 hbw41 how41
    have ex42 : Fx [.blk g7 37 V] w41 := ⟨hkw41.out, trivial⟩
    refine hK.out _ _ (hH.store HZ7.1 hH.store7 hsw41.out hbw41 how41) (fun hw41 => ?_)
    clear hK K
    try simp only [Act.put, List.setIfInBounds_toArray, List.set_cons_zero, List.set_cons_succ]
    refine held_v 3 (some 8) rfl (by kernel_rfl) (by kernel_rfl) (by kernel_rfl) (by kernel_rfl) (fun c a v w h => HQ2.out c a _ v w h) (by kernel_rfl) (.int .i64 1) (fun W h => by kernel_rfl) hw41 ?_
    try simp only [Act.put, List.setIfInBounds_toArray, List.set_cons_zero, List.set_cons_succ]
    refine wpAnyH_done (by kernel_rfl) ?_ _
    refine HQ1.out _ _ ?_
    clear HQ1 HQ2
    go_wp2_with (refine bodyPost_mid 6 7 8 37 rfl g7 rfl (.int .i64 0) (.int .i64 1) rfl rfl 37 V ex42.1 _ Tryd.underlying37 rfl SV.out rfl ?_)
    exact HEND.out v0 HB0.out _ hw41.rd hw41.bel
  | true =>
    rw [pikT_go s a hr]
    obtain ⟨q0, q1, q2, -⟩ := tabR_iff.1 hr
    have hZe : tabZ T ts = (ts.length : Int) * T := if_pos hr
    have z1 : 0 ≤ tabZ T ts := by rw [hZe]; exact Int.mul_nonneg (by omega) (by omega)
    have z2 : tabZ T ts < 18446744073709551616 := by rw [hZe]; omega
    have hnz : tabZ T ts ≠ 0 := by
      rw [hZe]
      intro h
      rcases Int.mul_eq_zero.1 h with h | h <;> omega
    have hdr := fun W h hk => q8draw_c s ok (tabZ T ts) z1 z2 a a0 a1 A0 c0 hc hcm W h hk
    have okt : (drawT s (tabZ T ts) a).Ok := drawT_ok s (tabZ T ts) a ok
    have how := fun W h => q14owner_c T T0 T1 ts hts A n c hn hnc hnm W h (drawR s (tabZ T ts) a).1 (draw_in s (tabZ T ts) a).1 (draw_in s (tabZ T ts) a).2
    have hoz := pick_owns hr s a
    have HEND0 : Hid (∀ V0, Below w.heap.size w V0 → ∀ A2 c2 w', Sep V0 A0 A2 → s.tape.length ≤ c2 → c2 ≤ maxLen → RdP A2 s.tape.length s.tape w' → Below V0.heap.size V0 w' → RetLead w s A0 (pikGo T ts (drawR s (tabZ T ts) a)) (.returned (.tuple #[.int .i64 (pikGo T ts (drawR s (tabZ T ts) a)).1, .agg (srcV (pikGo T ts (drawR s (tabZ T ts) a)).2.1 A2 c2), .int .i64 (pikGo T ts (drawR s (tabZ T ts) a)).2.2])) w') := Lib.hid (fun V0 h0 A2 c2 w' h1 h2 h3 h4 h5 => ⟨A2, c2, rfl, h4, h2, h3, sep_from h1 h0.size, h0.trans (h5.mono h0.size)⟩)
    have hgo : (drawR s (tabZ T ts) a).2.2 = 0 → pikGo T ts (drawR s (tabZ T ts) a) = (owV T ts (drawR s (tabZ T ts) a).1, (drawR s (tabZ T ts) a).2.1, 0) := fun h => if_pos h
    have hgn : (drawR s (tabZ T ts) a).2.2 ≠ 0 → pikGo T ts (drawR s (tabZ T ts) a) = (0, (drawR s (tabZ T ts) a).2.1, (drawR s (tabZ T ts) a).2.2) := fun h => if_neg h
    obtain ⟨N, hN⟩ : ∃ x, tabZ T ts = x := ⟨_, rfl⟩
    rw [hN] at hsz hdr okt how HEND0 hgo hgn hoz hnz ⊢
    obtain ⟨t, ht⟩ : ∃ x, drawT s N a = x := ⟨_, rfl⟩
    have ht2 : (drawR s N a).2.1 = t := ht
    obtain ⟨x, hx⟩ : ∃ x, (drawR s N a).1 = x := ⟨_, rfl⟩
    obtain ⟨E, hE⟩ : ∃ x, (drawR s N a).2.2 = x := ⟨_, rfl⟩
    rw [ht] at okt
    unfold RetDraw at hdr
    rw [ht2, hx, hE] at hdr hgo
    rw [ht2, hE] at hgn
    rw [hx, hE] at hoz
    rw [hx] at how
    have t1 : (N == 0) = false := by rw [beq_eq_false_iff_ne]; exact hnz
    have HSZ := Lib.hid hsz
    have HDR0 := Lib.hid hdr
    have ST := Lib.hid (fun A c => sizedS t okt.sl A c)
    have OT := Lib.hid (fun A c => srcV_ones t A c)
    have ZT := Lib.hid (fun A c => HZSS.out t okt.sl A c)
    obtain ⟨ov, hov⟩ : ∃ y, owV T ts x = y := ⟨_, rfl⟩
    obtain ⟨oe, hoe⟩ : ∃ y, owE T ts x = y := ⟨_, rfl⟩
    rw [hov, hoe] at how
    rw [hoe] at hoz
    rw [hov] at hgo
    have HOW := Lib.hid how
    by_cases hE0 : E = 0
    · have e1 := hgo hE0
      rw [hoz hE0] at HOW
      rw [e1] at HEND0 ⊢
      have t2 : (E == 0) = true := by rw [beq_iff_eq]; exact hE0
      have t3 : (E != 0) = false := by rw [bne, t2]; rfl
      obtain ⟨rr, hrr⟩ : ∃ r : Int × Src × Int, (ov, t, 0) = r := ⟨_, rfl⟩
      have HEND1 : Hid (∀ V0, Below w.heap.size w V0 → ∀ A2 c2 w', Sep V0 A0 A2 → s.tape.length ≤ c2 → c2 ≤ maxLen → RdP A2 s.tape.length s.tape w' → Below V0.heap.size V0 w' → RetLead w s A0 rr (.returned (.tuple #[.int .i64 ov, .agg (srcV t A2 c2), .int .i64 0])) w') := by rw [← hrr]; exact HEND0
      rw [hrr]
      obtain ⟨V, hV⟩ : ∃ V, srcV s A0 c0 = V := ⟨_, rfl⟩
      have HDR := HDR0
      rw [hV] at SV OV ZV HDR ⊢
      obtain ⟨zs, hzs⟩ : ∃ zs, s.tape = zs := ⟨_, rfl⟩
      obtain ⟨L, hL⟩ : ∃ L, zs.length = L := ⟨_, rfl⟩
      rw [hzs, hL] at HEND1 hRd HDR
      have HEND := HEND1
      clear HEND1 HEND0 HDR0 hrr hV hzs hL hsz hdr how hgo hgn e1 hoz hov hoe hx hE ht ht2 hN okt hts hrd hrp hc hcm hZ hn hnc hnm a0 a1 HZSS hnz hE0 hr hkst T0 T1 z1 z2 hZe q0 q1 q2
      go_enter Tryd.func11, Tryd.ntmps11
      go_wp2_with (first
        | (with_reducible refine at_any ?_; refine at_dst 3 rfl ?_; refine wpList_box_any rfl 28 (.tmp 0) rfl #[.int .u64 T, .slice A n c] rfl ?_; intro v0 hk0 hs0 hb0; have HB0 := Lib.hid hb0; have HK0 := Lib.hid (HKS.out.below hb0); have HRD0 := Lib.hid ((Rd.below hRd.out hb0).mono (Below.size hb0)); have HTB := Lib.hid (tb_laterA hk0.out); have HPR := Lib.hid (pr_laterA hPr.out hb0); clear hk0 hs0 hb0)
        | (with_reducible refine at_any ?_; refine at_dst 4 rfl ?_; refine wpList_box_any rfl 37 (.tmp 1) rfl V rfl ?_; intro w1 hk1 hs1 hb1)
        | (with_reducible refine at_any ?_; refine at_dst 7 rfl ?_; refine wpList_alloc_any rfl 37 rfl Z HZ0.out ?_; intro w2 hk2 hs2 hb2; have HS2 := Lib.hid (DrS.mk2 HRD0.out hk1.out hb1 hk2.out hb2 (Below.refl _ _)); have HZ2 := Lib.hid (fx1 hk2.out); have HBT := Lib.hid (HTB.out _ HS2.out.bel); have HPT := Lib.hid (HPR.out _ HS2.out.bel); clear hs1 hb1 hs2 hb2)
        | (with_reducible refine at_any ?_; refine at_dst 14 rfl ?_; refine wpList_load_tab (by kernel_rfl) (.tmp 3) rfl w.heap.size rfl 28 (.int .u64 T) (.slice A n c) HBT.out ?_)
        | (go_at_call 19; (with_reducible refine (HSZ.out _ HPT.out).mono ?_); rintro e w3 ⟨rfl, hb3⟩; have HS := Lib.hid (DrS.below HS2.out hb3); have HZ := Lib.hid (Fx.below HZ2.out hb3); clear HS2 HZ2 hb3)
        | (with_reducible refine at_any ?_; refine at_dst 20 rfl ?_; refine wpList_load_blk rfl 37 (.tmp 4) rfl v0.heap.size rfl 37 V HS.out.blk _ Tryd.underlying37 rfl SV.out ?_)
        | (go_at_call 20; (with_reducible refine (HDR.out _ HS.out.rd.rd (HK0.out.below HS.out.bel)).mono ?_); rintro e w5 ⟨A2, c2, rfl, hrd2, hc2, hm2, hsp2, hb5⟩; obtain ⟨V2, hV2⟩ : ∃ V2, srcV t A2 c2 = V2 := ⟨_, rfl⟩; have SV2 := Lib.hid (ST.out A2 c2); have OV2 := Lib.hid (OT.out A2 c2); have ZV2 := Lib.hid (ZT.out A2 c2); have HH2 := Lib.hid (fun w' h3 h4 => HEND.out v0 HB0.out A2 c2 w' (sep_from hsp2 HS.out.bel.size) hc2 hm2 h3 h4); rw [hV2] at SV2 OV2 ZV2 HH2 ⊢; clear hV2 hc2 hm2)
        | (with_reducible refine at_any ?_; refine at_dst 11 rfl ?_; refine wpList_alloc_any rfl 37 rfl Z HZ0.out ?_; intro w6 hk6 hs6 hb6)
        | (with_reducible refine at_any ?_; refine at_store 11 rfl ?_; refine wpList_store_any rfl 37 (.tmp 11) (.tmp 25) rfl w5.heap.size rfl 37 Z V2 hk6.out rfl ZV2.out SV2.out OV2.out ?_; intro w7 hk7 hs7 hb7 ho7; have TK := Lib.hid (DrS.took HS.out HZ.out hrd2 hsp2 hb5 hb6 hk6.out hk7.out hs7.out hb7 ho7); have HBU := Lib.hid (HTB.out _ TK.out.2.2.2.2.2.bel); have HPU := Lib.hid (HPR.out _ TK.out.2.2.2.2.2.bel))
        | (with_reducible refine at_any ?_; refine at_dst 32 rfl ?_; refine wpList_load_tab (by kernel_rfl) (.tmp 3) rfl w.heap.size rfl 28 (.int .u64 T) (.slice A n c) HBU.out ?_)
        | (go_at_call 21; (with_reducible refine (HOW.out _ HPU.out).mono ?_); rintro e w8 ⟨rfl, hb8⟩))
      obtain ⟨-, HZ9, -, -, -, HD⟩ := TK.out
      have HZ9 := HZ9.below hb8
      have HD := HD.below hb8
      obtain ⟨g7, hg7⟩ : ∃ g, w1.heap.size = g := ⟨_, rfl⟩
      obtain ⟨g11, hg11⟩ : ∃ g, w5.heap.size = g := ⟨_, rfl⟩
      rw [hg7] at HZ9 HD
      rw [hg11] at HD
      rw [hg7, hg11]
      clear hg7 hg11 TK
      have HZ7 := HZ9.drew
      refine wp_region_held_drew (S := (DrH v0 g7 g11 V2 A2 L zs)) (by kernel_rfl) HD.drew (fun hH => ?_)
      refine wpAnyH_letter #[false, false, false, false, false, false] (by kernel_rfl) (fun _ _ d _ _ h => by cases d <;> exact h) (fun QL HQ1 HQ2 => ?_)
      refine held_v 0 (some 37) rfl (by kernel_rfl) (by kernel_rfl) (by kernel_rfl) (by kernel_rfl) (fun c a v w h => HQ2.out c a _ v w h) (by kernel_rfl) (.int .i64 ov) (fun W h => by kernel_rfl) hH ?_
      try simp only [Act.put, List.setIfInBounds_toArray, List.set_cons_zero, List.set_cons_succ]
      refine held_row 1 (some 38) rfl (by kernel_rfl) (by kernel_rfl) (by kernel_rfl) (by kernel_rfl) (fun c a v w h => HQ2.out c a _ v w h) (by kernel_rfl) 37 (.tmp 11) rfl g11 (by kernel_rfl) 37 V2 (fun _ h => h.blk) _ Tryd.underlying37 rfl SV2.out hH ?_
      try simp only [Act.put, List.setIfInBounds_toArray, List.set_cons_zero, List.set_cons_succ]
      refine held_v 2 (some 39) rfl (by kernel_rfl) (by kernel_rfl) (by kernel_rfl) (by kernel_rfl) (fun c a v w h => HQ2.out c a _ v w h) (by kernel_rfl) (.int .i64 0) (fun W h => by kernel_rfl) hH ?_
      try simp only [Act.put, List.setIfInBounds_toArray, List.set_cons_zero, List.set_cons_succ]
      refine held_v 3 (some 6) rfl (by kernel_rfl) (by kernel_rfl) (by kernel_rfl) (by kernel_rfl) (fun c a v w h => HQ2.out c a _ v w h) (by kernel_rfl) (.int .i64 ov) (fun W h => by kernel_rfl) hH ?_
      try simp only [Act.put, List.setIfInBounds_toArray, List.set_cons_zero, List.set_cons_succ]
      refine wpAnyH_ready (rs := [4]) (by kernel_rfl) (by decide) ?_
      refine AllReadyH.cons rfl (fun K hK => ?_) AllReadyH.nil
      refine step_store none (by kernel_rfl) (by kernel_rfl) 37 (.tmp 7) (.tmp 38) rfl g7 (by kernel_rfl) 37 Z V2 HZ7.1 (by kernel_rfl) ZV2.out SV2.out OV2.out ?_
      intro w141 hkw141 hsw141 hbw141 how141
      have ex142 : Fx [.blk g7 37 V2] w141 := ⟨hkw141.out, trivial⟩
      refine hK.out _ _ (hH.store HZ7.1 hH.store7 hsw141.out hbw141 how141) (fun hw141 => ?_)
      clear hK K
      try simp only [Act.put, List.setIfInBounds_toArray, List.set_cons_zero, List.set_cons_succ]
      refine held_v 5 (some 8) rfl (by kernel_rfl) (by kernel_rfl) (by kernel_rfl) (by kernel_rfl) (fun c a v w h => HQ2.out c a _ v w h) (by kernel_rfl) (.int .i64 0) (fun W h => by kernel_rfl) hw141 ?_
      try simp only [Act.put, List.setIfInBounds_toArray, List.set_cons_zero, List.set_cons_succ]
      refine wpAnyH_done (by kernel_rfl) ?_ _
      refine HQ1.out _ _ ?_
      clear HQ1 HQ2
      go_wp2_with (refine bodyPost_mid 6 7 8 37 rfl g7 rfl (.int .i64 ov) (.int .i64 0) rfl rfl 37 V2 ex142.1 _ Tryd.underlying37 rfl SV2.out rfl ?_)
      exact HH2.out _ hw141.rd.rd hw141.bel
    · have e1 := hgn hE0
      rw [e1] at HEND0 ⊢
      have t2 : (E == 0) = false := by rw [beq_eq_false_iff_ne]; exact hE0
      have t3 : (E != 0) = true := by rw [bne, t2]; rfl
      obtain ⟨rr, hrr⟩ : ∃ r : Int × Src × Int, (0, t, E) = r := ⟨_, rfl⟩
      have HEND1 : Hid (∀ V0, Below w.heap.size w V0 → ∀ A2 c2 w', Sep V0 A0 A2 → s.tape.length ≤ c2 → c2 ≤ maxLen → RdP A2 s.tape.length s.tape w' → Below V0.heap.size V0 w' → RetLead w s A0 rr (.returned (.tuple #[.int .i64 0, .agg (srcV t A2 c2), .int .i64 E])) w') := by rw [← hrr]; exact HEND0
      rw [hrr]
      obtain ⟨V, hV⟩ : ∃ V, srcV s A0 c0 = V := ⟨_, rfl⟩
      have HDR := HDR0
      rw [hV] at SV OV ZV HDR ⊢
      obtain ⟨zs, hzs⟩ : ∃ zs, s.tape = zs := ⟨_, rfl⟩
      obtain ⟨L, hL⟩ : ∃ L, zs.length = L := ⟨_, rfl⟩
      rw [hzs, hL] at HEND1 hRd HDR
      have HEND := HEND1
      clear HEND1 HEND0 HDR0 hrr hV hzs hL hsz hdr how hgo hgn e1 hoz hov hoe hx hE ht ht2 hN okt hts hrd hrp hc hcm hZ hn hnc hnm a0 a1 HZSS hnz hE0 hr hkst T0 T1 z1 z2 hZe q0 q1 q2
      go_enter Tryd.func11, Tryd.ntmps11
      go_wp2_with (first
        | (with_reducible refine at_any ?_; refine at_dst 3 rfl ?_; refine wpList_box_any rfl 28 (.tmp 0) rfl #[.int .u64 T, .slice A n c] rfl ?_; intro v0 hk0 hs0 hb0; have HB0 := Lib.hid hb0; have HK0 := Lib.hid (HKS.out.below hb0); have HRD0 := Lib.hid ((Rd.below hRd.out hb0).mono (Below.size hb0)); have HTB := Lib.hid (tb_laterA hk0.out); have HPR := Lib.hid (pr_laterA hPr.out hb0); clear hk0 hs0 hb0)
        | (with_reducible refine at_any ?_; refine at_dst 4 rfl ?_; refine wpList_box_any rfl 37 (.tmp 1) rfl V rfl ?_; intro w1 hk1 hs1 hb1)
        | (with_reducible refine at_any ?_; refine at_dst 7 rfl ?_; refine wpList_alloc_any rfl 37 rfl Z HZ0.out ?_; intro w2 hk2 hs2 hb2; have HS2 := Lib.hid (DrS.mk2 HRD0.out hk1.out hb1 hk2.out hb2 (Below.refl _ _)); have HZ2 := Lib.hid (fx1 hk2.out); have HBT := Lib.hid (HTB.out _ HS2.out.bel); have HPT := Lib.hid (HPR.out _ HS2.out.bel); clear hs1 hb1 hs2 hb2)
        | (with_reducible refine at_any ?_; refine at_dst 14 rfl ?_; refine wpList_load_tab (by kernel_rfl) (.tmp 3) rfl w.heap.size rfl 28 (.int .u64 T) (.slice A n c) HBT.out ?_)
        | (go_at_call 19; (with_reducible refine (HSZ.out _ HPT.out).mono ?_); rintro e w3 ⟨rfl, hb3⟩; have HS := Lib.hid (DrS.below HS2.out hb3); have HZ := Lib.hid (Fx.below HZ2.out hb3); clear HS2 HZ2 hb3)
        | (with_reducible refine at_any ?_; refine at_dst 20 rfl ?_; refine wpList_load_blk rfl 37 (.tmp 4) rfl v0.heap.size rfl 37 V HS.out.blk _ Tryd.underlying37 rfl SV.out ?_)
        | (go_at_call 20; (with_reducible refine (HDR.out _ HS.out.rd.rd (HK0.out.below HS.out.bel)).mono ?_); rintro e w5 ⟨A2, c2, rfl, hrd2, hc2, hm2, hsp2, hb5⟩; obtain ⟨V2, hV2⟩ : ∃ V2, srcV t A2 c2 = V2 := ⟨_, rfl⟩; have SV2 := Lib.hid (ST.out A2 c2); have OV2 := Lib.hid (OT.out A2 c2); have ZV2 := Lib.hid (ZT.out A2 c2); have HH2 := Lib.hid (fun w' h3 h4 => HEND.out v0 HB0.out A2 c2 w' (sep_from hsp2 HS.out.bel.size) hc2 hm2 h3 h4); rw [hV2] at SV2 OV2 ZV2 HH2 ⊢; clear hV2 hc2 hm2)
        | (with_reducible refine at_any ?_; refine at_dst 11 rfl ?_; refine wpList_alloc_any rfl 37 rfl Z HZ0.out ?_; intro w6 hk6 hs6 hb6)
        | (with_reducible refine at_any ?_; refine at_store 11 rfl ?_; refine wpList_store_any rfl 37 (.tmp 11) (.tmp 25) rfl w5.heap.size rfl 37 Z V2 hk6.out rfl ZV2.out SV2.out OV2.out ?_; intro w7 hk7 hs7 hb7 ho7; have TK := Lib.hid (DrS.took HS.out HZ.out hrd2 hsp2 hb5 hb6 hk6.out hk7.out hs7.out hb7 ho7); have HBU := Lib.hid (HTB.out _ TK.out.2.2.2.2.2.bel); have HPU := Lib.hid (HPR.out _ TK.out.2.2.2.2.2.bel)))
      obtain ⟨-, HZ9, -, -, -, HD⟩ := TK.out
      obtain ⟨g7, hg7⟩ : ∃ g, w1.heap.size = g := ⟨_, rfl⟩
      obtain ⟨g11, hg11⟩ : ∃ g, w5.heap.size = g := ⟨_, rfl⟩
      rw [hg7] at HZ9 HD
      rw [hg11] at HD
      rw [hg7, hg11]
      clear hg7 hg11 TK
      have HZ7 := HZ9.drew
      refine wp_region_held_drew (S := (DrH v0 g7 g11 V2 A2 L zs)) (by kernel_rfl) HD.drew (fun hH => ?_)
      refine wpAnyH_letter #[false, false, false, false, false] (by kernel_rfl) (fun _ _ d _ _ h => by cases d <;> exact h) (fun QL HQ1 HQ2 => ?_)
      refine held_row 0 (some 29) rfl (by kernel_rfl) (by kernel_rfl) (by kernel_rfl) (by kernel_rfl) (fun c a v w h => HQ2.out c a _ v w h) (by kernel_rfl) 37 (.tmp 11) rfl g11 (by kernel_rfl) 37 V2 (fun _ h => h.blk) _ Tryd.underlying37 rfl SV2.out hH ?_
      try simp only [Act.put, List.setIfInBounds_toArray, List.set_cons_zero, List.set_cons_succ]
      refine held_v 1 (some 30) rfl (by kernel_rfl) (by kernel_rfl) (by kernel_rfl) (by kernel_rfl) (fun c a v w h => HQ2.out c a _ v w h) (by kernel_rfl) (.int .i64 E) (fun W h => by kernel_rfl) hH ?_
      try simp only [Act.put, List.setIfInBounds_toArray, List.set_cons_zero, List.set_cons_succ]
      refine held_v 2 (some 6) rfl (by kernel_rfl) (by kernel_rfl) (by kernel_rfl) (by kernel_rfl) (fun c a v w h => HQ2.out c a _ v w h) (by kernel_rfl) (.int .i64 0) (fun W h => by kernel_rfl) hH ?_
      try simp only [Act.put, List.setIfInBounds_toArray, List.set_cons_zero, List.set_cons_succ]
      refine wpAnyH_ready (rs := [3]) (by kernel_rfl) (by decide) ?_
      refine AllReadyH.cons rfl (fun K hK => ?_) AllReadyH.nil
      refine step_store none (by kernel_rfl) (by kernel_rfl) 37 (.tmp 7) (.tmp 29) rfl g7 (by kernel_rfl) 37 Z V2 HZ7.1 (by kernel_rfl) ZV2.out SV2.out OV2.out ?_
      intro w141 hkw141 hsw141 hbw141 how141
      have ex142 : Fx [.blk g7 37 V2] w141 := ⟨hkw141.out, trivial⟩
      refine hK.out _ _ (hH.store HZ7.1 hH.store7 hsw141.out hbw141 how141) (fun hw141 => ?_)
      clear hK K
      try simp only [Act.put, List.setIfInBounds_toArray, List.set_cons_zero, List.set_cons_succ]
      refine held_v 4 (some 8) rfl (by kernel_rfl) (by kernel_rfl) (by kernel_rfl) (by kernel_rfl) (fun c a v w h => HQ2.out c a _ v w h) (by kernel_rfl) (.int .i64 E) (fun W h => by kernel_rfl) hw141 ?_
      try simp only [Act.put, List.setIfInBounds_toArray, List.set_cons_zero, List.set_cons_succ]
      refine wpAnyH_done (by kernel_rfl) ?_ _
      refine HQ1.out _ _ ?_
      clear HQ1 HQ2
      go_wp2_with (refine bodyPost_mid 6 7 8 37 rfl g7 rfl (.int .i64 0) (.int .i64 E) rfl rfl 37 V2 ex142.1 _ Tryd.underlying37 rfl SV2.out rfl ?_)
      exact HH2.out _ hw141.rd.rd hw141.bel
set_option maxHeartbeats 16000000 in
theorem q15list_c (l : List Int) (hz : ∀ z ∈ l, 0 ≤ z ∧ z < 18446744073709551616) (AL : Option Addr) (n c : Nat) (hn : n ≤ 1000) (s : Src) (ok : s.Ok) (a : Int) (a0 : -9223372036854775808 ≤ a) (a1 : a < 9223372036854775808) (A0 : Option Addr) (c0 : Nat) (hc0 : s.tape.length ≤ c0) (hcm0 : c0 ≤ maxLen) (w : World) (hrl : Rd .u64 w w.heap.size AL n l) (hrd : Rd .u8 w w.heap.size A0 s.tape.length s.tape) (hkst : Kst w) :
    Calls Tryd.prog 13 #[.agg (srcV s A0 c0), .int .i64 a, .slice AL n c] w (RetLead w s A0 (pikR l s a)) := by
  have HKS := Lib.hid hkst
  have HZ0 := Lib.hid zero_src
  have hRd := Lib.hid hrd
  have HRL : Hid (∀ W, Below w.heap.size w W → Rd .u64 W W.heap.size AL n l) := Lib.hid (fun W hb => (hrl.below hb).mono hb.size)
  have HZSS := Lib.hid (fun (t : Src) (h : t.seed.length = 32) A c => srcV_same Src.zero t rfl h none A 0 c)
  have hlen := hrl.len
  have hz0 : ∀ z ∈ l, 0 ≤ z := fun z h => (hz z h).1
  have hbd := fun W h => q14build_c l hz AL n c hn W h
  obtain ⟨q0, q1, q2, q3⟩ := tb_in hz0
  have hPO := q3 (by omega)
  have hdw := fun A' c' (h3 : (tbC l).length ≤ c') (h4 : c' ≤ maxLen) W h1 h2 h5 => q15draw_c (tbT l) q0 (by omega) (tbC l) hPO A' (tbC l).length c' (by omega) h3 h4 s ok a a0 a1 A0 c0 hc0 hcm0 W h1 h2 h5
  obtain ⟨Z, hZ⟩ : ∃ Z, srcV Src.zero none 0 = Z := ⟨_, rfl⟩
  rw [hZ] at HZ0 HZSS
  have SV := Lib.hid (sizedS s ok.sl A0 c0)
  have OV := Lib.hid (srcV_ones s A0 c0)
  have ZV := Lib.hid (HZSS.out s ok.sl A0 c0)
  have okX := (pikT_in (tbT l) (tbC l) s a ok).1
  have hgo := pikR_go (l := l) s a
  have her := pikR_err (l := l) s a
  obtain ⟨E, hE⟩ : ∃ E, tbE l = E := ⟨_, rfl⟩
  obtain ⟨T, hT⟩ : ∃ T, tbT l = T := ⟨_, rfl⟩
  obtain ⟨ts, hts⟩ : ∃ ts, tbC l = ts := ⟨_, rfl⟩
  rw [hT, hts, hE] at hbd
  rw [hT, hts] at hdw okX
  rw [hE] at her hgo
  rw [hT, hts] at hgo
  obtain ⟨nn, hnn⟩ : ∃ nn, ts.length = nn := ⟨_, rfl⟩
  rw [hnn] at hbd hdw
  unfold RetTab at hbd
  have HBD := Lib.hid hbd
  by_cases h0 : E = 0
  · rw [hgo h0]
    have t2 : (E == 0) = true := by rw [beq_iff_eq]; exact h0
    have t3 : (E != 0) = false := by rw [bne, t2]; rfl
    obtain ⟨rr, hrr⟩ : ∃ r, pikT T ts s a = r := ⟨_, rfl⟩
    rw [hrr] at hdw okX ⊢
    obtain ⟨x, X, e2⟩ := rr
    have ST := Lib.hid (fun A c => sizedS X okX.sl A c)
    have OT := Lib.hid (fun A c => srcV_ones X A c)
    have ZT := Lib.hid (fun A c => HZSS.out X okX.sl A c)
    unfold RetLead at hdw ⊢
    dsimp only at hdw okX ⊢
    obtain ⟨V, hV⟩ : ∃ V, srcV s A0 c0 = V := ⟨_, rfl⟩
    rw [hV] at SV OV ZV hdw ⊢
    obtain ⟨zs, hzs⟩ : ∃ zs, s.tape = zs := ⟨_, rfl⟩
    obtain ⟨L, hL⟩ : ∃ L, zs.length = L := ⟨_, rfl⟩
    rw [hzs, hL] at hdw ⊢
    rw [hzs, hL] at hRd
    have HDW := Lib.hid hdw
    clear hV hzs hL hdw hbd hgo her hrr okX hT hts hE hnn hZ hz hz0 hrl hrd hc0 hcm0 hn hlen q0 q1 q2 q3 hPO HZSS a0 a1 h0 ok hkst
    go_enter Tryd.func13, Tryd.ntmps13
    go_wp2_with (first
      | (with_reducible refine at_any ?_; refine at_dst 3 rfl ?_; refine wpList_box_any rfl 37 (.tmp 0) rfl V rfl ?_; intro w1 hk1 hs1 hb1)
      | (with_reducible refine at_any ?_; refine at_dst 7 rfl ?_; refine wpList_alloc_any rfl 37 rfl Z HZ0.out ?_; intro w2 hk2 hs2 hb2; have HS2 := DrS.mk2 hRd.out hk1.out hb1 hk2.out hb2 (Below.refl _ _); have HZ2 := fx1 hk2.out; clear hs1 hb1 hs2 hb2 hk1 hk2)
      | (go_at_call 22; (with_reducible refine (HBD.out _ (HRL.out _ HS2.bel)).mono ?_); rintro e w3 ⟨A3, c3, rfl, hr3, hl3, hm3, hb3⟩; have HS3 := HS2.below hb3; have HZ3 := HZ2.below hb3; have HP3 := Lib.hid (pr_keepA hr3); have HL3 := Lib.hid hl3; have HM3 := Lib.hid hm3; clear hb3 hr3 HS2 HZ2 hl3 hm3)
      | (with_reducible refine at_any ?_; refine at_dst 9 rfl ?_; refine wpList_alloc_any rfl 28 rfl #[.int .u64 0, .slice none 0 0] zero_tabL ?_; intro w4 hk4 hs4 hb4)
      | (with_reducible refine at_any ?_; refine at_store 9 rfl ?_; refine wpList_store_any rfl 28 (.tmp 9) (.tmp 14) rfl w3.heap.size rfl 28 #[.int .u64 0, .slice none 0 0] #[.int .u64 T, .slice A3 nn c3] hk4.out rfl (sameT2 _ _ _ _) (sizedT _ _) (onesT _ _ _ _) ?_; intro w5 hk5 hs5 hb5 ho5; have hb35 := Below.trans hb4 (hb5 _ (Nat.le_refl _)); have HS := HS3.below hb35; have HZ := HZ3.below hb35; have HP := Lib.hid (HP3.out _ hb35); have HT := Lib.hid hk5.out; clear hk4 hs4 hb4 hk5 hs5 hb5 ho5 hb35 HS3 HZ3 HP3)
      | (with_reducible refine at_any ?_; refine at_dst 20 rfl ?_; refine wpList_load_tab (by kernel_rfl) (.tmp 9) rfl w3.heap.size rfl 28 (.int .u64 T) (.slice A3 nn c3) HT.out ?_)
      | (with_reducible refine at_any ?_; refine at_dst 21 rfl ?_; refine wpList_load_blk rfl 37 (.tmp 3) rfl w.heap.size rfl 37 V HS.blk _ Tryd.underlying37 rfl SV.out ?_)
      | (go_at_call 11; (with_reducible refine (HDW.out A3 c3 HL3.out HM3.out _ HP.out HS.rd.rd (HKS.out.below HS.bel)).mono ?_); rintro e w6 ⟨A2, c2, rfl, hr6, hl6, hm6, hp6, hb6⟩; have HS6 := HS.below hb6; have HZ6 := HZ.below hb6; have HR6 : RdP A2 L zs w6 := hr6; have HA6 := Apt.of_sep hp6 HS.apt7 HS.lt7; have HQ6 := Lib.hid (sep_from hp6 HS.bel.size); have SV2 := Lib.hid (ST.out A2 c2); have OV2 := Lib.hid (OT.out A2 c2); have ZV2 := Lib.hid (ZT.out A2 c2); have HL6 := Lib.hid hl6; have HM6 := Lib.hid hm6; clear hr6 hp6 hb6 HS HZ hl6 hm6)
      | (with_reducible refine at_any ?_; refine at_store 7 rfl ?_; refine wpList_store_any rfl 37 (.tmp 7) (.tmp 25) rfl w1.heap.size rfl 37 Z (srcV X A2 c2) (Fx.b0 HZ6) rfl ZV2.out SV2.out OV2.out ?_; intro w7 hk7 hs7 hb7 ho7; have HE7 := Lib.hid (HR6.store (Fx.b0 HZ6) HA6 hs7.out hb7 ho7); have HB7 := Lib.hid (Below.trans HS6.bel (hb7 _ HS6.le7)); have HK7 := Lib.hid hk7.out; clear hk7 hs7 hb7 ho7)
      | (refine bodyPost_mid 6 7 8 37 rfl w1.heap.size rfl (.int .i64 x) (.int .i64 e2) rfl rfl 37 (srcV X A2 c2) HK7.out _ Tryd.underlying37 rfl SV2.out rfl ?_))
    exact ⟨A2, c2, rfl, HE7.out, HL6.out, HM6.out, HQ6.out, HB7.out⟩
  · rw [her h0]
    have t2 : (E == 0) = false := by rw [beq_eq_false_iff_ne]; exact h0
    have t3 : (E != 0) = true := by rw [bne, t2]; rfl
    have HEND0 : Hid (∀ w', RdP A0 s.tape.length s.tape w' → Below w.heap.size w w' → RetLead w s A0 (0, s, E) (.returned (.tuple #[.int .i64 0, .agg (srcV s A0 c0), .int .i64 E])) w') := Lib.hid (fun w' hr hb => ⟨A0, c0, rfl, hr, hc0, hcm0, .inl rfl, hb⟩)
    obtain ⟨rr, hrr⟩ : ∃ r : Int × Src × Int, (0, s, E) = r := ⟨_, rfl⟩
    rw [hrr] at HEND0 ⊢
    obtain ⟨V, hV⟩ : ∃ V, srcV s A0 c0 = V := ⟨_, rfl⟩
    rw [hV] at SV OV ZV HEND0 ⊢
    obtain ⟨zs, hzs⟩ : ∃ zs, s.tape = zs := ⟨_, rfl⟩
    obtain ⟨L, hL⟩ : ∃ L, zs.length = L := ⟨_, rfl⟩
    rw [hzs, hL] at HEND0
    rw [hzs, hL] at hRd
    have HEND : Hid (∀ (v : World) w', RdP A0 L zs w' → Below w.heap.size w w' → RetLead w s A0 rr (.returned (.tuple #[.int .i64 0, .agg V, .int .i64 E])) w') := Lib.hid (fun _ w' h1 h2 => HEND0.out w' h1 h2)
    clear HEND0 hrr hV hzs hL hdw hbd hgo her okX hT hts hE hnn hZ hz hz0 hrl hrd hc0 hcm0 hn hlen q0 q1 q2 q3 hPO HZSS a0 a1 h0 ok hkst
    go_enter Tryd.func13, Tryd.ntmps13
    go_wp2_with (first
      | (with_reducible refine at_any ?_; refine at_dst 3 rfl ?_; refine wpList_box_any rfl 37 (.tmp 0) rfl V rfl ?_; intro w1 hk1 hs1 hb1)
      | (with_reducible refine at_any ?_; refine at_dst 7 rfl ?_; refine wpList_alloc_any rfl 37 rfl Z HZ0.out ?_; intro w2 hk2 hs2 hb2; have HS2 := DrS.mk2 hRd.out hk1.out hb1 hk2.out hb2 (Below.refl _ _); have HZ2 := fx1 hk2.out; clear hs1 hb1 hs2 hb2 hk1 hk2)
      | (go_at_call 22; (with_reducible refine (HBD.out _ (HRL.out _ HS2.bel)).mono ?_); rintro e w3 ⟨A3, c3, rfl, hr3, hl3, hm3, hb3⟩; have HS3 := HS2.below hb3; have HZ3 := HZ2.below hb3; have HP3 := Lib.hid (pr_keepA hr3); have HL3 := Lib.hid hl3; have HM3 := Lib.hid hm3; clear hb3 hr3 HS2 HZ2 hl3 hm3)
      | (with_reducible refine at_any ?_; refine at_dst 9 rfl ?_; refine wpList_alloc_any rfl 28 rfl #[.int .u64 0, .slice none 0 0] zero_tabL ?_; intro w4 hk4 hs4 hb4)
      | (with_reducible refine at_any ?_; refine at_store 9 rfl ?_; refine wpList_store_any rfl 28 (.tmp 9) (.tmp 14) rfl w3.heap.size rfl 28 #[.int .u64 0, .slice none 0 0] #[.int .u64 T, .slice A3 nn c3] hk4.out rfl (sameT2 _ _ _ _) (sizedT _ _) (onesT _ _ _ _) ?_; intro w5 hk5 hs5 hb5 ho5; have hb35 := Below.trans hb4 (hb5 _ (Nat.le_refl _)); have HS := HS3.below hb35; have HZ := HZ3.below hb35; have HP := Lib.hid (HP3.out _ hb35); have HT := Lib.hid hk5.out; clear hk4 hs4 hb4 hk5 hs5 hb5 ho5 hb35 HS3 HZ3 HP3))
    obtain ⟨g4, hg4⟩ : ∃ g, w.heap.size = g := ⟨_, rfl⟩
    obtain ⟨g7, hg7⟩ : ∃ g, w1.heap.size = g := ⟨_, rfl⟩
    rw [hg4, hg7] at HS
    rw [hg7] at HZ
    rw [hg4, hg7]
    clear hg4 hg7 HP HT
    have HZ7 := HZ.drew
    refine wp_region_held_drew (S := (DrS w g4 g7 V A0 L zs)) (by kernel_rfl) HS.drew (fun hH => ?_)
    refine wpAnyH_letter #[false, false, false, false, false] (by kernel_rfl) (fun _ _ d _ _ h => by cases d <;> exact h) (fun QL HQ1 HQ2 => ?_)
    refine held_row 0 (some 18) rfl (by kernel_rfl) (by kernel_rfl) (by kernel_rfl) (by kernel_rfl) (fun c a v w h => HQ2.out c a _ v w h) (by kernel_rfl) 37 (.tmp 3) rfl g4 (by kernel_rfl) 37 V (fun _ h => h.blk) _ Tryd.underlying37 rfl SV.out hH ?_
    try simp only [Act.put, List.setIfInBounds_toArray, List.set_cons_zero, List.set_cons_succ]
    refine held_v 1 (some 19) rfl (by kernel_rfl) (by kernel_rfl) (by kernel_rfl) (by kernel_rfl) (fun c a v w h => HQ2.out c a _ v w h) (by kernel_rfl) (.int .i64 E) (fun W h => by kernel_rfl) hH ?_
    try simp only [Act.put, List.setIfInBounds_toArray, List.set_cons_zero, List.set_cons_succ]
    refine held_v 2 (some 6) rfl (by kernel_rfl) (by kernel_rfl) (by kernel_rfl) (by kernel_rfl) (fun c a v w h => HQ2.out c a _ v w h) (by kernel_rfl) (.int .i64 0) (fun W h => by kernel_rfl) hH ?_
    try simp only [Act.put, List.setIfInBounds_toArray, List.set_cons_zero, List.set_cons_succ]
    refine wpAnyH_ready (rs := [3]) (by kernel_rfl) (by decide) ?_
    refine AllReadyH.cons rfl (fun K hK => ?_) AllReadyH.nil
    refine step_store none (by kernel_rfl) (by kernel_rfl) 37 (.tmp 7) (.tmp 18) rfl g7 (by kernel_rfl) 37 Z V HZ7.1 (by kernel_rfl) ZV.out SV.out OV.out ?_
    intro w41 hkw41 hsw41 hbw41 how41
    have ex42 : Fx [.blk g7 37 V] w41 := ⟨hkw41.out, trivial⟩
    refine hK.out _ _ (hH.store HZ7.1 hH.store7 hsw41.out hbw41 how41) (fun hw41 => ?_)
    clear hK K
    try simp only [Act.put, List.setIfInBounds_toArray, List.set_cons_zero, List.set_cons_succ]
    refine held_v 4 (some 8) rfl (by kernel_rfl) (by kernel_rfl) (by kernel_rfl) (by kernel_rfl) (fun c a v w h => HQ2.out c a _ v w h) (by kernel_rfl) (.int .i64 E) (fun W h => by kernel_rfl) hw41 ?_
    try simp only [Act.put, List.setIfInBounds_toArray, List.set_cons_zero, List.set_cons_succ]
    refine wpAnyH_done (by kernel_rfl) ?_ _
    refine HQ1.out _ _ ?_
    clear HQ1 HQ2
    go_wp2_with (refine bodyPost_mid 6 7 8 37 rfl g7 rfl (.int .i64 0) (.int .i64 E) rfl rfl 37 V ex42.1 _ Tryd.underlying37 rfl SV.out rfl ?_)
    exact HEND.out w _ hw41.rd hw41.bel
end Go.Proofs.YtomkidgmpbjgeaaDoor
/-
  What stage 15's fixed fact returns.
  Conditions: the table of constants holds what the program's text lays.
-/
set_option maxRecDepth 100000
set_option linter.unusedVariables false
set_option linter.unusedSimpArgs false
namespace Go.Proofs.YtomkidgmpbjgeaaDoor
open Go.ChangeShapes Go.WideShapes Go.ChangeAt Go.RowKit
set_option maxHeartbeats 8000000 in
theorem alive15_c (w : World) (hkst : Kst w) : Calls Tryd.prog 5 #[] w fun e w' => e = .returned (.bool true) ∧ Below w.heap.size w w' := by
  have ok1 := tapeOf_okP [160] (by simp) (by decide) 8 (by omega) (by omega)
  have okt := ok1.to_ 3 (by omega) (by omega)
  have hTP : ∀ A W, Rd .u8 W W.heap.size A 1 [160] → Calls Tryd.prog 9 #[.slice A 1 1, .int .u64 8] W (fun e w' => ∃ A' c', e = .returned (.tuple #[.agg (srcV (Src.tapeOf [160] 8) A' c'), .int .i64 0]) ∧ Rd .u8 w' w'.heap.size A' 1 [160] ∧ 1 ≤ c' ∧ c' ≤ maxLen ∧ Below W.heap.size W w') := fun A W h => rstape_c [160] (by simp) 8 (by omega) (by omega) A 1 1 W h (Nat.le_refl _)
  have hTB := fun A c W (hr : Rd .u64 W W.heap.size A 2 [3, 1]) => calls_tab (T' := 4) (n' := 2) (ts' := [(4, 0), (2, 0)]) (er' := 0) (r14build_c [3, 1] (by decide) A 2 c (by omega) W hr) (by decide) (by decide) (by decide) (by decide)
  have hd1 : ∀ AF c, 2 ≤ c → c ≤ maxLen → ∀ A c0, 1 ≤ c0 → c0 ≤ maxLen → ∀ W, RdPr .u64 .i64 W W.heap.size AF 2 [(4, 0), (2, 0)] → Rd .u8 W W.heap.size A 1 [160] → Kst W → Calls Tryd.prog 11 #[.agg #[.int .u64 4, .slice AF 2 c], .agg (srcV (Src.tapeOf [160] 8) A c0), .int .i64 1] W (fun e w' => ∃ A' c', e = .returned (.tuple #[.int .i64 1, .agg (srcV ((Src.tapeOf [160] 8).to 3) A' c'), .int .i64 0]) ∧ Rd .u8 w' w'.heap.size A' 1 [160] ∧ 1 ≤ c' ∧ c' ≤ maxLen ∧ Sep W A A' ∧ Below W.heap.size W w') := fun AF c g1 g2 A c0 h1 h2 W h0 h3 h4 => by
    have h := q15draw_c 4 (by decide) (by decide) [(4, 0), (2, 0)] (by intro p hp; simp at hp; rcases hp with rfl | rfl <;> decide) AF 2 c (by omega) g1 g2 (Src.tapeOf [160] 8) ok1 1 (by omega) (by omega) A c0 h1 h2 W h0 h3 h4
    unfold RetLead at h
    rw [show pikT 4 [(4, 0), (2, 0)] (Src.tapeOf [160] 8) 1 = (1, ((Src.tapeOf [160] 8).to 3), 0) by kernel_rfl] at h
    exact h
  have hd3 : ∀ AF c, 2 ≤ c → c ≤ maxLen → ∀ A c0, 1 ≤ c0 → c0 ≤ maxLen → ∀ W, RdPr .u64 .i64 W W.heap.size AF 2 [(4, 0), (2, 0)] → Rd .u8 W W.heap.size A 1 [160] → Kst W → Calls Tryd.prog 11 #[.agg #[.int .u64 4, .slice AF 2 c], .agg (srcV ((Src.tapeOf [160] 8).to 3) A c0), .int .i64 1] W (fun e w' => ∃ A' c', e = .returned (.tuple #[.int .i64 0, .agg (srcV ((Src.tapeOf [160] 8).to 6) A' c'), .int .i64 0]) ∧ Rd .u8 w' w'.heap.size A' 1 [160] ∧ 1 ≤ c' ∧ c' ≤ maxLen ∧ Sep W A A' ∧ Below W.heap.size W w') := fun AF c g1 g2 A c0 h1 h2 W h0 h3 h4 => by
    have h := q15draw_c 4 (by decide) (by decide) [(4, 0), (2, 0)] (by intro p hp; simp at hp; rcases hp with rfl | rfl <;> decide) AF 2 c (by omega) g1 g2 ((Src.tapeOf [160] 8).to 3) okt 1 (by omega) (by omega) A c0 h1 h2 W h0 h3 h4
    unfold RetLead at h
    rw [show pikT 4 [(4, 0), (2, 0)] ((Src.tapeOf [160] 8).to 3) 1 = (0, ((Src.tapeOf [160] 8).to 6), 0) by kernel_rfl] at h
    exact h
  have hl1 : ∀ AL c, ∀ A c0, 1 ≤ c0 → c0 ≤ maxLen → ∀ W, Rd .u64 W W.heap.size AL 2 [3, 1] → Rd .u8 W W.heap.size A 1 [160] → Kst W → Calls Tryd.prog 13 #[.agg (srcV (Src.tapeOf [160] 8) A c0), .int .i64 1, .slice AL 2 c] W (fun e w' => ∃ A' c', e = .returned (.tuple #[.int .i64 1, .agg (srcV ((Src.tapeOf [160] 8).to 3) A' c'), .int .i64 0]) ∧ Rd .u8 w' w'.heap.size A' 1 [160] ∧ 1 ≤ c' ∧ c' ≤ maxLen ∧ Sep W A A' ∧ Below W.heap.size W w') := fun AL c A c0 h1 h2 W h0 h3 h4 => by
    have h := q15list_c [3, 1] (by decide) AL 2 c (by omega) (Src.tapeOf [160] 8) ok1 1 (by omega) (by omega) A c0 h1 h2 W h0 h3 h4
    unfold RetLead at h
    rw [show pikR [3, 1] (Src.tapeOf [160] 8) 1 = (1, (Src.tapeOf [160] 8).to 3, 0) by kernel_rfl] at h
    exact h
  have hl2 : ∀ A c0, 1 ≤ c0 → c0 ≤ maxLen → ∀ W, Rd .u8 W W.heap.size A 1 [160] → Kst W → Calls Tryd.prog 13 #[.agg (srcV (Src.tapeOf [160] 8) A c0), .int .i64 1, .slice none 0 0] W (fun e w' => ∃ A' c', e = .returned (.tuple #[.int .i64 0, .agg (srcV (Src.tapeOf [160] 8) A' c'), .int .i64 10]) ∧ Rd .u8 w' w'.heap.size A' 1 [160] ∧ 1 ≤ c' ∧ c' ≤ maxLen ∧ Sep W A A' ∧ Below W.heap.size W w') := fun A c0 h1 h2 W h3 h4 => by
    have h := q15list_c [] (by decide) none 0 0 (by omega) (Src.tapeOf [160] 8) ok1 1 (by omega) (by omega) A c0 h1 h2 W (rd_nilP _ _ _ _) h3 h4
    unfold RetLead at h
    rw [show pikR [] (Src.tapeOf [160] 8) 1 = (0, (Src.tapeOf [160] 8), 10) by kernel_rfl] at h
    exact h
  have hd2 : ∀ A c0, 1 ≤ c0 → c0 ≤ maxLen → ∀ W, Rd .u8 W W.heap.size A 1 [160] → Kst W → Calls Tryd.prog 11 #[.agg #[.int .u64 0, .slice none 0 0], .agg (srcV (Src.tapeOf [160] 8) A c0), .int .i64 1] W (fun e w' => ∃ A' c', e = .returned (.tuple #[.int .i64 0, .agg (srcV (Src.tapeOf [160] 8) A' c'), .int .i64 1]) ∧ Rd .u8 w' w'.heap.size A' 1 [160] ∧ 1 ≤ c' ∧ c' ≤ maxLen ∧ Sep W A A' ∧ Below W.heap.size W w') := fun A c0 h1 h2 W h3 h4 => by
    have h := q15draw_c 0 (by decide) (by decide) [] (fun p h => by cases h) none 0 0 (by omega) (by omega) (by simp [maxLen]) (Src.tapeOf [160] 8) ok1 1 (by omega) (by omega) A c0 h1 h2 W (RdPr.nil _ _ _ _ _) h3 h4
    unfold RetLead at h
    rw [show pikT 0 [] (Src.tapeOf [160] 8) 1 = (0, (Src.tapeOf [160] 8), 1) by kernel_rfl] at h
    exact h
  have hc1 := fun (W : World) (g : Nat) A c (h : Blk W g 37 (srcV ((Src.tapeOf [160] 8).to 3) A c)) => (h.cell 36).trans (srcV_at ((Src.tapeOf [160] 8).to 3) rfl A c)
  rw [show ((Src.tapeOf [160] 8).to 3).at_ = 3 from rfl] at hc1
  have hc2 := fun (W : World) (g : Nat) A c (h : Blk W g 37 (srcV (Src.tapeOf [160] 8) A c)) => (h.cell 36).trans (srcV_at (Src.tapeOf [160] 8) rfl A c)
  rw [show (Src.tapeOf [160] 8).at_ = 0 from rfl] at hc2
  have hc3 := fun (W : World) (g : Nat) A c (h : Blk W g 37 (srcV ((Src.tapeOf [160] 8).to 6) A c)) => (h.cell 36).trans (srcV_at ((Src.tapeOf [160] 8).to 6) rfl A c)
  rw [show ((Src.tapeOf [160] 8).to 6).at_ = 6 from rfl] at hc3
  have hl0 : (Src.tapeOf [160] 8).seed.length = 32 := rfl
  have hm1 : ((Src.tapeOf [160] 8).to 3).seed.length = 32 := rfl
  have hm2 : ((Src.tapeOf [160] 8).to 6).seed.length = 32 := rfl
  have HZZ := Lib.hid (fun (s : Src) (h : s.seed.length = 32) (A : Option Addr) (c : Nat) => srcV_same Src.zero s rfl h none A 0 c)
  have HZ0 := Lib.hid zero_src
  obtain ⟨T1, hT1'⟩ : ∃ S, (Src.tapeOf [160] 8).to 3 = S := ⟨_, rfl⟩
  obtain ⟨T2, hT2'⟩ : ∃ S, (Src.tapeOf [160] 8).to 6 = S := ⟨_, rfl⟩
  rw [hT1'] at hd1 hd3 hl1 hc1 hm1
  rw [hT2'] at hd3 hc3 hm2
  obtain ⟨S1, hS1⟩ : ∃ S, Src.tapeOf [160] 8 = S := ⟨_, rfl⟩
  rw [hS1] at hTP hd1 hd2 hl1 hl2 hc2 hl0
  obtain ⟨Z, hZ⟩ : ∃ Z, srcV Src.zero none 0 = Z := ⟨_, rfl⟩
  rw [hZ] at HZ0 HZZ
  have HLS1 := Lib.hid hl0
  have HLT1 := Lib.hid hm1
  have HLT2 := Lib.hid hm2
  have HTP := Lib.hid hTP
  have HTB := Lib.hid hTB
  have HD1 := Lib.hid hd1
  have HD2 := Lib.hid hd2
  have HD3 := Lib.hid hd3
  have HL1 := Lib.hid hl1
  have HL2 := Lib.hid hl2
  have HC1 := Lib.hid hc1
  have HC2 := Lib.hid hc2
  have HC3 := Lib.hid hc3
  have HKS := Lib.hid hkst
  have G0 := Lib.hid (Fx.bel0 w)
  clear ok1 okt hTP hTB hd1 hd2 hd3 hl1 hl2 hc1 hc2 hc3 hl0 hm1 hm2 hT1' hT2' hS1 hZ hkst
  go_enter Tryd.func5, Tryd.ntmps5
  go_wp2_with (first
    | (go_at_call 9; (with_reducible refine (HTP.out _ _ (Rd.fit (rd_one _ _ _ _))).mono ?_); rintro e w1 ⟨A1, c1, rfl, hrw1, hlw1, hmw1, hbw1⟩; have lc1 := Lib.hid hlw1; have mc1 := Lib.hid hmw1; have G2 := Lib.hid (Fx.addR (Fx.alloc G0.out _) hbw1 hrw1); clear G0; clear hrw1 hbw1 hlw1 hmw1)
    | (with_reducible refine at_any ?_; refine at_dst 1 rfl ?_; refine wpList_alloc_any rfl 37 rfl Z HZ0.out ?_; intro w3 hkw3 hsw3 hbw3; have U4 := Lib.hid (Fx.under_new G2.out rfl); have G5 := Lib.hid (Fx.newB G2.out hkw3.out hbw3); clear G2; clear hkw3 hsw3 hbw3)
    | (with_reducible refine at_any ?_; refine at_store 1 rfl ?_; refine wpList_store_any rfl 37 (.tmp 1) (.tmp 23) rfl w1.heap.size rfl 37 Z (srcV S1 A1 c1) (Fx.b0 G5.out) rfl (HZZ.out S1 HLS1.out _ _) (sizedS S1 HLS1.out _ _) (srcV_ones _ _ _) ?_; intro w6 hkw6 hsw6 hbw6 how6; have G7 := Lib.hid (Fx.put1B G5.out U4.out hkw6.out hsw6.out hbw6 how6); clear G5; clear hkw6 hsw6 hbw6 how6)
    | (with_reducible refine at_any ?_; refine at_dst 26 rfl ?_; refine wpList_build2 (by kernel_rfl) (.const (.int .u64 3)) (.const (.int .u64 1)) rfl 3 1 rfl rfl ?_; intro gl9 w8 hrw8 hbw8; have G10 := Lib.hid (Fx.addR G7.out hbw8 hrw8); clear G7; clear hrw8 hbw8)
    | (go_at_call 7; (with_reducible refine (HTB.out _ _ _ (Fx.r0 G10.out)).mono ?_); rintro e w11 ⟨A12, c13, rfl, hrw11, hlw11, hmw11, hbw11⟩; have lc13 := Lib.hid hlw11; have mc13 := Lib.hid hmw11; have G14 := Lib.hid (Fx.addP G10.out hbw11 hrw11); clear G10; clear hrw11 hbw11 hlw11 hmw11)
    | (with_reducible refine at_any ?_; refine at_dst 3 rfl ?_; refine wpList_alloc_any rfl 28 rfl #[.int .u64 0, .slice none 0 0] zero_tabL ?_; intro w15 hkw15 hsw15 hbw15; have U16 := Lib.hid (Fx.under_new G14.out rfl); have G17 := Lib.hid (Fx.newB G14.out hkw15.out hbw15); clear G14; clear hkw15 hsw15 hbw15)
    | (with_reducible refine at_any ?_; refine at_store 3 rfl ?_; refine wpList_store_any rfl 28 (.tmp 3) (.tmp 28) rfl w11.heap.size rfl 28 #[.int .u64 0, .slice none 0 0] (#[.int .u64 4, .slice A12 2 c13]) (Fx.b0 G17.out) rfl (sameT2 _ _ _ _) (sizedT _ _) (onesT _ _ _ _) ?_; intro w18 hkw18 hsw18 hbw18 how18; have G19 := Lib.hid (Fx.put1B G17.out U16.out hkw18.out hsw18.out hbw18 how18); clear G17; clear hkw18 hsw18 hbw18 how18)
    | (with_reducible refine at_any ?_; refine at_dst 31 rfl ?_; refine wpList_load_tab (by kernel_rfl) (.tmp 3) rfl w11.heap.size rfl 28 (.int .u64 4) (.slice A12 2 c13) (Fx.b0 G19.out) ?_)
    | (with_reducible refine at_any ?_; refine at_dst 32 rfl ?_; refine wpList_load_blk rfl 37 (.tmp 1) rfl w1.heap.size rfl 37 (srcV S1 A1 c1) (Fx.b3 G19.out) _ Tryd.underlying37 rfl (sizedS S1 HLS1.out _ _) ?_)
    | (go_at_call 11; (with_reducible refine (HD1.out _ _ lc13.out mc13.out _ _ lc1.out mc1.out _ (Fx.k1 G19.out) (Fx.r4 G19.out) (HKS.out.below (Fx.e5 G19.out))).mono ?_); rintro e w20 ⟨A21, c22, rfl, hrw20, hlw20, hmw20, _, hbw20⟩; have lc22 := Lib.hid hlw20; have mc22 := Lib.hid hmw20; have G23 := Lib.hid (Fx.addR G19.out hbw20 hrw20); clear G19; clear hrw20 hbw20 hlw20 hmw20)
    | (with_reducible refine at_any ?_; refine at_dst 6 rfl ?_; refine wpList_alloc_any rfl 37 rfl Z HZ0.out ?_; intro w24 hkw24 hsw24 hbw24; have U25 := Lib.hid (Fx.under_new G23.out rfl); have G26 := Lib.hid (Fx.newB G23.out hkw24.out hbw24); clear G23; clear hkw24 hsw24 hbw24)
    | (with_reducible refine at_any ?_; refine at_store 6 rfl ?_; refine wpList_store_any rfl 37 (.tmp 6) (.tmp 35) rfl w20.heap.size rfl 37 Z (srcV T1 A21 c22) (Fx.b0 G26.out) rfl (HZZ.out T1 HLT1.out _ _) (sizedS T1 HLT1.out _ _) (srcV_ones _ _ _) ?_; intro w27 hkw27 hsw27 hbw27 how27; have G28 := Lib.hid (Fx.put1B G26.out U25.out hkw27.out hsw27.out hbw27 how27); clear G26; clear hkw27 hsw27 hbw27 how27)
    | (with_reducible refine at_any ?_; refine at_dst 38 rfl ?_; refine wpList_load_blk rfl 37 (.tmp 1) rfl w1.heap.size rfl 37 (srcV S1 A1 c1) (Fx.b5 G28.out) _ Tryd.underlying37 rfl (sizedS S1 HLS1.out _ _) ?_)
    | (with_reducible refine at_any ?_; refine at_dst 39 rfl ?_; refine wpList_build2 (by kernel_rfl) (.const (.int .u64 3)) (.const (.int .u64 1)) rfl 3 1 rfl rfl ?_; intro gl30 w29 hrw29 hbw29; have G31 := Lib.hid (Fx.addR G28.out hbw29 hrw29); clear G28; clear hrw29 hbw29)
    | (go_at_call 13; (with_reducible refine (HL1.out _ _ _ _ lc1.out mc1.out _ (Fx.r0 G31.out) (Fx.r7 G31.out) (HKS.out.below (Fx.e8 G31.out))).mono ?_); rintro e w32 ⟨A33, c34, rfl, hrw32, hlw32, hmw32, _, hbw32⟩; have lc34 := Lib.hid hlw32; have mc34 := Lib.hid hmw32; have G35 := Lib.hid (Fx.addR G31.out hbw32 hrw32); clear G31; clear hrw32 hbw32 hlw32 hmw32)
    | (with_reducible refine at_any ?_; refine at_dst 9 rfl ?_; refine wpList_alloc_any rfl 37 rfl Z HZ0.out ?_; intro w36 hkw36 hsw36 hbw36; have U37 := Lib.hid (Fx.under_new G35.out rfl); have G38 := Lib.hid (Fx.newB G35.out hkw36.out hbw36); clear G35; clear hkw36 hsw36 hbw36)
    | (with_reducible refine at_any ?_; refine at_store 9 rfl ?_; refine wpList_store_any rfl 37 (.tmp 9) (.tmp 42) rfl w32.heap.size rfl 37 Z (srcV T1 A33 c34) (Fx.b0 G38.out) rfl (HZZ.out T1 HLT1.out _ _) (sizedS T1 HLT1.out _ _) (srcV_ones _ _ _) ?_; intro w39 hkw39 hsw39 hbw39 how39; have G40 := Lib.hid (Fx.put1B G38.out U37.out hkw39.out hsw39.out hbw39 how39); clear G38; clear hkw39 hsw39 hbw39 how39)
    | (with_reducible refine at_any ?_; refine at_dst 45 rfl ?_; refine wpList_val rfl (.agg #[.int .u64 0, .slice none 0 0]) (build_tab0 _ rfl) ?_)
    | (with_reducible refine at_any ?_; refine at_dst 46 rfl ?_; refine wpList_load_blk rfl 37 (.tmp 1) rfl w1.heap.size rfl 37 (srcV S1 A1 c1) (Fx.b8 G40.out) _ Tryd.underlying37 rfl (sizedS S1 HLS1.out _ _) ?_)
    | (go_at_call 11; (with_reducible refine (HD2.out _ _ lc1.out mc1.out _ (Fx.r9 G40.out) (HKS.out.below (Fx.e10 G40.out))).mono ?_); rintro e w41 ⟨A42, c43, rfl, hrw41, hlw41, hmw41, _, hbw41⟩; have lc43 := Lib.hid hlw41; have mc43 := Lib.hid hmw41; have G44 := Lib.hid (Fx.addR G40.out hbw41 hrw41); clear G40; clear hrw41 hbw41 hlw41 hmw41)
    | (with_reducible refine at_any ?_; refine at_dst 12 rfl ?_; refine wpList_alloc_any rfl 37 rfl Z HZ0.out ?_; intro w45 hkw45 hsw45 hbw45; have U46 := Lib.hid (Fx.under_new G44.out rfl); have G47 := Lib.hid (Fx.newB G44.out hkw45.out hbw45); clear G44; clear hkw45 hsw45 hbw45)
    | (with_reducible refine at_any ?_; refine at_store 12 rfl ?_; refine wpList_store_any rfl 37 (.tmp 12) (.tmp 49) rfl w41.heap.size rfl 37 Z (srcV S1 A42 c43) (Fx.b0 G47.out) rfl (HZZ.out S1 HLS1.out _ _) (sizedS S1 HLS1.out _ _) (srcV_ones _ _ _) ?_; intro w48 hkw48 hsw48 hbw48 how48; have G49 := Lib.hid (Fx.put1B G47.out U46.out hkw48.out hsw48.out hbw48 how48); clear G47; clear hkw48 hsw48 hbw48 how48)
    | (with_reducible refine at_any ?_; refine at_dst 52 rfl ?_; refine wpList_load_blk rfl 37 (.tmp 1) rfl w1.heap.size rfl 37 (srcV S1 A1 c1) (Fx.b10 G49.out) _ Tryd.underlying37 rfl (sizedS S1 HLS1.out _ _) ?_)
    | (go_at_call 13; (with_reducible refine (HL2.out _ _ lc1.out mc1.out _ (Fx.r11 G49.out) (HKS.out.below (Fx.e12 G49.out))).mono ?_); rintro e w50 ⟨A51, c52, rfl, hrw50, hlw50, hmw50, _, hbw50⟩; have lc52 := Lib.hid hlw50; have mc52 := Lib.hid hmw50; have G53 := Lib.hid (Fx.addR G49.out hbw50 hrw50); clear G49; clear hrw50 hbw50 hlw50 hmw50)
    | (with_reducible refine at_any ?_; refine at_dst 15 rfl ?_; refine wpList_alloc_any rfl 37 rfl Z HZ0.out ?_; intro w54 hkw54 hsw54 hbw54; have U55 := Lib.hid (Fx.under_new G53.out rfl); have G56 := Lib.hid (Fx.newB G53.out hkw54.out hbw54); clear G53; clear hkw54 hsw54 hbw54)
    | (with_reducible refine at_any ?_; refine at_store 15 rfl ?_; refine wpList_store_any rfl 37 (.tmp 15) (.tmp 55) rfl w50.heap.size rfl 37 Z (srcV S1 A51 c52) (Fx.b0 G56.out) rfl (HZZ.out S1 HLS1.out _ _) (sizedS S1 HLS1.out _ _) (srcV_ones _ _ _) ?_; intro w57 hkw57 hsw57 hbw57 how57; have G58 := Lib.hid (Fx.put1B G56.out U55.out hkw57.out hsw57.out hbw57 how57); clear G56; clear hkw57 hsw57 hbw57 how57)
    | (with_reducible refine at_any ?_; refine at_dst 58 rfl ?_; refine wpList_load_tab (by kernel_rfl) (.tmp 3) rfl w11.heap.size rfl 28 (.int .u64 4) (.slice A12 2 c13) (Fx.b9 G58.out) ?_)
    | (with_reducible refine at_any ?_; refine at_dst 59 rfl ?_; refine wpList_load_blk rfl 37 (.tmp 6) rfl w20.heap.size rfl 37 (srcV T1 A21 c22) (Fx.b7 G58.out) _ Tryd.underlying37 rfl (sizedS T1 HLT1.out _ _) ?_)
    | (go_at_call 11; (with_reducible refine (HD3.out _ _ lc13.out mc13.out _ _ lc22.out mc22.out _ (Fx.k10 G58.out) (Fx.r8 G58.out) (HKS.out.below (Fx.e14 G58.out))).mono ?_); rintro e w59 ⟨A60, c61, rfl, hrw59, hlw59, hmw59, _, hbw59⟩; have lc61 := Lib.hid hlw59; have mc61 := Lib.hid hmw59; have G62 := Lib.hid (Fx.addR G58.out hbw59 hrw59); clear G58; clear hrw59 hbw59 hlw59 hmw59)
    | (with_reducible refine at_any ?_; refine at_dst 18 rfl ?_; refine wpList_alloc_any rfl 37 rfl Z HZ0.out ?_; intro w63 hkw63 hsw63 hbw63; have U64 := Lib.hid (Fx.under_new G62.out rfl); have G65 := Lib.hid (Fx.newB G62.out hkw63.out hbw63); clear G62; clear hkw63 hsw63 hbw63)
    | (with_reducible refine at_any ?_; refine at_store 18 rfl ?_; refine wpList_store_any rfl 37 (.tmp 18) (.tmp 62) rfl w59.heap.size rfl 37 Z (srcV T2 A60 c61) (Fx.b0 G65.out) rfl (HZZ.out T2 HLT2.out _ _) (sizedS T2 HLT2.out _ _) (srcV_ones _ _ _) ?_; intro w66 hkw66 hsw66 hbw66 how66; have G67 := Lib.hid (Fx.put1B G65.out U64.out hkw66.out hsw66.out hbw66 how66); clear G65; clear hkw66 hsw66 hbw66 how66; have z6 := HC1.out _ _ A21 c22 (Fx.b9 G67.out); have z12 := HC2.out _ _ A42 c43 (Fx.b4 G67.out); have z18 := HC3.out _ _ A60 c61 (Fx.b0 G67.out)))
  go_ret
  exact ⟨rfl, (Fx.e16 G67.out)⟩
end Go.Proofs.YtomkidgmpbjgeaaDoor
/-
  A law's argument that is a slice of integers, opened.
  Conditions: the element's type is an integer type of one cell.
-/
set_option maxRecDepth 100000
namespace Go.Proofs.YtomkidgmpbjgeaaDoor
open Go.ChangeShapes Go.WideShapes Go.ChangeAt Go.RowKit
theorem open_rd {H : Type} {enc : TypeId × Value → H} {P : Program} {w : World} {base : Nat} {spare : Nat → Bool} {held : Bool} {t e : TypeId} {k : IntKind} {a : Option Addr} {len cap : Nat} {d : DataW H} {p : List MemPlace}
    (ht : P.underlying t = some (.slice e)) (he : P.underlying e = some (.int k)) (hc : P.cellsOf e = 1) (h : DataW.Trod enc P w base spare held t (.slice a len cap) d p) :
    ∃ zs : List Int, Rd k w w.heap.size a len zs ∧ len ≤ cap ∧ cap ≤ maxLen ∧ ∀ z ∈ zs, (Lit.int k z).wf = true := by
  obtain ⟨fuel, hf⟩ := h
  rcases open_ints ht he hc hf with ⟨hcs, _⟩ | ⟨x, l, c, zs, hcs, _, hl, hm, hz, _, hcell, hwz⟩
  · simp [Value.cells] at hcs
    obtain ⟨rfl, rfl, rfl⟩ := hcs
    exact ⟨[], Rd.none_, Nat.le_refl _, by simp [maxLen], fun _ h => by cases h⟩
  · simp [Value.cells] at hcs
    obtain ⟨rfl, rfl, rfl⟩ := hcs
    refine ⟨zs.take len, ⟨?_, fun hn => ?_⟩, hl, hm, fun z hz' => hwz z (List.mem_of_mem_take hz')⟩
    · have : len ≤ zs.length := by rw [hz]; split <;> omega
      rw [List.length_take]; omega
    · have hlen : len ≤ zs.length := by rw [hz]; split <;> omega
      obtain ⟨b, off, spot⟩ := x
      have h0 := hcell 0 (by omega)
      have hspot : spot = none := by simpa [Addr.add] using World.cell?_spot h0
      subst hspot
      have h1 : w.cell? ⟨b, off, none⟩ = some (.int k (zs.getD 0 0)) := by simpa [Addr.add] using h0
      refine ⟨b, off, rfl, World.block_lt_of_cell? w _ h1, fun j hj => ?_⟩
      have h2 := hcell j (by omega)
      rw [add_flat] at h2
      rw [h2]
      congr 2
      simp only [List.getD_eq_getElem?_getD, List.getElem?_take]
      rw [if_pos hj]
end Go.Proofs.YtomkidgmpbjgeaaDoor
/-
  A law's arguments, opened: a slice of slices of bytes; the cells of an array.
  Conditions: those that each theorem names.
-/
set_option maxRecDepth 100000
set_option linter.unusedVariables false
set_option linter.unusedSimpArgs false
namespace Go.Proofs.YtomkidgmpbjgeaaDoor
open Go.ChangeShapes Go.WideShapes Go.ChangeAt Go.RowKit
theorem rd_of_cells {k : IntKind} {w : World} {A : Option Addr} {L C : Nat} {Z : List Int} (hl : L ≤ C) (hz : Z.length = C) (h0 : A = none → C = 0) (hc : ∀ a', A = some a' → ∀ c, c < C → w.cell? (a'.add c) = some (.int k (Z.getD c 0))) : Rd k w w.heap.size A L (Z.take L) := by
  refine ⟨by rw [List.length_take]; omega, fun hn => ?_⟩
  rcases A with _ | ⟨b, off, spot⟩
  · have := h0 rfl; omega
  · have h1 := hc _ rfl 0 (by omega)
    have hspot : spot = none := by simpa [Addr.add] using World.cell?_spot h1
    subst hspot
    have h2 : w.cell? ⟨b, off, none⟩ = some (.int k (Z.getD 0 0)) := by simpa [Addr.add] using h1
    refine ⟨b, off, rfl, World.block_lt_of_cell? w _ h2, fun j hj => ?_⟩
    have h3 := hc _ rfl j (by omega)
    rw [add_flat] at h3
    rw [h3]
    congr 2
    simp only [List.getD_eq_getElem?_getD, List.getElem?_take]
    rw [if_pos hj]
theorem open_rows {H : Type} {enc : TypeId × Value → H} {P : Program} {w : World} {base : Nat} {held : Bool} {t e q : TypeId} {a : Option Addr} {len cap : Nat} {d : DataW H} {p : List MemPlace}
    (ht : P.underlying t = some (.slice e)) (he : P.underlying e = some (.slice q)) (hq : P.underlying q = some (.int .u8)) (ce : P.cellsOf e = 1) (cq : P.cellsOf q = 1) (h : DataW.Trod enc P w base (fun _ => true) held t (.slice a len cap) d p) :
    ∃ rs : List Row, RdRows w w.heap.size a len rs ∧ len ≤ cap ∧ cap ≤ maxLen ∧ ∀ r ∈ rs, r.n ≤ maxLen ∧ r.zs.length = r.n ∧ ∀ z ∈ r.zs, (Lit.int .u8 z).wf = true := by
  obtain ⟨fuel, hf⟩ := h
  rcases Go.Deep.open_int_rows ht he hq ce cq hf with ⟨hcs, _⟩ | ⟨x, l, c, A, L, C, Z, hcs, _, hl, hm, _, hr⟩
  · simp [Value.cells] at hcs
    obtain ⟨rfl, rfl, rfl⟩ := hcs
    exact ⟨[], ⟨rfl, fun h => absurd h (by omega), fun _ h => by cases h⟩, Nat.le_refl _, by simp [maxLen], fun _ h => by cases h⟩
  · simp [Value.cells] at hcs
    obtain ⟨rfl, rfl, rfl⟩ := hcs
    have hrd : ∀ r, r < len → Rd .u8 w w.heap.size (A r) (L r) ((Z r).take (L r)) := fun r h => by
      obtain ⟨_, h1, _, h3, _, h5, h6⟩ := hr r (by omega)
      exact rd_of_cells h1 h3 h5 (fun a' e' => (h6 a' e').2)
    refine ⟨(List.range len).map fun r => ⟨A r, L r, C r, (Z r).take (L r)⟩, ⟨by simp, fun hn => ?_, fun r hr' => ?_⟩, hl, hm, fun r hr' => ?_⟩
    · obtain ⟨b, off, spot⟩ := x
      have h0 := (hr 0 (by omega)).1
      have hspot : spot = none := by simpa [Addr.add] using World.cell?_spot h0
      subst hspot
      have h1 : w.cell? ⟨b, off, none⟩ = some (.slice (A 0) (L 0) (C 0)) := by simpa [Addr.add] using h0
      refine ⟨b, off, rfl, World.block_lt_of_cell? w _ h1, fun j r hj => ?_⟩
      rw [List.getElem?_map] at hj
      have hjl : j < len := by
        rcases Nat.lt_or_ge j len with h2 | h2
        · exact h2
        · rw [List.getElem?_eq_none (by simpa using h2)] at hj; cases hj
      rw [List.getElem?_range hjl] at hj
      injection hj with hj
      subst hj
      have h2 := (hr j (by omega)).1
      rw [add_flat] at h2
      exact h2
    · obtain ⟨i, hi, rfl⟩ := List.mem_map.1 hr'
      have hi' := List.mem_range.1 hi
      exact ⟨hrd i hi', (hr i (by omega)).2.1⟩
    · obtain ⟨i, hi, rfl⟩ := List.mem_map.1 hr'
      have hi' := List.mem_range.1 hi
      obtain ⟨_, h1, h2, h3, h4, _⟩ := hr i (by omega)
      exact ⟨by dsimp only; omega, (hrd i hi').1, fun z hz => h4 z (List.mem_of_mem_take hz)⟩
section
variable {H : Type} {enc : TypeId × Value → H} {P : Program} {w : World} {base : Nat} {spare : Nat → Bool} {held : Bool}
/-- The cells of an array of integers. -/
theorem trod_ints {fuel n : Nat} {t e : TypeId} {q : IntKind} {cs : List Value} {x : DataW H × List MemPlace} (ht : P.underlying t = some (.array n e)) (he : P.underlying e = some (.int q)) (hc : P.cellsOf e = 1) (hC : P.cellsOf t = n)
    (hf : DataW.trod enc P w base spare held fuel t cs = some x) : ∃ zs : List Int, zs.length = n ∧ cs = zs.map (Value.int q) ∧ ∀ z ∈ zs, (Lit.int q z).wf = true := by
  obtain ⟨xs, m, _, hx, hl, hxl, hat⟩ := DataW.trod_array ht hf
  rw [hC] at hl
  rw [hc] at hat
  have hz : ∀ i (hi : i < n), ∃ z : Int, cs[i]? = some (.int q z) ∧ (Lit.int q z).wf = true := by
    intro i hi
    have h1 := hat i hi
    have e1 : List.take 1 (List.drop (i * 1) cs) = [cs[i]'(by omega)] := by
      rw [Nat.mul_one, List.drop_eq_getElem_cons (show i < cs.length by omega), List.take_succ_cons, List.take_zero]
    rw [e1] at h1
    have hxi : xs[i]? = some (xs[i]'(by omega)) := List.getElem?_eq_getElem (by omega)
    rw [hxi] at h1
    obtain ⟨a, ea, _, wa⟩ := DataW.trod_int he h1
    refine ⟨a, ?_, wa⟩
    rw [List.getElem?_eq_getElem (by omega)]
    simpa using ea
  obtain ⟨zs, hzl, hzs⟩ := list_of n hz
  refine ⟨zs, hzl, ?_, ?_⟩
  · apply List.ext_getElem?
    intro i
    by_cases hi : i < n
    · obtain ⟨z, e1, e2, _⟩ := hzs i hi
      rw [e2, List.getElem?_map, e1]
      rfl
    · rw [List.getElem?_eq_none (by omega), List.getElem?_eq_none (by simp; omega)]
  · intro z hz'
    obtain ⟨i, hi, e⟩ := List.mem_iff_getElem.1 hz'
    obtain ⟨z', e1, _, e4⟩ := hzs i (by omega)
    rw [List.getElem?_eq_getElem hi, e] at e1
    injection e1 with e1
    rw [e1]
    exact e4
end
end Go.Proofs.YtomkidgmpbjgeaaDoor
/-
  A law's argument that is a source, opened.
  Conditions: those that the theorem names.
-/
set_option maxRecDepth 100000
set_option linter.unusedVariables false
set_option linter.unusedSimpArgs false
namespace Go.Proofs.YtomkidgmpbjgeaaDoor
open Go.ChangeShapes Go.WideShapes Go.ChangeAt Go.RowKit
theorem Src.ok_mk {kd bt dm at_ : Int} {zs sd : List Int} (k0 : -9223372036854775808 ≤ kd) (k1 : kd < 9223372036854775808) (ti : ∀ z ∈ zs, 0 ≤ z ∧ z < 256) (b0 : 0 ≤ bt) (b1 : bt < 18446744073709551616) (sl : sd.length = 32) (si : ∀ z ∈ sd, 0 ≤ z ∧ z < 256) (d0 : 0 ≤ dm) (d1 : dm < 18446744073709551616) (a0 : 0 ≤ at_) (a1 : at_ < 18446744073709551616) :
    (⟨kd, zs, bt, sd, dm, at_⟩ : Src).tape.length ≤ 140737488355328 → (⟨kd, zs, bt, sd, dm, at_⟩ : Src).Ok := fun tl => ⟨k0, k1, tl, ti, b0, b1, sl, si, d0, d1, a0, a1⟩
set_option maxHeartbeats 1000000 in
theorem open_src {H : Type} {enc : TypeId × Value → H} {w : World} {base b0 : Nat} {spare : Nat → Bool} {held : Bool} {r : Reach} {v : Value} {d : DataW H} {p : List MemPlace}
    (hv : Value.okWide Tryd.prog w r b0 37 v) (h : DataW.Trod enc Tryd.prog w base spare held 37 v d p) :
    ∃ (s : Src) (A : Option Addr) (c : Nat), v = .agg (srcV s A c) ∧ (s.tape.length ≤ 140737488355328 → s.Ok) ∧ Rd .u8 w w.heap.size A s.tape.length s.tape ∧ s.tape.length ≤ c ∧ c ≤ maxLen ∧ s.seed.length = 32 := by
  have hv' : ∃ cs : Array Value, v = .agg cs := by
    simp only [Value.okWide, Tryd.underlying37] at hv
    obtain ⟨cs, h1, _⟩ := hv
    exact ⟨cs, h1⟩
  obtain ⟨cs, rfl⟩ := hv'
  obtain ⟨fuel, hf⟩ := h
  obtain ⟨xs, m, _, _, hl, hxl, hat⟩ := DataW.trod_struct Tryd.underlying37 hf
  have hC : Tryd.prog.cellsOf 37 = 37 := by kernel_rfl
  rw [hC] at hl
  obtain ⟨ls, hls⟩ : ∃ ls, (Value.cells (.agg cs)).toList = ls := ⟨_, rfl⟩
  have hcs : cs = ls.toArray := by rw [← hls]; rfl
  rw [hls] at hl hat
  have ci : Tryd.prog.cellsOf 3 = 1 := by kernel_rfl
  have cl : Tryd.prog.cellsOf 33 = 1 := by kernel_rfl
  have cu : Tryd.prog.cellsOf 24 = 1 := by kernel_rfl
  have ch : Tryd.prog.cellsOf 35 = 32 := by kernel_rfl
  have g0 := hat 0 _ rfl
  have g1 := hat 1 _ rfl
  have g2 := hat 2 _ rfl
  have g3 := hat 3 _ rfl
  have g4 := hat 4 _ rfl
  have g5 := hat 5 _ rfl
  change DataW.trod enc Tryd.prog w base spare held m 3 (List.take (Tryd.prog.cellsOf 3) (List.drop 0 ls)) = xs[0]? at g0
  change DataW.trod enc Tryd.prog w base spare held m 33 (List.take (Tryd.prog.cellsOf 33) (List.drop 1 ls)) = xs[1]? at g1
  change DataW.trod enc Tryd.prog w base spare held m 24 (List.take (Tryd.prog.cellsOf 24) (List.drop 2 ls)) = xs[2]? at g2
  change DataW.trod enc Tryd.prog w base spare held m 35 (List.take (Tryd.prog.cellsOf 35) (List.drop 3 ls)) = xs[3]? at g3
  change DataW.trod enc Tryd.prog w base spare held m 24 (List.take (Tryd.prog.cellsOf 24) (List.drop 35 ls)) = xs[4]? at g4
  change DataW.trod enc Tryd.prog w base spare held m 24 (List.take (Tryd.prog.cellsOf 24) (List.drop 36 ls)) = xs[5]? at g5
  have hx6 : xs.length = 6 := hxl
  rw [ci, List.drop_zero, List.getElem?_eq_getElem (show 0 < xs.length by omega)] at g0
  rw [cl, List.getElem?_eq_getElem (show 1 < xs.length by omega)] at g1
  rw [cu, List.getElem?_eq_getElem (show 2 < xs.length by omega)] at g2
  rw [ch, List.getElem?_eq_getElem (show 3 < xs.length by omega)] at g3
  rw [cu, List.getElem?_eq_getElem (show 4 < xs.length by omega)] at g4
  rw [cu, List.getElem?_eq_getElem (show 5 < xs.length by omega)] at g5
  have one : ∀ i, i < 37 → List.take 1 (List.drop i ls) = [ls.getD i undef] := fun i hi => by
    rw [List.drop_eq_getElem_cons (show i < ls.length by omega), List.take_succ_cons, List.take_zero, List.getD_eq_getElem?_getD, List.getElem?_eq_getElem (show i < ls.length by omega), Option.getD_some]
  have g0' : DataW.trod enc Tryd.prog w base spare held m 3 [ls.getD 0 undef] = some (xs[0]'(by omega)) := by rw [← one 0 (by omega), List.drop_zero]; exact g0
  rw [one 1 (by omega)] at g1
  rw [one 2 (by omega)] at g2
  rw [one 35 (by omega)] at g4
  rw [one 36 (by omega)] at g5
  obtain ⟨kd, hk, _, wk⟩ := DataW.trod_int Tryd.underlying3 g0'
  obtain ⟨bt, hb, _, wb⟩ := DataW.trod_int Tryd.underlying24 g2
  obtain ⟨dm, hd, _, wd⟩ := DataW.trod_int Tryd.underlying24 g4
  obtain ⟨at_, ha, _, wa⟩ := DataW.trod_int Tryd.underlying24 g5
  injection hk with hk _
  injection hb with hb _
  injection hd with hd _
  injection ha with ha _
  obtain ⟨sd, hsl, hs, hsw⟩ := trod_ints Tryd.underlying35 Tryd.underlying5 (by kernel_rfl) (by kernel_rfl) g3
  have hsplit : ls = [ls.getD 0 undef, ls.getD 1 undef, ls.getD 2 undef] ++ (List.take 32 (List.drop 3 ls) ++ [ls.getD 35 undef, ls.getD 36 undef]) := by
    have e1 : ls = ls.take 3 ++ ls.drop 3 := (List.take_append_drop 3 ls).symm
    have e2 : ls.drop 3 = (ls.drop 3).take 32 ++ (ls.drop 3).drop 32 := (List.take_append_drop 32 _).symm
    have e3 : ls.take 3 = [ls.getD 0 undef, ls.getD 1 undef, ls.getD 2 undef] := by
      match ls, hl with
      | a :: b :: c :: l, _ => rfl
    have e4 : (ls.drop 3).drop 32 = [ls.getD 35 undef, ls.getD 36 undef] := by
      rw [List.drop_drop, List.drop_eq_getElem_cons (show 3 + 32 < ls.length by omega), List.drop_eq_getElem_cons (show 3 + 32 + 1 < ls.length by omega), List.drop_eq_nil_of_le (by omega)]
      simp [List.getD_eq_getElem?_getD, List.getElem?_eq_getElem (show 35 < ls.length by omega), List.getElem?_eq_getElem (show 36 < ls.length by omega)]
    conv => lhs; rw [e1, e2, e3, e4]
  have bk := bounds_i64 wk
  have bb := bounds_u64 wb
  have bd := bounds_u64 wd
  have ba := bounds_u64 wa
  rcases open_ints Tryd.underlying33 Tryd.underlying5 (by kernel_rfl) g1 with ⟨hcs1, _⟩ | ⟨x, l, c, zs, hcs1, _, hl1, hm1, hz1, _, hcell, hwz⟩
  · injection hcs1 with hcs1 _
    refine ⟨⟨kd, [], bt, sd, dm, at_⟩, none, 0, ?_, Src.ok_mk (by omega) (by omega) (fun _ h => (by cases h)) (by omega) (by omega) hsl (u8b hsw) (by omega) (by omega) (by omega) (by omega), Rd.none_, Nat.le_refl _, by simp [maxLen], hsl⟩
    rw [hcs, hsplit, hs, hk, hcs1, hb, hd, ha]
    rfl
  · injection hcs1 with hcs1 _
    have hlz : l ≤ zs.length := by rw [hz1]; split <;> omega
    have htl : (zs.take l).length = l := by rw [List.length_take]; omega
    refine ⟨⟨kd, zs.take l, bt, sd, dm, at_⟩, some x, c, ?_, Src.ok_mk (by omega) (by omega) (fun z hz => u8b hwz z (List.mem_of_mem_take hz)) (by omega) (by omega) hsl (u8b hsw) (by omega) (by omega) (by omega) (by omega), ?_, by rw [htl]; exact hl1, hm1, hsl⟩
    · rw [hcs, hsplit, hs, hk, hcs1, hb, hd, ha]
      unfold srcV
      rw [htl]
    · rw [htl]
      exact rd_of_cells hlz rfl (fun h => by cases h) (fun a' e' c' hc' => by injection e' with e'; subst e'; exact hcell c' hc')
end Go.Proofs.YtomkidgmpbjgeaaDoor
/-
  What the reference's Great of stage 13 returns.
  Conditions: the arguments lie in their types' ranges.
-/
set_option maxRecDepth 100000
set_option linter.unusedVariables false
set_option linter.unusedSimpArgs false
namespace Go.Proofs.YtomkidgmpbjgeaaDoor
open Go.ChangeShapes Go.WideShapes Go.ChangeAt Go.RowKit
/-- More than is looked at? -/
theorem r13great_c (s : Src) (tl : s.tape.length ≤ 9223372036854775807) (AL : Option Addr) (n c : Nat) (hn : n ≤ maxLen) (A : Option Addr) (c0 : Nat) (w : World) : Calls Tryd.prog 12 #[.slice AL n c, .agg (srcV s A c0)] w fun e w' => e = .returned (.bool (decide (200 < n ∨ 500 < s.tape.length))) ∧ Below w.heap.size w w' := by
  have HC := Lib.hid (fun (W : World) (g : Nat) (h : Blk W g 37 (srcV s A c0)) => (h.cell 1).trans (srcV_tape s A c0))
  have hnm : (n : Int) ≤ 9223372036854775807 := by unfold maxLen at hn; omega
  obtain ⟨V, hV⟩ : ∃ V, srcV s A c0 = V := ⟨_, rfl⟩
  obtain ⟨L, hL⟩ : ∃ x, s.tape.length = x := ⟨_, rfl⟩
  rw [hV, hL] at HC
  rw [hV, hL]
  rw [hL] at tl
  have hL2 : (L : Int) ≤ 9223372036854775807 := by omega
  clear hV hL hn tl
  by_cases h1 : 200 < n
  · rw [decide_eq_true (Or.inl h1)]
    have h2 : (200 : Int) < (n : Int) := by omega
    clear h1
    go_enter Tryd.func12, Tryd.ntmps12
    go_wp2_with (with_reducible refine at_any ?_; refine at_dst 3 rfl ?_; refine wpList_box_any rfl 37 (.tmp 1) rfl V rfl ?_; intro w1 hk1 hs1 hb1; have c1 := HC.out _ _ hk1.out; have HB1 := Lib.hid hb1)
    go_ret
    exact ⟨rfl, HB1.out⟩
  · have h2 : (n : Int) ≤ 200 := by omega
    by_cases h3 : 500 < L
    · rw [decide_eq_true (Or.inr h3)]
      have h4 : (500 : Int) < (L : Int) := by omega
      clear h1 h3
      go_enter Tryd.func12, Tryd.ntmps12
      go_wp2_with (with_reducible refine at_any ?_; refine at_dst 3 rfl ?_; refine wpList_box_any rfl 37 (.tmp 1) rfl V rfl ?_; intro w1 hk1 hs1 hb1; have c1 := HC.out _ _ hk1.out; have HB1 := Lib.hid hb1)
      go_ret
      exact ⟨rfl, HB1.out⟩
    · rw [decide_eq_false (fun h => h.elim h1 h3)]
      have h4 : (L : Int) ≤ 500 := by omega
      have d1 : decide (200 < (n : Int)) = false := decide_eq_false (by omega)
      have d2 : decide (500 < (L : Int)) = false := decide_eq_false (by omega)
      clear h1 h3
      go_enter Tryd.func12, Tryd.ntmps12
      go_wp2_with (with_reducible refine at_any ?_; refine at_dst 3 rfl ?_; refine wpList_box_any rfl 37 (.tmp 1) rfl V rfl ?_; intro w1 hk1 hs1 hb1; have c1 := HC.out _ _ hk1.out; have HB1 := Lib.hid hb1)
      go_ret
      exact ⟨rfl, HB1.out⟩
end Go.Proofs.YtomkidgmpbjgeaaDoor
/-
  What the reference's Need of stage 8 returns.
  Conditions: the number lies in its type's range.
-/
set_option maxRecDepth 100000
set_option linter.unusedVariables false
set_option linter.unusedSimpArgs false
namespace Go.Proofs.YtomkidgmpbjgeaaDoor
open Go.ChangeShapes Go.WideShapes Go.ChangeAt Go.RowKit
theorem r8need_c (n : Int) (n0 : 0 ≤ n) (n1 : n < 18446744073709551616) (w : World) : Calls Tryd.prog 6 #[.int .u64 n] w fun e w' => e = .returned (.int .i64 (needN n : Nat)) ∧ w = w' := by
  by_cases h : n = 0
  · subst h
    go_enter Tryd.func6, Tryd.ntmps6
    go_wp2
    go_ret
    exact ⟨rfl, rfl⟩
  · have HB := Lib.hid (fun W => rbits_i (n - 1) (by omega) (by omega) W)
    have hR : needN n = Wd.bitsL (n - 1).toNat := by unfold needN; rw [if_neg h]
    rw [hR]
    obtain ⟨B, hB⟩ : ∃ B, Wd.bitsL (n - 1).toNat = B := ⟨_, rfl⟩
    rw [hB] at HB ⊢
    have t1 : (n == 0) = false := by rw [beq_eq_false_iff_ne]; exact h
    have e1 : IntKind.u64.wrap (n - 1) = n - 1 := by rw [IntKind.wrap_u64]; omega
    clear h hR hB
    go_enter Tryd.func6, Tryd.ntmps6
    go_wp2_with (go_at_call 14; (with_reducible refine (HB.out _).mono ?_); rintro e _ ⟨rfl, rfl⟩)
    go_ret
    exact ⟨rfl, rfl⟩
end Go.Proofs.YtomkidgmpbjgeaaDoor
/-
  A number as a tape of so many bits, in plain Lean: its bytes, its bits, and what draws of it give.
  Conditions: those that each theorem names.
-/
set_option maxRecDepth 100000
set_option linter.unusedVariables false
set_option linter.unusedSimpArgs false
namespace Go.Proofs.YtomkidgmpbjgeaaDoor
/-- The bit of the number q, of the first i ones; the first one is the highest of all. -/
def bitB (x bits i q : Nat) : Int := if q < i then ((x / 2 ^ (bits - 1 - q) % 2 : Nat) : Int) else 0
def byteB (x bits i j : Nat) : Int := 128 * bitB x bits i (8 * j) + 64 * bitB x bits i (8 * j + 1) + 32 * bitB x bits i (8 * j + 2) + 16 * bitB x bits i (8 * j + 3) + 8 * bitB x bits i (8 * j + 4) + 4 * bitB x bits i (8 * j + 5) + 2 * bitB x bits i (8 * j + 6) + bitB x bits i (8 * j + 7)
/-- The bytes of the first i bits. -/
def bytesB (x bits i : Nat) : List Int := (List.range ((i + 7) / 8)).map (byteB x bits i)
/-- The same, with room for one bit more. -/
def bytesC (x bits i : Nat) : List Int := (List.range (i / 8 + 1)).map (byteB x bits i)
theorem bitB_in (x bits i q : Nat) : 0 ≤ bitB x bits i q ∧ bitB x bits i q < 2 := by unfold bitB; split <;> omega
theorem bitB_out (x bits i q : Nat) (h : i ≤ q) : bitB x bits i q = 0 := by unfold bitB; rw [if_neg (by omega)]
theorem bitB_old (x bits i q : Nat) (h : q ≠ i) : bitB x bits (i + 1) q = bitB x bits i q := by
  unfold bitB
  by_cases h1 : q < i
  · rw [if_pos h1, if_pos (by omega)]
  · rw [if_neg h1, if_neg (by omega)]
theorem byteB_in (x bits i j : Nat) : 0 ≤ byteB x bits i j ∧ byteB x bits i j < 256 := by
  have h0 := bitB_in x bits i (8 * j)
  have h1 := bitB_in x bits i (8 * j + 1)
  have h2 := bitB_in x bits i (8 * j + 2)
  have h3 := bitB_in x bits i (8 * j + 3)
  have h4 := bitB_in x bits i (8 * j + 4)
  have h5 := bitB_in x bits i (8 * j + 5)
  have h6 := bitB_in x bits i (8 * j + 6)
  have h7 := bitB_in x bits i (8 * j + 7)
  unfold byteB
  omega
theorem byteB_other (x bits i j : Nat) (h : j ≠ i / 8) : byteB x bits (i + 1) j = byteB x bits i j := by
  unfold byteB
  rw [bitB_old _ _ _ _ (by omega), bitB_old _ _ _ _ (by omega), bitB_old _ _ _ _ (by omega), bitB_old _ _ _ _ (by omega), bitB_old _ _ _ _ (by omega), bitB_old _ _ _ _ (by omega), bitB_old _ _ _ _ (by omega), bitB_old _ _ _ _ (by omega)]
theorem eight (r : Nat) (h : r < 8) : r = 0 ∨ r = 1 ∨ r = 2 ∨ r = 3 ∨ r = 4 ∨ r = 5 ∨ r = 6 ∨ r = 7 := by omega
theorem byteB_next (x bits i : Nat) : byteB x bits (i + 1) (i / 8) = byteB x bits i (i / 8) + bitB x bits (i + 1) i * 2 ^ (7 - i % 8) ∧ byteB x bits i (i / 8) + 2 ^ (7 - i % 8) < 256 := by
  obtain ⟨a, r, hr, rfl⟩ : ∃ a r, r < 8 ∧ i = 8 * a + r := ⟨i / 8, i % 8, by omega, by omega⟩
  rw [show (8 * a + r) / 8 = a by omega, show (8 * a + r) % 8 = r by omega]
  have ho := fun q (h : q ≠ 8 * a + r) => bitB_old x bits (8 * a + r) q h
  have hz := fun q (h : 8 * a + r ≤ q) => bitB_out x bits (8 * a + r) q h
  have hi := fun q => bitB_in x bits (8 * a + r) q
  have hn := bitB_in x bits (8 * a + r + 1) (8 * a + r)
  have i0 := hi (8 * a)
  have i1 := hi (8 * a + 1)
  have i2 := hi (8 * a + 2)
  have i3 := hi (8 * a + 3)
  have i4 := hi (8 * a + 4)
  have i5 := hi (8 * a + 5)
  have i6 := hi (8 * a + 6)
  have i7 := hi (8 * a + 7)
  unfold byteB
  rcases eight r hr with rfl | rfl | rfl | rfl | rfl | rfl | rfl | rfl
  · rw [ho (8 * a + 1) (by omega), ho (8 * a + 2) (by omega), ho (8 * a + 3) (by omega), ho (8 * a + 4) (by omega), ho (8 * a + 5) (by omega), ho (8 * a + 6) (by omega), ho (8 * a + 7) (by omega)]
    have z0 := hz (8 * a) (by omega)
    have z1 := hz (8 * a + 1) (by omega)
    have z2 := hz (8 * a + 2) (by omega)
    have z3 := hz (8 * a + 3) (by omega)
    have z4 := hz (8 * a + 4) (by omega)
    have z5 := hz (8 * a + 5) (by omega)
    have z6 := hz (8 * a + 6) (by omega)
    have z7 := hz (8 * a + 7) (by omega)
    simp only [Nat.add_zero] at *
    omega
  · rw [ho (8 * a) (by omega), ho (8 * a + 2) (by omega), ho (8 * a + 3) (by omega), ho (8 * a + 4) (by omega), ho (8 * a + 5) (by omega), ho (8 * a + 6) (by omega), ho (8 * a + 7) (by omega)]
    have z1 := hz (8 * a + 1) (by omega)
    have z2 := hz (8 * a + 2) (by omega)
    have z3 := hz (8 * a + 3) (by omega)
    have z4 := hz (8 * a + 4) (by omega)
    have z5 := hz (8 * a + 5) (by omega)
    have z6 := hz (8 * a + 6) (by omega)
    have z7 := hz (8 * a + 7) (by omega)
    omega
  · rw [ho (8 * a) (by omega), ho (8 * a + 1) (by omega), ho (8 * a + 3) (by omega), ho (8 * a + 4) (by omega), ho (8 * a + 5) (by omega), ho (8 * a + 6) (by omega), ho (8 * a + 7) (by omega)]
    have z2 := hz (8 * a + 2) (by omega)
    have z3 := hz (8 * a + 3) (by omega)
    have z4 := hz (8 * a + 4) (by omega)
    have z5 := hz (8 * a + 5) (by omega)
    have z6 := hz (8 * a + 6) (by omega)
    have z7 := hz (8 * a + 7) (by omega)
    omega
  · rw [ho (8 * a) (by omega), ho (8 * a + 1) (by omega), ho (8 * a + 2) (by omega), ho (8 * a + 4) (by omega), ho (8 * a + 5) (by omega), ho (8 * a + 6) (by omega), ho (8 * a + 7) (by omega)]
    have z3 := hz (8 * a + 3) (by omega)
    have z4 := hz (8 * a + 4) (by omega)
    have z5 := hz (8 * a + 5) (by omega)
    have z6 := hz (8 * a + 6) (by omega)
    have z7 := hz (8 * a + 7) (by omega)
    omega
  · rw [ho (8 * a) (by omega), ho (8 * a + 1) (by omega), ho (8 * a + 2) (by omega), ho (8 * a + 3) (by omega), ho (8 * a + 5) (by omega), ho (8 * a + 6) (by omega), ho (8 * a + 7) (by omega)]
    have z4 := hz (8 * a + 4) (by omega)
    have z5 := hz (8 * a + 5) (by omega)
    have z6 := hz (8 * a + 6) (by omega)
    have z7 := hz (8 * a + 7) (by omega)
    omega
  · rw [ho (8 * a) (by omega), ho (8 * a + 1) (by omega), ho (8 * a + 2) (by omega), ho (8 * a + 3) (by omega), ho (8 * a + 4) (by omega), ho (8 * a + 6) (by omega), ho (8 * a + 7) (by omega)]
    have z5 := hz (8 * a + 5) (by omega)
    have z6 := hz (8 * a + 6) (by omega)
    have z7 := hz (8 * a + 7) (by omega)
    omega
  · rw [ho (8 * a) (by omega), ho (8 * a + 1) (by omega), ho (8 * a + 2) (by omega), ho (8 * a + 3) (by omega), ho (8 * a + 4) (by omega), ho (8 * a + 5) (by omega), ho (8 * a + 7) (by omega)]
    have z6 := hz (8 * a + 6) (by omega)
    have z7 := hz (8 * a + 7) (by omega)
    omega
  · rw [ho (8 * a) (by omega), ho (8 * a + 1) (by omega), ho (8 * a + 2) (by omega), ho (8 * a + 3) (by omega), ho (8 * a + 4) (by omega), ho (8 * a + 5) (by omega), ho (8 * a + 6) (by omega)]
    have z7 := hz (8 * a + 7) (by omega)
    omega
/-- The bits of a byte are those that it was made of. -/
theorem byteB_bit (x bits i q : Nat) : byteB x bits i (q / 8) / 2 ^ (7 - q % 8) % 2 = bitB x bits i q := by
  obtain ⟨a, r, hr, rfl⟩ : ∃ a r, r < 8 ∧ q = 8 * a + r := ⟨q / 8, q % 8, by omega, by omega⟩
  rw [show (8 * a + r) / 8 = a by omega, show (8 * a + r) % 8 = r by omega]
  have hi := fun q => bitB_in x bits i q
  have i0 := hi (8 * a)
  have i1 := hi (8 * a + 1)
  have i2 := hi (8 * a + 2)
  have i3 := hi (8 * a + 3)
  have i4 := hi (8 * a + 4)
  have i5 := hi (8 * a + 5)
  have i6 := hi (8 * a + 6)
  have i7 := hi (8 * a + 7)
  unfold byteB
  rcases eight r hr with rfl | rfl | rfl | rfl | rfl | rfl | rfl | rfl
  all_goals
    try rw [show (2 : Int) ^ (7 - 0) = 128 from rfl]
    try rw [show (2 : Int) ^ (7 - 1) = 64 from rfl]
    try rw [show (2 : Int) ^ (7 - 2) = 32 from rfl]
    try rw [show (2 : Int) ^ (7 - 3) = 16 from rfl]
    try rw [show (2 : Int) ^ (7 - 4) = 8 from rfl]
    try rw [show (2 : Int) ^ (7 - 5) = 4 from rfl]
    try rw [show (2 : Int) ^ (7 - 6) = 2 from rfl]
    try rw [show (2 : Int) ^ (7 - 7) = 1 from rfl]
    try rw [show 8 * a + 0 = 8 * a from rfl]
    omega
theorem bytesB_len (x bits i : Nat) : (bytesB x bits i).length = (i + 7) / 8 := by unfold bytesB; rw [List.length_map, List.length_range]
theorem bytesC_len (x bits i : Nat) : (bytesC x bits i).length = i / 8 + 1 := by unfold bytesC; rw [List.length_map, List.length_range]
theorem bytesB_in (x bits i : Nat) : ∀ z ∈ bytesB x bits i, 0 ≤ z ∧ z < 256 := by
  intro z hz
  obtain ⟨j, _, rfl⟩ := List.mem_map.1 hz
  exact byteB_in x bits i j
theorem bytesB_at (x bits i j : Nat) (h : j < (i + 7) / 8) : (bytesB x bits i).getD j 0 = byteB x bits i j := by
  unfold bytesB
  rw [List.getD_eq_getElem?_getD, List.getElem?_map, List.getElem?_range h]
  rfl
theorem bytesC_at (x bits i : Nat) : (bytesC x bits i).getD (i / 8) 0 = byteB x bits i (i / 8) := by
  unfold bytesC
  rw [List.getD_eq_getElem?_getD, List.getElem?_map, List.getElem?_range (by omega)]
  rfl
theorem bytesB_get (x bits i j : Nat) (h : j < (bytesB x bits i).length) : (bytesB x bits i)[j] = byteB x bits i j := by simp [bytesB]
theorem bytesC_get (x bits i j : Nat) (h : j < (bytesC x bits i).length) : (bytesC x bits i)[j] = byteB x bits i j := by simp [bytesC]
theorem bytesC_new (x bits i : Nat) (h : i % 8 = 0) : bytesB x bits i ++ [0] = bytesC x bits i := by
  unfold bytesB bytesC
  rw [List.range_succ, List.map_append, show (i + 7) / 8 = i / 8 by omega]
  congr 1
  show [0] = [byteB x bits i (i / 8)]
  unfold byteB
  rw [bitB_out _ _ _ _ (by omega), bitB_out _ _ _ _ (by omega), bitB_out _ _ _ _ (by omega), bitB_out _ _ _ _ (by omega), bitB_out _ _ _ _ (by omega), bitB_out _ _ _ _ (by omega), bitB_out _ _ _ _ (by omega), bitB_out _ _ _ _ (by omega)]
  rfl
theorem bytesC_old (x bits i : Nat) (h : i % 8 ≠ 0) : bytesB x bits i = bytesC x bits i := by
  unfold bytesB bytesC
  rw [show (i + 7) / 8 = i / 8 + 1 by omega]
/-- One bit more. -/
theorem bytesB_next (x bits i : Nat) : bytesB x bits (i + 1) = (bytesC x bits i).set (i / 8) (byteB x bits (i + 1) (i / 8)) := by
  apply List.ext_getElem
  · rw [bytesB_len, List.length_set, bytesC_len]; omega
  · intro j h1 h2
    rw [List.getElem_set, bytesB_get]
    split
    · rename_i h; rw [← h]
    · rename_i h; rw [bytesC_get]; exact byteB_other x bits i j (fun h3 => h h3.symm)
theorem bytesB_zero (x bits i : Nat) (h : bitB x bits (i + 1) i = 0) : bytesB x bits (i + 1) = bytesC x bits i := by
  rw [bytesB_next, (byteB_next x bits i).1, h, Int.zero_mul, Int.add_zero]
  apply List.ext_getElem
  · rw [List.length_set]
  · intro j h1 h2
    rw [List.getElem_set]
    split
    · rename_i h3; subst h3; rw [bytesC_get]
    · rfl
theorem bytesB_one (x bits i : Nat) (h : bitB x bits (i + 1) i = 1) : bytesB x bits (i + 1) = (bytesC x bits i).set (i / 8) (byteB x bits i (i / 8) + 2 ^ (7 - i % 8)) := by
  rw [bytesB_next, (byteB_next x bits i).1, h, Int.one_mul]
theorem bitB_at (x bits i : Nat) : bitB x bits (i + 1) i = ((x / 2 ^ (bits - 1 - i) % 2 : Nat) : Int) := by unfold bitB; rw [if_pos (by omega)]
/-! ### the number as a source -/
def numT (x bits : Nat) : Src := ⟨1, bytesB x bits bits, bits, List.replicate 32 0, 0, 0⟩
theorem numT_ok (x bits : Nat) (h : bits ≤ 1000) : (numT x bits).Ok := ⟨(by show (-9223372036854775808 : Int) ≤ 1; omega), (by show (1 : Int) < 9223372036854775808; omega), by show (bytesB x bits bits).length ≤ _; rw [bytesB_len]; omega, bytesB_in x bits bits, by show (0 : Int) ≤ (bits : Int); omega, by show (bits : Int) < _; omega, rfl, fun z hz => by rw [List.eq_of_mem_replicate hz]; omega, Int.le_refl _, (by show (0 : Int) < 18446744073709551616; omega), Int.le_refl _, (by show (0 : Int) < 18446744073709551616; omega)⟩
theorem numT_bit (x bits n : Nat) (h : n < bits) (p : Int) : bitS ((numT x bits).to p) (n : Int) = ((x / 2 ^ (bits - 1 - n) % 2 : Nat) : Int) := by
  rw [bitS_to]
  unfold bitS
  rw [if_neg (by show ¬ (1 : Int) = 2; omega)]
  show (bytesB x bits bits).getD ((n : Int) / 8).toNat 0 / 2 ^ (7 - (n : Int) % 8).toNat % 2 = _
  rw [show ((n : Int) / 8).toNat = n / 8 by omega, show (7 - (n : Int) % 8).toNat = 7 - n % 8 by omega, bytesB_at _ _ _ _ (by omega), byteB_bit]
  unfold bitB
  rw [if_pos h]
theorem numT_num (x bits a : Nat) (p : Int) : ∀ k, a + k ≤ bits → numS ((numT x bits).to p) (a : Int) k = ((x / 2 ^ (bits - a - k) % 2 ^ k : Nat) : Int)
  | 0, _ => by rw [Nat.pow_zero, Nat.mod_one]; rfl
  | k + 1, h => by
    rw [numS_succ, numT_num x bits a p k (by omega), show (a : Int) + (k : Int) = ((a + k : Nat) : Int) by omega, numT_bit x bits (a + k) (by omega)]
    rw [show bits - 1 - (a + k) = bits - a - (k + 1) by omega, show bits - a - k = bits - a - (k + 1) + 1 by omega, Nat.pow_succ 2 (bits - a - (k + 1)), ← Nat.div_div_eq_div_mul]
    generalize x / 2 ^ (bits - a - (k + 1)) = y
    rw [Nat.pow_succ 2 k, Nat.mul_comm (2 ^ k) 2, Nat.mod_mul]
    generalize y / 2 % 2 ^ k = z
    omega
theorem numT_take (x bits a k : Nat) (h : a + k ≤ bits) (hk : k ≤ 64) : takeE ((numT x bits).to (a : Int)) k = 0 ∧ takeV ((numT x bits).to (a : Int)) k = ((x / 2 ^ (bits - a - k) % 2 ^ k : Nat) : Int) := by
  have hr : rightS ((numT x bits).to (a : Int)) = true := by
    unfold rightS
    rw [if_pos (show ((numT x bits).to (a : Int)).kind = 1 from rfl)]
    show (decide ((bits : Int) ≤ 8 * ((bytesB x bits bits).length : Int)) && decide ((a : Int) ≤ (bits : Int))) = true
    rw [bytesB_len, decide_eq_true (by omega), decide_eq_true (by omega)]
    rfl
  have hl : leftS ((numT x bits).to (a : Int)) = (bits : Int) - a := by
    unfold leftS
    rw [if_pos hr, if_pos (show ((numT x bits).to (a : Int)).kind = 1 from rfl)]
    rfl
  have he : takeE ((numT x bits).to (a : Int)) k = 0 := takeE_ok.2 ⟨hr, by omega, by omega, by rw [hl]; omega⟩
  refine ⟨he, ?_⟩
  unfold takeV
  rw [if_pos he, Int.toNat_natCast]
  exact numT_num x bits a _ k h
/-- What draws of a number as a tape give. -/
def DrawsAs (bits : Nat) (h : Option Nat) (r : Int × Src × Int) : Prop := match h with
  | some v => r.1 = (v : Int) ∧ r.2.2 = 0 ∧ r.2.1.at_ ≤ (bits : Int)
  | none => r.2.2 = 9 ∧ r.2.1.at_ = (bits : Int)
theorem numT_draw (x k n m : Nat) (hk : k ≤ 64) : ∀ j, j ≤ m → DrawsAs (k * m) (hits (2 ^ k) n j (x % (2 ^ k) ^ j)) (drawGo k (n : Int) j ((numT x (k * m)).to ((k * (m - j) : Nat) : Int)))
  | 0, _ => by
    rw [drawGo_zero]
    exact ⟨rfl, by show ((k * (m - 0) : Nat) : Int) = _; rw [Nat.sub_zero]⟩
  | j + 1, hj => by
    have hd := numT_draw x k n m hk j (by omega)
    have e1 : k * (m - j) = k * (m - (j + 1)) + k := by rw [show m - j = m - (j + 1) + 1 by omega, Nat.mul_add, Nat.mul_one]
    have e2 : k * m = k * (m - j) + k * j := by rw [← Nat.mul_add]; congr 1; omega
    obtain ⟨h1, h2⟩ := numT_take x (k * m) (k * (m - (j + 1))) k (by omega) hk
    have e3 : k * m - k * (m - (j + 1)) - k = k * j := by omega
    rw [e3, Nat.pow_mul] at h2
    have e4 : x % (2 ^ k) ^ (j + 1) / (2 ^ k) ^ j = x / (2 ^ k) ^ j % 2 ^ k := by rw [Nat.pow_succ, Nat.mod_mul_right_div_self]
    have e5 : x % (2 ^ k) ^ (j + 1) % (2 ^ k) ^ j = x % (2 ^ k) ^ j := by rw [Nat.pow_succ]; exact Nat.mod_mul_right_mod _ _ _
    rw [hits, e4, e5]
    by_cases hx : x / (2 ^ k) ^ j % 2 ^ k < n
    · rw [if_pos hx, drawGo_hit h1 (by rw [h2]; exact_mod_cast hx)]
      exact ⟨h2, rfl, by rw [takeS_to h1]; show ((k * (m - (j + 1)) : Nat) : Int) + (k : Int) ≤ _; omega⟩
    · rw [if_neg hx, drawGo_miss h1 (by rw [h2]; exact_mod_cast hx), takeS_to h1, to_to]
      rw [show ((numT x (k * m)).to ((k * (m - (j + 1)) : Nat) : Int)).at_ + (k : Int) = ((k * (m - j) : Nat) : Int) from (by show ((k * (m - (j + 1)) : Nat) : Int) + (k : Int) = _; omega)]
      exact hd
/-- What is drawn, if anything, is below the bound, by whole attempts; with fewer attempts nothing is. -/
theorem draw_first (s : Src) (n m : Int) (hm0 : 1 ≤ m) (hm1 : m ≤ 64) :
    (drawE s n m ≠ 0 ∧ drawV s n m = 0) ∨ (drawE s n m = 0 ∧ ∃ j : Nat, (j : Int) < m ∧ drawV s n m < n ∧ (drawT s n m).at_ = s.at_ + ((needN n * (j + 1) : Nat) : Int) ∧ (1 ≤ j → drawR s n (j : Int) = (0, s.to (s.at_ + ((needN n * j : Nat) : Int)), 9))) := by
  unfold drawE drawV drawT drawR
  by_cases hb : drawB s n m = true
  · rw [if_pos hb]
    by_cases he : (drawGo (needN n) n m.toNat s).2.2 = 0
    · refine .inr ⟨he, ?_⟩
      obtain ⟨h1, j, hj, h2, h3⟩ := drawGo_first (needN n) n m.toNat s he
      refine ⟨j, by omega, h1, by rw [h2]; rfl, fun hj1 => ?_⟩
      have hb2 : drawB s n (j : Int) = true := by
        unfold drawB at hb ⊢
        rw [Bool.and_eq_true] at hb ⊢
        obtain ⟨a1, a2, a3, a4⟩ := of_decide_eq_true hb.2
        exact ⟨hb.1, decide_eq_true ⟨a1, a2, by omega, by omega⟩⟩
      rw [if_pos hb2, Int.toNat_natCast]
      exact h3
    · exact .inl ⟨he, drawGo_no _ _ _ _ he⟩
  · rw [if_neg hb]
    exact .inl ⟨by show ¬ (1 : Int) = 0; omega, rfl⟩
end Go.Proofs.YtomkidgmpbjgeaaDoor
/-
  What drawlotref08.Pow and Bytes return: powers; a number as a tape.
  Conditions: the power stays below 2^64; the number below 2^32, at most 31 bits.
-/
set_option maxRecDepth 100000
set_option linter.unusedSimpArgs false
namespace Go.Proofs.YtomkidgmpbjgeaaDoor
open Go.ChangeShapes Go.WideShapes Go.ChangeAt Go.RowKit
set_option linter.unusedVariables false
theorem r8pow_c (x n : Nat) (hb : ∀ i, i ≤ n → x ^ i < 18446744073709551616) (hn : n ≤ 1000) (w : World) : Calls Tryd.prog 8 #[.int .u64 (x : Int), .int .i64 (n : Int)] w fun e w' => e = .returned (.int .u64 ((x ^ n : Nat) : Int)) ∧ w = w' := by
  have HB := Lib.hid hb
  clear hb
  go_enter Tryd.func8, Tryd.ntmps8
  go_wp2
  go_loop [5, 6] (fun v cc => ∃ i : Nat, i ≤ n ∧ v = .int .u64 ((x ^ i : Nat) : Int) ∧ cc = .int .i64 (i : Int)) (fun _ cc => n - (intOf cc).toNat)
  case atStart => exact ⟨0, by omega, rfl, rfl⟩
  case round =>
    obtain ⟨i, hi, rfl, rfl⟩ := hrel
    by_cases hlt : i < n
    · have hp := HB.out (i + 1) (by omega)
      rw [Nat.pow_succ] at hp
      have HS := Lib.hid (Nat.pow_succ (m := i) (n := x))
      obtain ⟨P, hP⟩ : ∃ P, x ^ i = P := ⟨_, rfl⟩
      rw [hP] at hp HS ⊢
      have hm : ((P : Int)) * (x : Int) = ((P * x : Nat) : Int) := by push_cast; rfl
      obtain ⟨M, hM⟩ : ∃ M, P * x = M := ⟨_, rfl⟩
      rw [hM] at hp hm HS
      have e1 : IntKind.u64.wrap ((P : Int) * (x : Int)) = (M : Int) := by rw [hm, IntKind.wrap_u64]; omega
      have HM := Lib.hid hm
      clear hP hM hm
      go_wp2
      go_round
      case rel => exact ⟨i + 1, by omega, by rw [HS.out], by go_num⟩
      case measure => simp [intOf]; omega
    · obtain rfl : i = n := by omega
      go_wp2
      go_ret
      exact ⟨rfl, rfl⟩
theorem size_u8s : (Tryd.prog.info? 5).map (·.size) = some 1 := by kernel_rfl
theorem blk_drew8 {w : World} {g : Nat} {t : TypeId} {cs : Array Value} (h : Blk w g t cs) : Blk w.drew g t cs := h
def AnyB (_ : World) : Prop := True
def RetSl (w : World) (zs : List Int) (e : Ending) (w' : World) : Prop := ∃ A c, e = .returned (.slice A zs.length c) ∧ zs.length ≤ c ∧ c ≤ maxLen ∧ Rd .u8 w' w'.heap.size A zs.length zs ∧ Below w.heap.size w w'
theorem right_at (x n : Nat) (hn : n ≤ 31) : Wd.right (x : Int) (n : Int) = ((x / 2 ^ n : Nat) : Int) := by
  unfold Wd.right
  rcases Nat.eq_zero_or_pos n with h0 | h0
  · subst h0
    simp
  · rw [if_neg (by omega), if_neg (by omega), Int.toNat_natCast, Int.natCast_ediv, Int.natCast_pow]
    rfl
theorem left_one (q : Nat) (hq : q ≤ 7) : Wd.left 1 (q : Int) = 2 ^ q := by
  have : q = 0 ∨ q = 1 ∨ q = 2 ∨ q = 3 ∨ q = 4 ∨ q = 5 ∨ q = 6 ∨ q = 7 := by omega
  rcases this with rfl | rfl | rfl | rfl | rfl | rfl | rfl | rfl <;> rfl
set_option maxHeartbeats 8000000 in
theorem r8bytes_c (x bits : Nat) (hx : x < 4294967296) (hb : bits ≤ 31) (w : World) : Calls Tryd.prog 10 #[.int .u64 (x : Int), .int .i64 (bits : Int)] w (RetSl w (bytesB x bits bits)) := by
  obtain ⟨i0, hi0, hz0, hz1, hzb⟩ := info_parts info_u8'
  have e1 : (x : Int) % 4294967296 = (x : Int) := by omega
  have e2 : IntKind.u32.wrap (x : Int) = (x : Int) := by rw [IntKind.wrap_u32]; omega
  have HEND : Hid (∀ v W, OwnI W w.heap.size 5 .u8 v (bytesB x bits bits) → Below w.heap.size w W → RetSl w (bytesB x bits bits) (.returned v) W) := Lib.hid (fun v W h hb => by
    obtain ⟨A, c, rfl, h1, h2⟩ := h.form
    exact ⟨A, c, rfl, h1, h2, h.rd rfl, hb⟩)
  obtain ⟨F, hF⟩ : ∃ F, RetSl w (bytesB x bits bits) = F := ⟨_, rfl⟩
  rw [hF] at HEND ⊢
  clear hF
  go_enter Tryd.func10, Tryd.ntmps10
  go_wp2
  go_loopw [5, 6] (fun v cc wr => ∃ i : Nat, i ≤ bits ∧ cc = .int .i64 (i : Int) ∧ OwnI wr w.heap.size 5 .u8 v (bytesB x bits i) ∧ Below w.heap.size w wr) (fun _ cc _ => bits - (intOf cc).toNat)
  case atStart => exact ⟨0, by omega, rfl, ⟨by simp [bytesB], .inl ⟨rfl, by simp [bytesB]⟩⟩, Below.refl _ _⟩
  case round =>
    obtain ⟨i, hi, rfl, hown, hbq⟩ := hrel
    by_cases hlt : i < bits
    · have hnx := byteB_next x bits i
      have hlb := bytesB_len x bits i
      have hlc := bytesC_len x bits i
      have hcv := bytesC_at x bits i
      have hyi := byteB_in x bits i (i / 8)
      have hrt := fun W => rright_c (x : Int) ((bits - 1 - i : Nat) : Int) (by omega) (by omega) (by omega) (by omega) W
      rw [right_at _ _ (by omega)] at hrt
      have hba := bitB_at x bits i
      have hyb : x / 2 ^ (bits - 1 - i) < 4294967296 := Nat.lt_of_le_of_lt (Nat.div_le_self _ _) hx
      obtain ⟨Y, hY⟩ : ∃ Y, x / 2 ^ (bits - 1 - i) = Y := ⟨_, rfl⟩
      rw [hY] at hrt hba hyb
      have e3 : IntKind.i64.wrap ((bits : Int) - 1 - (i : Int)) = ((bits - 1 - i : Nat) : Int) := by rw [IntKind.wrap_i64]; omega
      have e4 : (bits : Int) - 1 - (i : Int) = ((bits - 1 - i : Nat) : Int) := by omega
      obtain ⟨u, hu⟩ : ∃ u, bits - 1 - i = u := ⟨_, rfl⟩
      rw [hu] at hrt e3 e4
      have HRT := Lib.hid hrt
      obtain ⟨j, hj⟩ : ∃ j, i / 8 = j := ⟨_, rfl⟩
      obtain ⟨r, hr⟩ : ∃ r, i % 8 = r := ⟨_, rfl⟩
      have hr8 : r < 8 := by omega
      rw [hj] at hlc hcv hyi hnx
      rw [hr] at hnx
      obtain ⟨y, hy⟩ : ∃ y, byteB x bits i j = y := ⟨_, rfl⟩
      rw [hy] at hcv hyi hnx
      have hp0 : (0 : Int) < 2 ^ (7 - r) := Wd.pow_pos2 _
      have hlf := fun W => rleft_c 1 ((7 - r : Nat) : Int) (by omega) (by omega) (by omega) (by omega) W
      rw [left_one _ (by omega)] at hlf
      have hone : bitB x bits (i + 1) i = 1 → bytesB x bits (i + 1) = (bytesC x bits i).set j (y + 2 ^ (7 - r)) := fun h => by rw [bytesB_one x bits i h, hj, hr, hy]
      obtain ⟨p, hp⟩ : ∃ p : Int, 2 ^ (7 - r) = p := ⟨_, rfl⟩
      rw [hp] at hlf hnx hp0 hone
      have HLF := Lib.hid hlf
      have HJI := Lib.hid hj
      have HRI := Lib.hid hr
      have hpl := hnx.2
      have hzero := bytesB_zero x bits i
      clear hrt hnx hY hu hp hlf
      -- the row with room for one bit more
      have hjb : j ≤ 4 := by omega
      by_cases h8 : r = 0
      · have t8 : ((i : Int) % 8 == 0) = true := by rw [beq_iff_eq]; omega
        have hcn := bytesC_new x bits i (by omega)
        have HCN := Lib.hid hcn
        have hl8 : (bytesB x bits i).length ≤ 4 := by omega
        have HOW := Lib.hid hown
        have HBQ := Lib.hid hbq
        have hsz := hbq.size
        have HL8 := Lib.hid hl8
        have H8 := Lib.hid h8
        clear h8
        clear hcn hown hbq hj hr hy  e4
        by_cases hbit : Y % 2 = 1
        · have tb : ((Y : Int) % 2 == 1) = true := by rw [beq_iff_eq]; omega
          have HON1 := Lib.hid (hone (by rw [hba]; omega))
          have HLC := Lib.hid hlc
          have HCV := Lib.hid hcv
          clear hzero hone hba hcv hlc hlb
          go_wp2_with (first
            | (at_builtin; refine wpList_append_ints _ rfl (.tmp 15) (.tmp 16) 33 rfl w.heap.size 5 i0 _ 1 .u8 Tryd.underlying33 hi0 hz0 hz1 hzb rfl _ (bytesB x bits i) rfl (HOW.out.alloc _) (wr.heap.size + 1) (some ⟨wr.heap.size, 0, none⟩) 1 1 [0] rfl (rd_one wr 5 .u8 0) (by have := HL8.out; simp [maxLen]; omega) (by have := HL8.out; omega) (by simp; omega) ?_; intro v6 w6 hown6 hg6 hat6; have hb6 : Below w.heap.size w w6 := (HOW.out.alloc _).below_ (HBQ.out.alloc hsz _) (by simp; omega) hg6; rw [HCN.out] at hown6; have HOC := Lib.hid hown6; have HBQ := Lib.hid hb6; clear hown6 hg6 hat6 hb6)
            | (go_at_call 17; (with_reducible refine (HRT.out _).mono ?_); rintro e _ ⟨rfl, rfl⟩))
          have hoc := HOC.out
          obtain ⟨A8, c, hv8, hc1, hc2⟩ := hoc.form
          rw [hv8] at hoc
          obtain ⟨g, cur, hA8, hge, hB8, hcs, hcc⟩ := hoc.whole (by rw [HLC.out]; omega)
          have hcj := hcc j (by rw [HLC.out]; omega)
          rw [HCV.out] at hcj
          rw [HLC.out] at hv8 hcs
          rw [hA8] at hv8 hoc
          rw [HLC.out] at hoc
          subst hv8
          have HB8 : Hid (Blk w6.drew g 5 cur) := Lib.hid (blk_drew8 hB8)
          have HNW : Hid (∀ W, Blk W g 5 (cur.setIfInBounds j (.int .u8 (y + p))) → Only g w6.drew W → OwnI W w.heap.size 5 .u8 (.slice (some ⟨g, 0, none⟩) (j + 1) c) (bytesB x bits (i + 1)) ∧ Below w.heap.size w W) := Lib.hid (fun W h1 h2 => ⟨by rw [HON1.out]; exact hoc.put hB8 (by rw [HLC.out]; omega) h1, HBQ.out.trans (h2.of_drew.below hge HBQ.out.size)⟩)
          have HCJ : Hid (w6.drew.cell? ⟨g, j, none⟩ = some (.int .u8 y)) := Lib.hid (by rw [HB8.out.cell]; exact hcj)
          have HJL : Hid (j < cur.size) := Lib.hid (by omega)
          have HIX := Lib.hid (show (j : Int) < (j : Int) + 1 by omega)
          have HZ1 := Lib.hid (show ((i : Nat) : Int).tdiv 8 = (j : Int) by rw [Int.tdiv_eq_ediv_of_nonneg (by omega)]; have := HJI.out; omega)
          have HZ2 := Lib.hid (show IntKind.i64.wrap (j : Int) = (j : Int) by rw [IntKind.wrap_i64]; omega)
          have HR1 := Lib.hid (show ((i : Nat) : Int).tmod 8 = (r : Int) by rw [Int.tmod_eq_emod_of_nonneg (by omega)]; have := HRI.out; omega)
          have HR2 := Lib.hid (show IntKind.i64.wrap (r : Int) = (r : Int) by rw [IntKind.wrap_i64]; omega)
          have HS1 := Lib.hid (show IntKind.i64.wrap (7 - (r : Int)) = ((7 - r : Nat) : Int) by rw [IntKind.wrap_i64]; omega)
          have HP1 := Lib.hid (show IntKind.u8.wrap p = p by rw [IntKind.wrap_u8]; omega)
          have HP2 := Lib.hid (show IntKind.u8.wrap (y + p) = y + p by rw [IntKind.wrap_u8]; omega)
          clear hoc hA8 hge hB8 hcs hcc hcj hc1 hc2
          refine wp_region_held_drew (S := AnyB) (by kernel_rfl) trivial (fun _ => ?_)
          refine wpAnyH_letter #[false, false, false, false, false, false, false, false, false, false, false, false, false, false, false, false] (by kernel_rfl) (fun _ _ d _ _ h => by cases d <;> exact h) (fun QL HQ1 HQ2 => ?_)
          refine held_v 0 (some 28) rfl (by kernel_rfl) (by kernel_rfl) (by kernel_rfl) (by kernel_rfl) (fun c a v w h => HQ2.out c a _ v w h) (by kernel_rfl) (.slice (some ⟨g, 0, none⟩) (j + 1) c) (fun W h => by kernel_rfl) trivial ?_
          try simp only [Act.put, List.setIfInBounds_toArray, List.set_cons_zero, List.set_cons_succ]
          refine held_v 1 (some 29) rfl (by kernel_rfl) (by kernel_rfl) (by kernel_rfl) (by kernel_rfl) (fun c a v w h => HQ2.out c a _ v w h) (by kernel_rfl) (.int .i64 (i : Int)) (fun W h => by kernel_rfl) trivial ?_
          try simp only [Act.put, List.setIfInBounds_toArray, List.set_cons_zero, List.set_cons_succ]
          refine held_v 2 (some 30) rfl (by kernel_rfl) (by kernel_rfl) (by kernel_rfl) (by kernel_rfl) (fun c a v w h => HQ2.out c a _ v w h) (by kernel_rfl) (.int .i64 (j : Int)) (fun W h => by have p := HZ1.out; have p2 := HZ2.out; go_simp) trivial ?_
          try simp only [Act.put, List.setIfInBounds_toArray, List.set_cons_zero, List.set_cons_succ]
          refine held_v 3 (some 31) rfl (by kernel_rfl) (by kernel_rfl) (by kernel_rfl) (by kernel_rfl) (fun c a v w h => HQ2.out c a _ v w h) (by kernel_rfl) (.slice (some ⟨g, 0, none⟩) (j + 1) c) (fun W h => by kernel_rfl) trivial ?_
          try simp only [Act.put, List.setIfInBounds_toArray, List.set_cons_zero, List.set_cons_succ]
          refine held_v 4 (some 32) rfl (by kernel_rfl) (by kernel_rfl) (by kernel_rfl) (by kernel_rfl) (fun c a v w h => HQ2.out c a _ v w h) (by kernel_rfl) (.int .i64 (i : Int)) (fun W h => by kernel_rfl) trivial ?_
          try simp only [Act.put, List.setIfInBounds_toArray, List.set_cons_zero, List.set_cons_succ]
          refine held_v 5 (some 33) rfl (by kernel_rfl) (by kernel_rfl) (by kernel_rfl) (by kernel_rfl) (fun c a v w h => HQ2.out c a _ v w h) (by kernel_rfl) (.int .i64 (j : Int)) (fun W h => by have p := HZ1.out; have p2 := HZ2.out; go_simp) trivial ?_
          try simp only [Act.put, List.setIfInBounds_toArray, List.set_cons_zero, List.set_cons_succ]
          refine held_v 6 (some 34) rfl (by kernel_rfl) (by kernel_rfl) (by kernel_rfl) (by kernel_rfl) (fun c a v w h => HQ2.out c a _ v w h) (by kernel_rfl) (.pointer (some ⟨g, j, none⟩)) (fun W h => by have p := HIX.out; go_simp) trivial ?_
          try simp only [Act.put, List.setIfInBounds_toArray, List.set_cons_zero, List.set_cons_succ]
          refine held_v 8 (some 36) rfl (by kernel_rfl) (by kernel_rfl) (by kernel_rfl) (by kernel_rfl) (fun c a v w h => HQ2.out c a _ v w h) (by kernel_rfl) (.int .i64 (i : Int)) (fun W h => by kernel_rfl) trivial ?_
          try simp only [Act.put, List.setIfInBounds_toArray, List.set_cons_zero, List.set_cons_succ]
          refine held_v 9 (some 37) rfl (by kernel_rfl) (by kernel_rfl) (by kernel_rfl) (by kernel_rfl) (fun c a v w h => HQ2.out c a _ v w h) (by kernel_rfl) (.int .i64 (r : Int)) (fun W h => by have p := HR1.out; have p2 := HR2.out; go_simp) trivial ?_
          try simp only [Act.put, List.setIfInBounds_toArray, List.set_cons_zero, List.set_cons_succ]
          refine held_v 10 (some 38) rfl (by kernel_rfl) (by kernel_rfl) (by kernel_rfl) (by kernel_rfl) (fun c a v w h => HQ2.out c a _ v w h) (by kernel_rfl) (.int .i64 ((7 - r : Nat) : Int)) (fun W h => by have p := HS1.out; go_simp) trivial ?_
          try simp only [Act.put, List.setIfInBounds_toArray, List.set_cons_zero, List.set_cons_succ]
          refine wpAnyH_ready (rs := [7, 11]) (by kernel_rfl) (by decide) ?_
          refine AllReadyH.cons rfl (fun K hK => ?_) (AllReadyH.cons rfl (fun K hK => ?_) AllReadyH.nil)
          · refine step_v (some 35) (by kernel_rfl) (by kernel_rfl) (.int .u8 y) (by have p := HCJ.out; go_simp) ?_
            refine hK.out _ _ trivial (fun _ => ?_)
            clear hK K
            try simp only [Act.put, List.setIfInBounds_toArray, List.set_cons_zero, List.set_cons_succ]
            refine wpAnyH_ready (rs := [11]) (by kernel_rfl) (by decide) ?_
            refine AllReadyH.cons rfl (fun K hK => ?_) AllReadyH.nil
            refine step_call (some 39) (by kernel_rfl) (by kernel_rfl) _ _ (by kernel_rfl) _ (HLF.out _) ?_
            rintro e _ ⟨rfl, rfl⟩
            refine ⟨_, rfl, ?_⟩
            refine hK.out _ _ trivial (fun _ => ?_)
            clear hK K
            try simp only [Act.put, List.setIfInBounds_toArray, List.set_cons_zero, List.set_cons_succ]
            refine held_v 12 (some 40) rfl (by kernel_rfl) (by kernel_rfl) (by kernel_rfl) (by kernel_rfl) (fun c a v w h => HQ2.out c a _ v w h) (by kernel_rfl) (.int .u8 p) (fun W h => by have p := HP1.out; go_simp) trivial ?_
            try simp only [Act.put, List.setIfInBounds_toArray, List.set_cons_zero, List.set_cons_succ]
            refine held_v 13 (some 41) rfl (by kernel_rfl) (by kernel_rfl) (by kernel_rfl) (by kernel_rfl) (fun c a v w h => HQ2.out c a _ v w h) (by kernel_rfl) (.int .u8 (y + p)) (fun W h => by have p := HP2.out; go_simp) trivial ?_
            try simp only [Act.put, List.setIfInBounds_toArray, List.set_cons_zero, List.set_cons_succ]
            refine held_v 14 (some 42) rfl (by kernel_rfl) (by kernel_rfl) (by kernel_rfl) (by kernel_rfl) (fun c a v w h => HQ2.out c a _ v w h) (by kernel_rfl) (.pointer (some ⟨g, j, none⟩)) (fun W h => by have p := HIX.out; go_simp) trivial ?_
            try simp only [Act.put, List.setIfInBounds_toArray, List.set_cons_zero, List.set_cons_succ]
            refine wpAnyH_ready (rs := [15]) (by kernel_rfl) (by decide) ?_
            refine AllReadyH.cons rfl (fun K hK => ?_) AllReadyH.nil
            refine step_store_cell none (by kernel_rfl) (by kernel_rfl) 5 (.tmp 42) (.tmp 41) rfl g j (by kernel_rfl) 5 cur HB8.out (.int .u8 (y + p)) (by kernel_rfl) HJL.out size_u8s rfl rfl ?_
            intro w42 hkw42 how42
            have HKN := Lib.hid hkw42.out
            have HON := Lib.hid how42
            refine hK.out _ _ trivial (fun _ => ?_)
            clear hK K
            try simp only [Act.put, List.setIfInBounds_toArray, List.set_cons_zero, List.set_cons_succ]
            refine wpAnyH_done (by kernel_rfl) ?_ _
            refine HQ1.out _ _ ?_
            clear HQ1 HQ2
            have HF := Lib.hid (HNW.out _ HKN.out HON.out)
            clear HKN HON
            go_wp2
            go_roundw
            case rel => exact ⟨i + 1, by omega, by go_num, HF.out.1, HF.out.2⟩
            case measure => simp [intOf]; omega
          · refine step_call (some 39) (by kernel_rfl) (by kernel_rfl) _ _ (by kernel_rfl) _ (HLF.out _) ?_
            rintro e _ ⟨rfl, rfl⟩
            refine ⟨_, rfl, ?_⟩
            refine hK.out _ _ trivial (fun _ => ?_)
            clear hK K
            try simp only [Act.put, List.setIfInBounds_toArray, List.set_cons_zero, List.set_cons_succ]
            refine held_v 12 (some 40) rfl (by kernel_rfl) (by kernel_rfl) (by kernel_rfl) (by kernel_rfl) (fun c a v w h => HQ2.out c a _ v w h) (by kernel_rfl) (.int .u8 p) (fun W h => by have p := HP1.out; go_simp) trivial ?_
            try simp only [Act.put, List.setIfInBounds_toArray, List.set_cons_zero, List.set_cons_succ]
            refine wpAnyH_ready (rs := [7]) (by kernel_rfl) (by decide) ?_
            refine AllReadyH.cons rfl (fun K hK => ?_) AllReadyH.nil
            refine step_v (some 35) (by kernel_rfl) (by kernel_rfl) (.int .u8 y) (by have p := HCJ.out; go_simp) ?_
            refine hK.out _ _ trivial (fun _ => ?_)
            clear hK K
            try simp only [Act.put, List.setIfInBounds_toArray, List.set_cons_zero, List.set_cons_succ]
            refine held_v 13 (some 41) rfl (by kernel_rfl) (by kernel_rfl) (by kernel_rfl) (by kernel_rfl) (fun c a v w h => HQ2.out c a _ v w h) (by kernel_rfl) (.int .u8 (y + p)) (fun W h => by have p := HP2.out; go_simp) trivial ?_
            try simp only [Act.put, List.setIfInBounds_toArray, List.set_cons_zero, List.set_cons_succ]
            refine held_v 14 (some 42) rfl (by kernel_rfl) (by kernel_rfl) (by kernel_rfl) (by kernel_rfl) (fun c a v w h => HQ2.out c a _ v w h) (by kernel_rfl) (.pointer (some ⟨g, j, none⟩)) (fun W h => by have p := HIX.out; go_simp) trivial ?_
            try simp only [Act.put, List.setIfInBounds_toArray, List.set_cons_zero, List.set_cons_succ]
            refine wpAnyH_ready (rs := [15]) (by kernel_rfl) (by decide) ?_
            refine AllReadyH.cons rfl (fun K hK => ?_) AllReadyH.nil
            refine step_store_cell none (by kernel_rfl) (by kernel_rfl) 5 (.tmp 42) (.tmp 41) rfl g j (by kernel_rfl) 5 cur HB8.out (.int .u8 (y + p)) (by kernel_rfl) HJL.out size_u8s rfl rfl ?_
            intro w44 hkw44 how44
            have HKN := Lib.hid hkw44.out
            have HON := Lib.hid how44
            refine hK.out _ _ trivial (fun _ => ?_)
            clear hK K
            try simp only [Act.put, List.setIfInBounds_toArray, List.set_cons_zero, List.set_cons_succ]
            refine wpAnyH_done (by kernel_rfl) ?_ _
            refine HQ1.out _ _ ?_
            clear HQ1 HQ2
            have HF := Lib.hid (HNW.out _ HKN.out HON.out)
            clear HKN HON
            go_wp2
            go_roundw
            case rel => exact ⟨i + 1, by omega, by go_num, HF.out.1, HF.out.2⟩
            case measure => simp [intOf]; omega

        · have tb : ((Y : Int) % 2 == 1) = false := by rw [beq_eq_false_iff_ne]; omega
          have tb2 : ((Y : Int) % 2 = 1) = False := by rw [eq_iff_iff]; exact ⟨fun h => by omega, False.elim⟩
          have HZE := Lib.hid (hzero (by rw [hba]; omega))
          clear hzero hone hba hcv hlc hlb
          go_wp2_with (first
            | (at_builtin; refine wpList_append_ints _ rfl (.tmp 15) (.tmp 16) 33 rfl w.heap.size 5 i0 _ 1 .u8 Tryd.underlying33 hi0 hz0 hz1 hzb rfl _ (bytesB x bits i) rfl (HOW.out.alloc _) (wr.heap.size + 1) (some ⟨wr.heap.size, 0, none⟩) 1 1 [0] rfl (rd_one wr 5 .u8 0) (by have := HL8.out; simp [maxLen]; omega) (by have := HL8.out; omega) (by simp; omega) ?_; intro v6 w6 hown6 hg6 hat6; have hb6 : Below w.heap.size w w6 := (HOW.out.alloc _).below_ (HBQ.out.alloc hsz _) (by simp; omega) hg6; rw [HCN.out] at hown6; have HOC := Lib.hid hown6; have HBQ := Lib.hid hb6; clear hown6 hg6 hat6 hb6)
            | (go_at_call 17; (with_reducible refine (HRT.out _).mono ?_); rintro e _ ⟨rfl, rfl⟩))
          go_roundw
          case rel => exact ⟨i + 1, by omega, by go_num, by rw [HZE.out]; exact HOC.out, HBQ.out⟩
          case measure => simp [intOf]; omega

      · have t8 : ((i : Int) % 8 == 0) = false := by rw [beq_eq_false_iff_ne]; omega
        have hco := bytesC_old x bits i (by omega)
        rw [hco] at hown
        have HOC := Lib.hid hown
        have HBQ := Lib.hid hbq
        clear hco hown hbq hj hr hy  e4
        by_cases hbit : Y % 2 = 1
        · have tb : ((Y : Int) % 2 == 1) = true := by rw [beq_iff_eq]; omega
          have HON1 := Lib.hid (hone (by rw [hba]; omega))
          have HLC := Lib.hid hlc
          have HCV := Lib.hid hcv
          clear hzero hone hba hcv hlc hlb
          go_wp2_with (first
            | (go_at_call 17; (with_reducible refine (HRT.out _).mono ?_); rintro e _ ⟨rfl, rfl⟩))
          have hoc := HOC.out
          obtain ⟨A8, c, hv8, hc1, hc2⟩ := hoc.form
          rw [hv8] at hoc
          obtain ⟨g, cur, hA8, hge, hB8, hcs, hcc⟩ := hoc.whole (by rw [HLC.out]; omega)
          have hcj := hcc j (by rw [HLC.out]; omega)
          rw [HCV.out] at hcj
          rw [HLC.out] at hv8 hcs
          rw [hA8] at hv8 hoc
          rw [HLC.out] at hoc
          subst hv8
          have HB8 : Hid (Blk wr.drew g 5 cur) := Lib.hid (blk_drew8 hB8)
          have HNW : Hid (∀ W, Blk W g 5 (cur.setIfInBounds j (.int .u8 (y + p))) → Only g wr.drew W → OwnI W w.heap.size 5 .u8 (.slice (some ⟨g, 0, none⟩) (j + 1) c) (bytesB x bits (i + 1)) ∧ Below w.heap.size w W) := Lib.hid (fun W h1 h2 => ⟨by rw [HON1.out]; exact hoc.put hB8 (by rw [HLC.out]; omega) h1, HBQ.out.trans (h2.of_drew.below hge HBQ.out.size)⟩)
          have HCJ : Hid (wr.drew.cell? ⟨g, j, none⟩ = some (.int .u8 y)) := Lib.hid (by rw [HB8.out.cell]; exact hcj)
          have HJL : Hid (j < cur.size) := Lib.hid (by omega)
          have HIX := Lib.hid (show (j : Int) < (j : Int) + 1 by omega)
          have HZ1 := Lib.hid (show ((i : Nat) : Int).tdiv 8 = (j : Int) by rw [Int.tdiv_eq_ediv_of_nonneg (by omega)]; have := HJI.out; omega)
          have HZ2 := Lib.hid (show IntKind.i64.wrap (j : Int) = (j : Int) by rw [IntKind.wrap_i64]; omega)
          have HR1 := Lib.hid (show ((i : Nat) : Int).tmod 8 = (r : Int) by rw [Int.tmod_eq_emod_of_nonneg (by omega)]; have := HRI.out; omega)
          have HR2 := Lib.hid (show IntKind.i64.wrap (r : Int) = (r : Int) by rw [IntKind.wrap_i64]; omega)
          have HS1 := Lib.hid (show IntKind.i64.wrap (7 - (r : Int)) = ((7 - r : Nat) : Int) by rw [IntKind.wrap_i64]; omega)
          have HP1 := Lib.hid (show IntKind.u8.wrap p = p by rw [IntKind.wrap_u8]; omega)
          have HP2 := Lib.hid (show IntKind.u8.wrap (y + p) = y + p by rw [IntKind.wrap_u8]; omega)
          clear hoc hA8 hge hB8 hcs hcc hcj hc1 hc2
          refine wp_region_held_drew (S := AnyB) (by kernel_rfl) trivial (fun _ => ?_)
          refine wpAnyH_letter #[false, false, false, false, false, false, false, false, false, false, false, false, false, false, false, false] (by kernel_rfl) (fun _ _ d _ _ h => by cases d <;> exact h) (fun QL HQ1 HQ2 => ?_)
          refine held_v 0 (some 28) rfl (by kernel_rfl) (by kernel_rfl) (by kernel_rfl) (by kernel_rfl) (fun c a v w h => HQ2.out c a _ v w h) (by kernel_rfl) (.slice (some ⟨g, 0, none⟩) (j + 1) c) (fun W h => by kernel_rfl) trivial ?_
          try simp only [Act.put, List.setIfInBounds_toArray, List.set_cons_zero, List.set_cons_succ]
          refine held_v 1 (some 29) rfl (by kernel_rfl) (by kernel_rfl) (by kernel_rfl) (by kernel_rfl) (fun c a v w h => HQ2.out c a _ v w h) (by kernel_rfl) (.int .i64 (i : Int)) (fun W h => by kernel_rfl) trivial ?_
          try simp only [Act.put, List.setIfInBounds_toArray, List.set_cons_zero, List.set_cons_succ]
          refine held_v 2 (some 30) rfl (by kernel_rfl) (by kernel_rfl) (by kernel_rfl) (by kernel_rfl) (fun c a v w h => HQ2.out c a _ v w h) (by kernel_rfl) (.int .i64 (j : Int)) (fun W h => by have p := HZ1.out; have p2 := HZ2.out; go_simp) trivial ?_
          try simp only [Act.put, List.setIfInBounds_toArray, List.set_cons_zero, List.set_cons_succ]
          refine held_v 3 (some 31) rfl (by kernel_rfl) (by kernel_rfl) (by kernel_rfl) (by kernel_rfl) (fun c a v w h => HQ2.out c a _ v w h) (by kernel_rfl) (.slice (some ⟨g, 0, none⟩) (j + 1) c) (fun W h => by kernel_rfl) trivial ?_
          try simp only [Act.put, List.setIfInBounds_toArray, List.set_cons_zero, List.set_cons_succ]
          refine held_v 4 (some 32) rfl (by kernel_rfl) (by kernel_rfl) (by kernel_rfl) (by kernel_rfl) (fun c a v w h => HQ2.out c a _ v w h) (by kernel_rfl) (.int .i64 (i : Int)) (fun W h => by kernel_rfl) trivial ?_
          try simp only [Act.put, List.setIfInBounds_toArray, List.set_cons_zero, List.set_cons_succ]
          refine held_v 5 (some 33) rfl (by kernel_rfl) (by kernel_rfl) (by kernel_rfl) (by kernel_rfl) (fun c a v w h => HQ2.out c a _ v w h) (by kernel_rfl) (.int .i64 (j : Int)) (fun W h => by have p := HZ1.out; have p2 := HZ2.out; go_simp) trivial ?_
          try simp only [Act.put, List.setIfInBounds_toArray, List.set_cons_zero, List.set_cons_succ]
          refine held_v 6 (some 34) rfl (by kernel_rfl) (by kernel_rfl) (by kernel_rfl) (by kernel_rfl) (fun c a v w h => HQ2.out c a _ v w h) (by kernel_rfl) (.pointer (some ⟨g, j, none⟩)) (fun W h => by have p := HIX.out; go_simp) trivial ?_
          try simp only [Act.put, List.setIfInBounds_toArray, List.set_cons_zero, List.set_cons_succ]
          refine held_v 8 (some 36) rfl (by kernel_rfl) (by kernel_rfl) (by kernel_rfl) (by kernel_rfl) (fun c a v w h => HQ2.out c a _ v w h) (by kernel_rfl) (.int .i64 (i : Int)) (fun W h => by kernel_rfl) trivial ?_
          try simp only [Act.put, List.setIfInBounds_toArray, List.set_cons_zero, List.set_cons_succ]
          refine held_v 9 (some 37) rfl (by kernel_rfl) (by kernel_rfl) (by kernel_rfl) (by kernel_rfl) (fun c a v w h => HQ2.out c a _ v w h) (by kernel_rfl) (.int .i64 (r : Int)) (fun W h => by have p := HR1.out; have p2 := HR2.out; go_simp) trivial ?_
          try simp only [Act.put, List.setIfInBounds_toArray, List.set_cons_zero, List.set_cons_succ]
          refine held_v 10 (some 38) rfl (by kernel_rfl) (by kernel_rfl) (by kernel_rfl) (by kernel_rfl) (fun c a v w h => HQ2.out c a _ v w h) (by kernel_rfl) (.int .i64 ((7 - r : Nat) : Int)) (fun W h => by have p := HS1.out; go_simp) trivial ?_
          try simp only [Act.put, List.setIfInBounds_toArray, List.set_cons_zero, List.set_cons_succ]
          refine wpAnyH_ready (rs := [7, 11]) (by kernel_rfl) (by decide) ?_
          refine AllReadyH.cons rfl (fun K hK => ?_) (AllReadyH.cons rfl (fun K hK => ?_) AllReadyH.nil)
          · refine step_v (some 35) (by kernel_rfl) (by kernel_rfl) (.int .u8 y) (by have p := HCJ.out; go_simp) ?_
            refine hK.out _ _ trivial (fun _ => ?_)
            clear hK K
            try simp only [Act.put, List.setIfInBounds_toArray, List.set_cons_zero, List.set_cons_succ]
            refine wpAnyH_ready (rs := [11]) (by kernel_rfl) (by decide) ?_
            refine AllReadyH.cons rfl (fun K hK => ?_) AllReadyH.nil
            refine step_call (some 39) (by kernel_rfl) (by kernel_rfl) _ _ (by kernel_rfl) _ (HLF.out _) ?_
            rintro e _ ⟨rfl, rfl⟩
            refine ⟨_, rfl, ?_⟩
            refine hK.out _ _ trivial (fun _ => ?_)
            clear hK K
            try simp only [Act.put, List.setIfInBounds_toArray, List.set_cons_zero, List.set_cons_succ]
            refine held_v 12 (some 40) rfl (by kernel_rfl) (by kernel_rfl) (by kernel_rfl) (by kernel_rfl) (fun c a v w h => HQ2.out c a _ v w h) (by kernel_rfl) (.int .u8 p) (fun W h => by have p := HP1.out; go_simp) trivial ?_
            try simp only [Act.put, List.setIfInBounds_toArray, List.set_cons_zero, List.set_cons_succ]
            refine held_v 13 (some 41) rfl (by kernel_rfl) (by kernel_rfl) (by kernel_rfl) (by kernel_rfl) (fun c a v w h => HQ2.out c a _ v w h) (by kernel_rfl) (.int .u8 (y + p)) (fun W h => by have p := HP2.out; go_simp) trivial ?_
            try simp only [Act.put, List.setIfInBounds_toArray, List.set_cons_zero, List.set_cons_succ]
            refine held_v 14 (some 42) rfl (by kernel_rfl) (by kernel_rfl) (by kernel_rfl) (by kernel_rfl) (fun c a v w h => HQ2.out c a _ v w h) (by kernel_rfl) (.pointer (some ⟨g, j, none⟩)) (fun W h => by have p := HIX.out; go_simp) trivial ?_
            try simp only [Act.put, List.setIfInBounds_toArray, List.set_cons_zero, List.set_cons_succ]
            refine wpAnyH_ready (rs := [15]) (by kernel_rfl) (by decide) ?_
            refine AllReadyH.cons rfl (fun K hK => ?_) AllReadyH.nil
            refine step_store_cell none (by kernel_rfl) (by kernel_rfl) 5 (.tmp 42) (.tmp 41) rfl g j (by kernel_rfl) 5 cur HB8.out (.int .u8 (y + p)) (by kernel_rfl) HJL.out size_u8s rfl rfl ?_
            intro w42 hkw42 how42
            have HKN := Lib.hid hkw42.out
            have HON := Lib.hid how42
            refine hK.out _ _ trivial (fun _ => ?_)
            clear hK K
            try simp only [Act.put, List.setIfInBounds_toArray, List.set_cons_zero, List.set_cons_succ]
            refine wpAnyH_done (by kernel_rfl) ?_ _
            refine HQ1.out _ _ ?_
            clear HQ1 HQ2
            have HF := Lib.hid (HNW.out _ HKN.out HON.out)
            clear HKN HON
            go_wp2
            go_roundw
            case rel => exact ⟨i + 1, by omega, by go_num, HF.out.1, HF.out.2⟩
            case measure => simp [intOf]; omega
          · refine step_call (some 39) (by kernel_rfl) (by kernel_rfl) _ _ (by kernel_rfl) _ (HLF.out _) ?_
            rintro e _ ⟨rfl, rfl⟩
            refine ⟨_, rfl, ?_⟩
            refine hK.out _ _ trivial (fun _ => ?_)
            clear hK K
            try simp only [Act.put, List.setIfInBounds_toArray, List.set_cons_zero, List.set_cons_succ]
            refine held_v 12 (some 40) rfl (by kernel_rfl) (by kernel_rfl) (by kernel_rfl) (by kernel_rfl) (fun c a v w h => HQ2.out c a _ v w h) (by kernel_rfl) (.int .u8 p) (fun W h => by have p := HP1.out; go_simp) trivial ?_
            try simp only [Act.put, List.setIfInBounds_toArray, List.set_cons_zero, List.set_cons_succ]
            refine wpAnyH_ready (rs := [7]) (by kernel_rfl) (by decide) ?_
            refine AllReadyH.cons rfl (fun K hK => ?_) AllReadyH.nil
            refine step_v (some 35) (by kernel_rfl) (by kernel_rfl) (.int .u8 y) (by have p := HCJ.out; go_simp) ?_
            refine hK.out _ _ trivial (fun _ => ?_)
            clear hK K
            try simp only [Act.put, List.setIfInBounds_toArray, List.set_cons_zero, List.set_cons_succ]
            refine held_v 13 (some 41) rfl (by kernel_rfl) (by kernel_rfl) (by kernel_rfl) (by kernel_rfl) (fun c a v w h => HQ2.out c a _ v w h) (by kernel_rfl) (.int .u8 (y + p)) (fun W h => by have p := HP2.out; go_simp) trivial ?_
            try simp only [Act.put, List.setIfInBounds_toArray, List.set_cons_zero, List.set_cons_succ]
            refine held_v 14 (some 42) rfl (by kernel_rfl) (by kernel_rfl) (by kernel_rfl) (by kernel_rfl) (fun c a v w h => HQ2.out c a _ v w h) (by kernel_rfl) (.pointer (some ⟨g, j, none⟩)) (fun W h => by have p := HIX.out; go_simp) trivial ?_
            try simp only [Act.put, List.setIfInBounds_toArray, List.set_cons_zero, List.set_cons_succ]
            refine wpAnyH_ready (rs := [15]) (by kernel_rfl) (by decide) ?_
            refine AllReadyH.cons rfl (fun K hK => ?_) AllReadyH.nil
            refine step_store_cell none (by kernel_rfl) (by kernel_rfl) 5 (.tmp 42) (.tmp 41) rfl g j (by kernel_rfl) 5 cur HB8.out (.int .u8 (y + p)) (by kernel_rfl) HJL.out size_u8s rfl rfl ?_
            intro w44 hkw44 how44
            have HKN := Lib.hid hkw44.out
            have HON := Lib.hid how44
            refine hK.out _ _ trivial (fun _ => ?_)
            clear hK K
            try simp only [Act.put, List.setIfInBounds_toArray, List.set_cons_zero, List.set_cons_succ]
            refine wpAnyH_done (by kernel_rfl) ?_ _
            refine HQ1.out _ _ ?_
            clear HQ1 HQ2
            have HF := Lib.hid (HNW.out _ HKN.out HON.out)
            clear HKN HON
            go_wp2
            go_roundw
            case rel => exact ⟨i + 1, by omega, by go_num, HF.out.1, HF.out.2⟩
            case measure => simp [intOf]; omega

        · have tb : ((Y : Int) % 2 == 1) = false := by rw [beq_eq_false_iff_ne]; omega
          have tb2 : ((Y : Int) % 2 = 1) = False := by rw [eq_iff_iff]; exact ⟨fun h => by omega, False.elim⟩
          have HZE := Lib.hid (hzero (by rw [hba]; omega))
          clear hzero hone hba hcv hlc hlb
          go_wp2_with (first
            | (go_at_call 17; (with_reducible refine (HRT.out _).mono ?_); rintro e _ ⟨rfl, rfl⟩))
          go_roundw
          case rel => exact ⟨i + 1, by omega, by go_num, by rw [HZE.out]; exact HOC.out, HBQ.out⟩
          case measure => simp [intOf]; omega

    · obtain rfl : i = bits := by omega
      have HO := Lib.hid hown
      have HB := Lib.hid hbq
      clear hown hbq
      go_wp2
      exact HEND.out _ _ HO.out HB.out
end Go.Proofs.YtomkidgmpbjgeaaDoor

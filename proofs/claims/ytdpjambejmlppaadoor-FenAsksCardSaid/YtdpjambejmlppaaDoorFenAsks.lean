/-
  What any tree tells of any place, and of any ticket, is the document's, or refused; of up to 300 stakes.
  Conditions: none.
-/
import Derived.Test.YtdpjambejmlppaaDoorLawP
import Derived.Test.YtdpjambejmlppaaDoorOpenA
import Derived.ShutString
import Derived.Test.YtdpjambejmlppaaDoorFenK
import Derived.Test.YtdpjambejmlppaaDoorTie
import Derived.Test.YtdpjambejmlppaaDoorCards
import Derived.SevenTiedAt
import Derived.ChangeOld
namespace Go.Proofs.YtdpjambejmlppaaDoor.fenAsks
open Go.ChangeShapes Go.WideShapes Go.ChangeAt Go.RowKit
set_option linter.unusedVariables false
set_option linter.unusedSimpArgs false
set_option maxRecDepth 100000

theorem own : ownKnob Tryd.prog.godebug = none := by kernel_rfl
theorem laidOut : laidOutB Tryd.prog = true := by kernel_rfl

set_option maxHeartbeats 8000000 in
theorem walk (a0 : Option Addr) (n c : Nat) (zs : List Int) (i t : Int) (w : World) (hT : TzT w) (hrd : Rd .u64 w w.heap.size a0 n zs) (lc : n ≤ c) (cm : c ≤ maxLen) (hw : ∀ z ∈ zs, (Lit.int .u64 z).wf = true) (w1 : (Lit.int .i64 i).wf = true) (w2 : (Lit.int .u64 t).wf = true) :
    Calls Tryd.prog 4 #[.slice a0 n c, .int .i64 i, .int .u64 t] w fun e w' => e = .returned (.bool true) ∧ Below w.heap.size w w' := by
  have HTT := Lib.hid hT
  clear hT
  have G0 : Hid (Fx [.rdb .u64 w.heap.size a0 n zs, .bel w] w) := Lib.hid ⟨⟨hrd, Nat.le_refl _⟩, Below.refl _ _, trivial⟩
  have hlen := hrd.len
  have hz : ∀ z ∈ zs, 0 ≤ z ∧ z < 18446744073709551616 := fun z h => by
    obtain ⟨h1, h2⟩ := bounds_u64 (hw z h)
    omega
  have i0 : -9223372036854775808 ≤ i := by have := (bounds_i64 w1).1; omega
  have i1 : i < 9223372036854775808 := by have := (bounds_i64 w1).2; omega
  have t0 : 0 ≤ t := (bounds_u64 w2).1
  have t1 : t < 18446744073709551616 := by have := (bounds_u64 w2).2; omega
  by_cases hg : 300 < n
  · have hg2 : (300 : Int) < (n : Int) := by omega
    clear hrd hw hz hg
    go_enter Tryd.func4, Tryd.ntmps4
    go_wp2_with (first
      | (go_at_call 8; (with_reducible refine (alive11_c _ (HTT.out.below (Fx.e1 G0.out))).mono ?_); rintro e w1 ⟨rfl, hbw1⟩; have G2 := Lib.hid (Fx.below G0.out hbw1); clear G0; clear hbw1))
    go_ret
    exact ⟨rfl, (Fx.e1 G2.out)⟩
  have hg2 : (n : Int) ≤ 300 := by omega
  have hn5 : n ≤ 100000000 := by omega
  have hnm : n ≤ maxLen := by simp only [maxLen]; omega
  have hz0 : ∀ z ∈ zs, 0 ≤ z := fun z h => (hz z h).1
  by_cases hs : sumL zs < 9223372036854775808
  · have e := bldE_ok (l := zs) (by omega) hs
    have hcase : (0 ≤ i ∧ i < n) ∨ i = n ∨ i < 0 ∨ (n : Int) < i := by omega
    rcases hcase with hin | hin | hin | hin
    · obtain ⟨j0, j1⟩ := hin
      obtain ⟨k, rfl⟩ := Int.eq_ofNat_of_zero_le j0
      have hk : k < n := by omega
      have HK : Hid (k ≤ n) := Lib.hid (by omega)
      have hkc : (k : Int) ≤ (c : Int) := by omega
      have hkn : (k : Int) ≤ (n : Int) := by omega
      have j2 : (0 : Int) ≤ (k : Int) := by omega
      have h2 := fun A c (hc : n ≤ c) (hm : c ≤ maxLen) W hT h => calls_val (q11prefix_c zs hz0 hs (by omega) A n c hlen hc hm k i0 i1 W hT h) (tup_ui (pre_ok (l := zs) (i := (k : Int)) ⟨by omega, by omega⟩).2 (pre_ok (l := zs) (i := (k : Int)) ⟨by omega, by omega⟩).1)
      have h3 := fun A c (hc : n ≤ c) (hm : c ≤ maxLen) W hT h => calls_val (q11at_c zs hz0 hs (by omega) A n c hlen hc hm k i0 i1 W hT h) (tup_ui (at_ok (l := zs) (i := (k : Int)) ⟨by omega, by omega⟩).2 (at_ok (l := zs) (i := (k : Int)) ⟨by omega, by omega⟩).1)
      have h6 := fun A c W h => calls_pure (r9total_c (zs.take k) (fun z h => hz z (List.mem_of_mem_take h)) A k c (by omega) W h) (tup_ub (sumV_ok (Int.lt_of_le_of_lt (sumL_le hz0 k) hs)).1 (sumV_ok (Int.lt_of_le_of_lt (sumL_le hz0 k) hs)).2)
      have hpk : preL zs k = sumL (zs.take k) := rfl
      rw [Int.toNat_natCast] at h2 h3
      rw [hpk] at h2
      obtain ⟨p, hp⟩ : ∃ x, sumL (zs.take k) = x := ⟨_, rfl⟩
      rw [hp] at h2 h6
      have H6 := Lib.hid h6
      clear h6 hpk hp
      have hzk := hz _ (getD_in (l := zs) (k := k) (by omega))
      obtain ⟨x, hx⟩ : ∃ x, zs.getD k 0 = x := ⟨_, rfl⟩
      rw [hx] at h3 hzk
      have HCE : Hid (∀ W, Rd .u64 W W.heap.size a0 n zs → ∃ g off, a0 = some ⟨g, off, none⟩ ∧ W.cell? ⟨g, off + k, none⟩ = some (.int .u64 x)) := Lib.hid (fun W h => by obtain ⟨g, off, e1, _, e2⟩ := h.at_ (by omega); exact ⟨g, off, e1, by rw [e2 k hk, hx]⟩)
      obtain ⟨g9, off9, ha0, -⟩ := HCE.out w hrd
      have HCG : Hid (∀ W, Rd .u64 W W.heap.size a0 n zs → W.cell? ⟨g9, off9 + k, none⟩ = some (.int .u64 x)) := Lib.hid (fun W h => by obtain ⟨g, off, e1, e2⟩ := HCE.out W h; rw [ha0] at e1; injection e1 with e1; injection e1 with e1 e3; subst e1 e3; exact e2)
      subst ha0
      clear hx HCE
      have h1 := fun A c W hT h => calls_fen (q11build_c zs hz A n c hnm W hT h) e.2 e.1 ((treeL_len zs).trans hlen)
      have h4 := fun A c (hc : n ≤ c) (hm : c ≤ maxLen) W hT h => q11owner_c zs hz0 hs (by omega) A n c hlen hc hm t t0 t1 W hT h
      have h5 := fun A c W h => r11owner_c zs hz A n c hnm t t0 t1 W h
      obtain ⟨ts, hts⟩ : ∃ x, treeL zs = x := ⟨_, rfl⟩
      obtain ⟨ov, hov⟩ : ∃ x, ownV zs t = x := ⟨_, rfl⟩
      obtain ⟨oe, hoe⟩ : ∃ x, ownE zs t = x := ⟨_, rfl⟩
      rw [hts] at h1 h2 h3 h4
      rw [hov, hoe] at h4 h5
      have H1 := Lib.hid h1
      have H2 := Lib.hid h2
      have H3 := Lib.hid h3
      have H4 := Lib.hid h4
      have H5 := Lib.hid h5
      clear h1 h2 h3 h4 h5 hts hov hoe
      clear hs e hrd hw hz hz0 hg hn5 hnm lc cm hlen w1 w2 i0 i1 t0 t1
      go_enter Tryd.func4, Tryd.ntmps4
      go_wp2_with (first
        | (go_at_call 8; (with_reducible refine (alive11_c _ (HTT.out.below (Fx.e1 G0.out))).mono ?_); rintro e w1 ⟨rfl, hbw1⟩; have G2 := Lib.hid (Fx.below G0.out hbw1); clear G0; clear hbw1)
        | (go_at_call 9; (with_reducible refine (H1.out _ _ _ (HTT.out.below (Fx.e1 G2.out)) (Fx.r0 G2.out)).mono ?_); rintro e w3 ⟨A4, c5, rfl, hrw3, hlw3, hmw3, hbw3⟩; have lc5 := Lib.hid hlw3; have mc5 := Lib.hid hmw3; have G6 := Lib.hid (Fx.addR G2.out hbw3 hrw3); clear G2; clear hrw3 hbw3 hlw3 hmw3)
        | (with_reducible refine at_any ?_; refine at_dst 7 rfl ?_; refine wpList_alloc_any rfl 25 rfl #[.slice none 0 0] zero_fen ?_; intro w7 hkw7 hsw7 hbw7; have U8 := Lib.hid (Fx.under_new G6.out rfl); have G9 := Lib.hid (Fx.newB G6.out hkw7.out hbw7); clear G6; clear hkw7 hsw7 hbw7)
        | (with_reducible refine at_any ?_; refine at_store 7 rfl ?_; refine wpList_store_any rfl 25 (.tmp 7) (.tmp 27) rfl w3.heap.size rfl 25 #[.slice none 0 0] (#[.slice A4 n c5]) (Fx.b0 G9.out) rfl (size1 _ _) (sizedF _) (fen_ones _ _ _) ?_; intro w10 hkw10 hsw10 hbw10 how10; have G11 := Lib.hid (Fx.put1B G9.out U8.out hkw10.out hsw10.out hbw10 how10); clear G9; clear hkw10 hsw10 hbw10 how10)
        | (with_reducible refine at_any ?_; refine at_dst 36 rfl ?_; refine wpList_load_fen (by kernel_rfl) (.tmp 7) rfl w3.heap.size rfl 25 (.slice A4 n c5) (Fx.b0 G11.out) ?_)
        | (go_at_call 17; (with_reducible refine (H2.out _ _ lc5.out mc5.out _ (HTT.out.below (Fx.e3 G11.out)) (Fx.r1 G11.out)).mono ?_); rintro e w12 ⟨rfl, hbw12⟩; have G13 := Lib.hid (Fx.below G11.out hbw12); clear G11; clear hbw12)
        | (with_reducible refine at_any ?_; refine at_dst 42 rfl ?_; refine wpList_load_fen (by kernel_rfl) (.tmp 7) rfl w3.heap.size rfl 25 (.slice A4 n c5) (Fx.b0 G13.out) ?_)
        | (go_at_call 18; (with_reducible refine (H3.out _ _ lc5.out mc5.out _ (HTT.out.below (Fx.e3 G13.out)) (Fx.r1 G13.out)).mono ?_); rintro e w14 ⟨rfl, hbw14⟩; have G15 := Lib.hid (Fx.below G13.out hbw14); clear G13; clear hbw14)
        | (with_reducible refine at_any ?_; refine at_dst 48 rfl ?_; refine wpList_load_fen (by kernel_rfl) (.tmp 7) rfl w3.heap.size rfl 25 (.slice A4 n c5) (Fx.b0 G15.out) ?_)
        | (go_at_call 19; (with_reducible refine (H4.out _ _ lc5.out mc5.out _ (HTT.out.below (Fx.e3 G15.out)) (Fx.r1 G15.out)).mono ?_); rintro e w16 ⟨rfl, hbw16⟩; have G17 := Lib.hid (Fx.below G15.out hbw16); clear G15; clear hbw16; have cz := HCG.out _ (Fx.r2 G17.out))
        | (go_at_call 20; (with_reducible refine (H5.out _ _ _ (Fx.r2 G17.out)).mono ?_); rintro e _ ⟨rfl, rfl⟩)
        | (go_at_call 13; (with_reducible refine (H6.out _ _ _ (Rd.upto (Fx.r2 G17.out) HK.out)).mono ?_); rintro e _ ⟨rfl, rfl⟩))
      go_ret
      exact ⟨rfl, (Fx.e3 G17.out)⟩
    · obtain rfl : i = (n : Int) := by omega
      have HK : Hid (n ≤ n) := Lib.hid (Nat.le_refl _)
      have hkc : (n : Int) ≤ (c : Int) := by omega
      have j2 : (0 : Int) ≤ (n : Int) := by omega
      have h2 := fun A c (hc : n ≤ c) (hm : c ≤ maxLen) W hT h => calls_val (q11prefix_c zs hz0 hs (by omega) A n c hlen hc hm n i0 i1 W hT h) (tup_ui (pre_ok (l := zs) (i := (n : Int)) ⟨by omega, by omega⟩).2 (pre_ok (l := zs) (i := (n : Int)) ⟨by omega, by omega⟩).1)
      have h3 := fun A c (hc : n ≤ c) (hm : c ≤ maxLen) W hT h => calls_val (q11at_c zs hz0 hs (by omega) A n c hlen hc hm n i0 i1 W hT h) (tup_ui (at_no (l := zs) (i := (n : Int)) (by omega)).2 (at_no (l := zs) (i := (n : Int)) (by omega)).1)
      have h6 := fun A c W h => calls_pure (r9total_c (zs.take n) (fun z h => hz z (List.mem_of_mem_take h)) A n c (by omega) W h) (tup_ub (sumV_ok (Int.lt_of_le_of_lt (sumL_le hz0 n) hs)).1 (sumV_ok (Int.lt_of_le_of_lt (sumL_le hz0 n) hs)).2)
      have hpk : preL zs n = sumL (zs.take n) := rfl
      rw [Int.toNat_natCast] at h2
      rw [hpk] at h2
      obtain ⟨p, hp⟩ : ∃ x, sumL (zs.take n) = x := ⟨_, rfl⟩
      rw [hp] at h2 h6
      have H6 := Lib.hid h6
      clear h6 hpk hp
      have h1 := fun A c W hT h => calls_fen (q11build_c zs hz A n c hnm W hT h) e.2 e.1 ((treeL_len zs).trans hlen)
      have h4 := fun A c (hc : n ≤ c) (hm : c ≤ maxLen) W hT h => q11owner_c zs hz0 hs (by omega) A n c hlen hc hm t t0 t1 W hT h
      have h5 := fun A c W h => r11owner_c zs hz A n c hnm t t0 t1 W h
      obtain ⟨ts, hts⟩ : ∃ x, treeL zs = x := ⟨_, rfl⟩
      obtain ⟨ov, hov⟩ : ∃ x, ownV zs t = x := ⟨_, rfl⟩
      obtain ⟨oe, hoe⟩ : ∃ x, ownE zs t = x := ⟨_, rfl⟩
      rw [hts] at h1 h2 h3 h4
      rw [hov, hoe] at h4 h5
      have H1 := Lib.hid h1
      have H2 := Lib.hid h2
      have H3 := Lib.hid h3
      have H4 := Lib.hid h4
      have H5 := Lib.hid h5
      clear h1 h2 h3 h4 h5 hts hov hoe
      clear hs e hrd hw hz hz0 hg hn5 hnm lc cm hlen w1 w2 i0 i1 t0 t1
      go_enter Tryd.func4, Tryd.ntmps4
      go_wp2_with (first
        | (go_at_call 8; (with_reducible refine (alive11_c _ (HTT.out.below (Fx.e1 G0.out))).mono ?_); rintro e w1 ⟨rfl, hbw1⟩; have G2 := Lib.hid (Fx.below G0.out hbw1); clear G0; clear hbw1)
        | (go_at_call 9; (with_reducible refine (H1.out _ _ _ (HTT.out.below (Fx.e1 G2.out)) (Fx.r0 G2.out)).mono ?_); rintro e w3 ⟨A4, c5, rfl, hrw3, hlw3, hmw3, hbw3⟩; have lc5 := Lib.hid hlw3; have mc5 := Lib.hid hmw3; have G6 := Lib.hid (Fx.addR G2.out hbw3 hrw3); clear G2; clear hrw3 hbw3 hlw3 hmw3)
        | (with_reducible refine at_any ?_; refine at_dst 7 rfl ?_; refine wpList_alloc_any rfl 25 rfl #[.slice none 0 0] zero_fen ?_; intro w7 hkw7 hsw7 hbw7; have U8 := Lib.hid (Fx.under_new G6.out rfl); have G9 := Lib.hid (Fx.newB G6.out hkw7.out hbw7); clear G6; clear hkw7 hsw7 hbw7)
        | (with_reducible refine at_any ?_; refine at_store 7 rfl ?_; refine wpList_store_any rfl 25 (.tmp 7) (.tmp 27) rfl w3.heap.size rfl 25 #[.slice none 0 0] (#[.slice A4 n c5]) (Fx.b0 G9.out) rfl (size1 _ _) (sizedF _) (fen_ones _ _ _) ?_; intro w10 hkw10 hsw10 hbw10 how10; have G11 := Lib.hid (Fx.put1B G9.out U8.out hkw10.out hsw10.out hbw10 how10); clear G9; clear hkw10 hsw10 hbw10 how10)
        | (with_reducible refine at_any ?_; refine at_dst 36 rfl ?_; refine wpList_load_fen (by kernel_rfl) (.tmp 7) rfl w3.heap.size rfl 25 (.slice A4 n c5) (Fx.b0 G11.out) ?_)
        | (go_at_call 17; (with_reducible refine (H2.out _ _ lc5.out mc5.out _ (HTT.out.below (Fx.e3 G11.out)) (Fx.r1 G11.out)).mono ?_); rintro e w12 ⟨rfl, hbw12⟩; have G13 := Lib.hid (Fx.below G11.out hbw12); clear G11; clear hbw12)
        | (with_reducible refine at_any ?_; refine at_dst 42 rfl ?_; refine wpList_load_fen (by kernel_rfl) (.tmp 7) rfl w3.heap.size rfl 25 (.slice A4 n c5) (Fx.b0 G13.out) ?_)
        | (go_at_call 18; (with_reducible refine (H3.out _ _ lc5.out mc5.out _ (HTT.out.below (Fx.e3 G13.out)) (Fx.r1 G13.out)).mono ?_); rintro e w14 ⟨rfl, hbw14⟩; have G15 := Lib.hid (Fx.below G13.out hbw14); clear G13; clear hbw14)
        | (with_reducible refine at_any ?_; refine at_dst 48 rfl ?_; refine wpList_load_fen (by kernel_rfl) (.tmp 7) rfl w3.heap.size rfl 25 (.slice A4 n c5) (Fx.b0 G15.out) ?_)
        | (go_at_call 19; (with_reducible refine (H4.out _ _ lc5.out mc5.out _ (HTT.out.below (Fx.e3 G15.out)) (Fx.r1 G15.out)).mono ?_); rintro e w16 ⟨rfl, hbw16⟩; have G17 := Lib.hid (Fx.below G15.out hbw16); clear G15; clear hbw16)
        | (go_at_call 20; (with_reducible refine (H5.out _ _ _ (Fx.r2 G17.out)).mono ?_); rintro e _ ⟨rfl, rfl⟩)
        | (go_at_call 13; (with_reducible refine (H6.out _ _ _ (Rd.upto (Fx.r2 G17.out) HK.out)).mono ?_); rintro e _ ⟨rfl, rfl⟩))
      go_ret
      exact ⟨rfl, (Fx.e3 G17.out)⟩
    · have hi2 : i < 0 := by omega
      have h2 := fun A c (hc : n ≤ c) (hm : c ≤ maxLen) W hT h => calls_val (q11prefix_c zs hz0 hs (by omega) A n c hlen hc hm i i0 i1 W hT h) (tup_ui (pre_no (l := zs) (i := i) (by omega)).2 (pre_no (l := zs) (i := i) (by omega)).1)
      have h3 := fun A c (hc : n ≤ c) (hm : c ≤ maxLen) W hT h => calls_val (q11at_c zs hz0 hs (by omega) A n c hlen hc hm i i0 i1 W hT h) (tup_ui (at_no (l := zs) (i := i) (by omega)).2 (at_no (l := zs) (i := i) (by omega)).1)
      have h1 := fun A c W hT h => calls_fen (q11build_c zs hz A n c hnm W hT h) e.2 e.1 ((treeL_len zs).trans hlen)
      have h4 := fun A c (hc : n ≤ c) (hm : c ≤ maxLen) W hT h => q11owner_c zs hz0 hs (by omega) A n c hlen hc hm t t0 t1 W hT h
      have h5 := fun A c W h => r11owner_c zs hz A n c hnm t t0 t1 W h
      obtain ⟨ts, hts⟩ : ∃ x, treeL zs = x := ⟨_, rfl⟩
      obtain ⟨ov, hov⟩ : ∃ x, ownV zs t = x := ⟨_, rfl⟩
      obtain ⟨oe, hoe⟩ : ∃ x, ownE zs t = x := ⟨_, rfl⟩
      rw [hts] at h1 h2 h3 h4
      rw [hov, hoe] at h4 h5
      have H1 := Lib.hid h1
      have H2 := Lib.hid h2
      have H3 := Lib.hid h3
      have H4 := Lib.hid h4
      have H5 := Lib.hid h5
      clear h1 h2 h3 h4 h5 hts hov hoe
      clear hs e hrd hw hz hz0 hg hn5 hnm lc cm hlen w1 w2 i0 i1 t0 t1
      go_enter Tryd.func4, Tryd.ntmps4
      go_wp2_with (first
        | (go_at_call 8; (with_reducible refine (alive11_c _ (HTT.out.below (Fx.e1 G0.out))).mono ?_); rintro e w1 ⟨rfl, hbw1⟩; have G2 := Lib.hid (Fx.below G0.out hbw1); clear G0; clear hbw1)
        | (go_at_call 9; (with_reducible refine (H1.out _ _ _ (HTT.out.below (Fx.e1 G2.out)) (Fx.r0 G2.out)).mono ?_); rintro e w3 ⟨A4, c5, rfl, hrw3, hlw3, hmw3, hbw3⟩; have lc5 := Lib.hid hlw3; have mc5 := Lib.hid hmw3; have G6 := Lib.hid (Fx.addR G2.out hbw3 hrw3); clear G2; clear hrw3 hbw3 hlw3 hmw3)
        | (with_reducible refine at_any ?_; refine at_dst 7 rfl ?_; refine wpList_alloc_any rfl 25 rfl #[.slice none 0 0] zero_fen ?_; intro w7 hkw7 hsw7 hbw7; have U8 := Lib.hid (Fx.under_new G6.out rfl); have G9 := Lib.hid (Fx.newB G6.out hkw7.out hbw7); clear G6; clear hkw7 hsw7 hbw7)
        | (with_reducible refine at_any ?_; refine at_store 7 rfl ?_; refine wpList_store_any rfl 25 (.tmp 7) (.tmp 27) rfl w3.heap.size rfl 25 #[.slice none 0 0] (#[.slice A4 n c5]) (Fx.b0 G9.out) rfl (size1 _ _) (sizedF _) (fen_ones _ _ _) ?_; intro w10 hkw10 hsw10 hbw10 how10; have G11 := Lib.hid (Fx.put1B G9.out U8.out hkw10.out hsw10.out hbw10 how10); clear G9; clear hkw10 hsw10 hbw10 how10)
        | (with_reducible refine at_any ?_; refine at_dst 36 rfl ?_; refine wpList_load_fen (by kernel_rfl) (.tmp 7) rfl w3.heap.size rfl 25 (.slice A4 n c5) (Fx.b0 G11.out) ?_)
        | (go_at_call 17; (with_reducible refine (H2.out _ _ lc5.out mc5.out _ (HTT.out.below (Fx.e3 G11.out)) (Fx.r1 G11.out)).mono ?_); rintro e w12 ⟨rfl, hbw12⟩; have G13 := Lib.hid (Fx.below G11.out hbw12); clear G11; clear hbw12)
        | (with_reducible refine at_any ?_; refine at_dst 42 rfl ?_; refine wpList_load_fen (by kernel_rfl) (.tmp 7) rfl w3.heap.size rfl 25 (.slice A4 n c5) (Fx.b0 G13.out) ?_)
        | (go_at_call 18; (with_reducible refine (H3.out _ _ lc5.out mc5.out _ (HTT.out.below (Fx.e3 G13.out)) (Fx.r1 G13.out)).mono ?_); rintro e w14 ⟨rfl, hbw14⟩; have G15 := Lib.hid (Fx.below G13.out hbw14); clear G13; clear hbw14)
        | (with_reducible refine at_any ?_; refine at_dst 48 rfl ?_; refine wpList_load_fen (by kernel_rfl) (.tmp 7) rfl w3.heap.size rfl 25 (.slice A4 n c5) (Fx.b0 G15.out) ?_)
        | (go_at_call 19; (with_reducible refine (H4.out _ _ lc5.out mc5.out _ (HTT.out.below (Fx.e3 G15.out)) (Fx.r1 G15.out)).mono ?_); rintro e w16 ⟨rfl, hbw16⟩; have G17 := Lib.hid (Fx.below G15.out hbw16); clear G15; clear hbw16)
        | (go_at_call 20; (with_reducible refine (H5.out _ _ _ (Fx.r2 G17.out)).mono ?_); rintro e _ ⟨rfl, rfl⟩))
      go_ret
      exact ⟨rfl, (Fx.e3 G17.out)⟩
    · have hi2 : (n : Int) < i := by omega
      have hi3 : (n : Int) ≤ i := by omega
      have hi4 : 0 ≤ i := by omega
      have h2 := fun A c (hc : n ≤ c) (hm : c ≤ maxLen) W hT h => calls_val (q11prefix_c zs hz0 hs (by omega) A n c hlen hc hm i i0 i1 W hT h) (tup_ui (pre_no (l := zs) (i := i) (by omega)).2 (pre_no (l := zs) (i := i) (by omega)).1)
      have h3 := fun A c (hc : n ≤ c) (hm : c ≤ maxLen) W hT h => calls_val (q11at_c zs hz0 hs (by omega) A n c hlen hc hm i i0 i1 W hT h) (tup_ui (at_no (l := zs) (i := i) (by omega)).2 (at_no (l := zs) (i := i) (by omega)).1)
      have h1 := fun A c W hT h => calls_fen (q11build_c zs hz A n c hnm W hT h) e.2 e.1 ((treeL_len zs).trans hlen)
      have h4 := fun A c (hc : n ≤ c) (hm : c ≤ maxLen) W hT h => q11owner_c zs hz0 hs (by omega) A n c hlen hc hm t t0 t1 W hT h
      have h5 := fun A c W h => r11owner_c zs hz A n c hnm t t0 t1 W h
      obtain ⟨ts, hts⟩ : ∃ x, treeL zs = x := ⟨_, rfl⟩
      obtain ⟨ov, hov⟩ : ∃ x, ownV zs t = x := ⟨_, rfl⟩
      obtain ⟨oe, hoe⟩ : ∃ x, ownE zs t = x := ⟨_, rfl⟩
      rw [hts] at h1 h2 h3 h4
      rw [hov, hoe] at h4 h5
      have H1 := Lib.hid h1
      have H2 := Lib.hid h2
      have H3 := Lib.hid h3
      have H4 := Lib.hid h4
      have H5 := Lib.hid h5
      clear h1 h2 h3 h4 h5 hts hov hoe
      clear hs e hrd hw hz hz0 hg hn5 hnm lc cm hlen w1 w2 i0 i1 t0 t1
      go_enter Tryd.func4, Tryd.ntmps4
      go_wp2_with (first
        | (go_at_call 8; (with_reducible refine (alive11_c _ (HTT.out.below (Fx.e1 G0.out))).mono ?_); rintro e w1 ⟨rfl, hbw1⟩; have G2 := Lib.hid (Fx.below G0.out hbw1); clear G0; clear hbw1)
        | (go_at_call 9; (with_reducible refine (H1.out _ _ _ (HTT.out.below (Fx.e1 G2.out)) (Fx.r0 G2.out)).mono ?_); rintro e w3 ⟨A4, c5, rfl, hrw3, hlw3, hmw3, hbw3⟩; have lc5 := Lib.hid hlw3; have mc5 := Lib.hid hmw3; have G6 := Lib.hid (Fx.addR G2.out hbw3 hrw3); clear G2; clear hrw3 hbw3 hlw3 hmw3)
        | (with_reducible refine at_any ?_; refine at_dst 7 rfl ?_; refine wpList_alloc_any rfl 25 rfl #[.slice none 0 0] zero_fen ?_; intro w7 hkw7 hsw7 hbw7; have U8 := Lib.hid (Fx.under_new G6.out rfl); have G9 := Lib.hid (Fx.newB G6.out hkw7.out hbw7); clear G6; clear hkw7 hsw7 hbw7)
        | (with_reducible refine at_any ?_; refine at_store 7 rfl ?_; refine wpList_store_any rfl 25 (.tmp 7) (.tmp 27) rfl w3.heap.size rfl 25 #[.slice none 0 0] (#[.slice A4 n c5]) (Fx.b0 G9.out) rfl (size1 _ _) (sizedF _) (fen_ones _ _ _) ?_; intro w10 hkw10 hsw10 hbw10 how10; have G11 := Lib.hid (Fx.put1B G9.out U8.out hkw10.out hsw10.out hbw10 how10); clear G9; clear hkw10 hsw10 hbw10 how10)
        | (with_reducible refine at_any ?_; refine at_dst 36 rfl ?_; refine wpList_load_fen (by kernel_rfl) (.tmp 7) rfl w3.heap.size rfl 25 (.slice A4 n c5) (Fx.b0 G11.out) ?_)
        | (go_at_call 17; (with_reducible refine (H2.out _ _ lc5.out mc5.out _ (HTT.out.below (Fx.e3 G11.out)) (Fx.r1 G11.out)).mono ?_); rintro e w12 ⟨rfl, hbw12⟩; have G13 := Lib.hid (Fx.below G11.out hbw12); clear G11; clear hbw12)
        | (with_reducible refine at_any ?_; refine at_dst 42 rfl ?_; refine wpList_load_fen (by kernel_rfl) (.tmp 7) rfl w3.heap.size rfl 25 (.slice A4 n c5) (Fx.b0 G13.out) ?_)
        | (go_at_call 18; (with_reducible refine (H3.out _ _ lc5.out mc5.out _ (HTT.out.below (Fx.e3 G13.out)) (Fx.r1 G13.out)).mono ?_); rintro e w14 ⟨rfl, hbw14⟩; have G15 := Lib.hid (Fx.below G13.out hbw14); clear G13; clear hbw14)
        | (with_reducible refine at_any ?_; refine at_dst 48 rfl ?_; refine wpList_load_fen (by kernel_rfl) (.tmp 7) rfl w3.heap.size rfl 25 (.slice A4 n c5) (Fx.b0 G15.out) ?_)
        | (go_at_call 19; (with_reducible refine (H4.out _ _ lc5.out mc5.out _ (HTT.out.below (Fx.e3 G15.out)) (Fx.r1 G15.out)).mono ?_); rintro e w16 ⟨rfl, hbw16⟩; have G17 := Lib.hid (Fx.below G15.out hbw16); clear G15; clear hbw16)
        | (go_at_call 20; (with_reducible refine (H5.out _ _ _ (Fx.r2 G17.out)).mono ?_); rintro e _ ⟨rfl, rfl⟩))
      go_ret
      exact ⟨rfl, (Fx.e3 G17.out)⟩
  · have e := bldE_big (l := zs) (by omega) hs
    have H1 := Lib.hid (fun A c W hT h => calls_fen (q11build_c zs hz A n c hnm W hT h) e.2 e.1 (n := 0) rfl)
    clear hs e hrd hw hz hz0 hg hn5 hnm lc cm hlen i0 i1 t0 t1 w1 w2
    go_enter Tryd.func4, Tryd.ntmps4
    go_wp2_with (first
      | (go_at_call 8; (with_reducible refine (alive11_c _ (HTT.out.below (Fx.e1 G0.out))).mono ?_); rintro e w1 ⟨rfl, hbw1⟩; have G2 := Lib.hid (Fx.below G0.out hbw1); clear G0; clear hbw1)
      | (go_at_call 9; (with_reducible refine (H1.out _ _ _ (HTT.out.below (Fx.e1 G2.out)) (Fx.r0 G2.out)).mono ?_); rintro e w3 ⟨A4, c5, rfl, hrw3, hlw3, hmw3, hbw3⟩; have lc5 := Lib.hid hlw3; have mc5 := Lib.hid hmw3; have G6 := Lib.hid (Fx.addR G2.out hbw3 hrw3); clear G2; clear hrw3 hbw3 hlw3 hmw3)
      | (with_reducible refine at_any ?_; refine at_dst 7 rfl ?_; refine wpList_alloc_any rfl 25 rfl #[.slice none 0 0] zero_fen ?_; intro w7 hkw7 hsw7 hbw7; have U8 := Lib.hid (Fx.under_new G6.out rfl); have G9 := Lib.hid (Fx.newB G6.out hkw7.out hbw7); clear G6; clear hkw7 hsw7 hbw7)
      | (with_reducible refine at_any ?_; refine at_store 7 rfl ?_; refine wpList_store_any rfl 25 (.tmp 7) (.tmp 27) rfl w3.heap.size rfl 25 #[.slice none 0 0] (#[.slice A4 0 c5]) (Fx.b0 G9.out) rfl (size1 _ _) (sizedF _) (fen_ones _ _ _) ?_; intro w10 hkw10 hsw10 hbw10 how10; have G11 := Lib.hid (Fx.put1B G9.out U8.out hkw10.out hsw10.out hbw10 how10); clear G9; clear hkw10 hsw10 hbw10 how10; have cz12 := Blk.cell0 (Fx.b0 G11.out)))
    go_ret
    exact ⟨rfl, (Fx.e3 G11.out)⟩


set_option maxRecDepth 100000 in
theorem lifted (os : Os) (started : os.Started) (H : Type) (enc : TypeId × Value → H) :
    ReturnsInHanded {} Tryd.checked os 4 .any (fun w args => (Rows.fenAsksSpec.pre enc Tryd.prog Tryd.f4 [] false w args ∧ laidMetH Tryd.prog laidT w) ∧ sizedMet enc Tryd.prog Tryd.f4 (OpenSpec.ofChange Rows.fenAsksSpec) false w args) (Rows.fenAsksSpec.post enc Tryd.prog Tryd.f4 false true false false) := by
  refine returnsInHanded_of_change_and (C := Tryd.checked) (X := fun w _ => laidMetH Tryd.prog laidT w) (fun _ _ _ hh h => h.of_heap hh) own started (by kernel_rfl) Tryd.func4
    (ChangeSpec.witness_shaped (enc := enc) (C := Tryd.checked) (os := os) (X := fun w _ => laidMetH Tryd.prog laidT w) false (World.doorLaid Tryd.prog 400 os) #[.slice none 0 0, .int .i64 0, .int .u64 0] 8 rfl (World.shaped_of_RefB (by kernel_rfl) (by kernel_rfl)) (by kernel_rfl) (by kernel_rfl) (by kernel_rfl) (door_metT os _)) ?_
  intro W base args ds gs before hval0 hW _ _ hL _
  have hval : ∀ (j : Nat) t v, Tryd.f4.params[j]? = some t → args[j]? = some v → Value.okWide Tryd.prog W .any base t v := hval0
  have hW' := hW
  obtain ⟨p, q, hA0, hV, rfl, hfz, hnd⟩ := hW
  have hA : DataW.TrodAll enc Tryd.prog W 0 (fun _ => true) true Tryd.f4.params.toList args.toList ds p := hA0
  rw [Tryd.params4] at hA hval
  obtain ⟨v0, vs0, d0, ds0, p0, q0, hargs, rfl, rfl, h0, r0⟩ := trodAll_cons hA
  obtain ⟨v1, vs1, d1, ds1, p1, q1, rfl, rfl, rfl, h1, r1⟩ := trodAll_cons r0
  obtain ⟨v2, vs2, d2, ds2, p2, q2, rfl, rfl, rfl, h2, r2⟩ := trodAll_cons r1
  obtain ⟨rfl, rfl, rfl⟩ := trodAll_nil r2
  obtain rfl : args = #[v0, v1, v2] := by cases args; simp_all
  obtain ⟨rfl, rfl⟩ := trodVars_none hV
  obtain ⟨a0, n0, c0, rfl⟩ := okWide_slice Tryd.underlying22 (hval 0 22 v0 rfl rfl)
  have k0 := h0
  have lt0 : ∀ x ∈ p0, x.block < W.heap.size := by obtain ⟨m, hm⟩ := k0; exact DataW.trod_lt m _ _ _ hm
  obtain ⟨z0, rd0, lc0, cm0, w0⟩ := open_rd Tryd.underlying22 Tryd.underlying32 (by kernel_rfl) h0
  obtain ⟨a1, rfl, rfl, rfl, w1⟩ := open_int Tryd.underlying3 (hval 1 3 v1 rfl rfl) h1
  obtain ⟨a2, rfl, rfl, rfl, w2⟩ := open_int Tryd.underlying32 (hval 2 32 v2 rfl rfl) h2
  clear hA0 hval0
  refine (walk a0 n0 c0 z0 a1 a2 W (tzT_of_laid hL) rd0 lc0 cm0 w0 w1 w2).mono fun e W' ⟨he, bel⟩ => ?_
  subst he
  exact ⟨_, rfl, _, _, _, [], _, [], hW', trodAll_mk1 (shut_bool Tryd.underlying4 _), (trodAll_cons_mk (Below.trod laidOut (by kernel_rfl) (of_decide_eq_true (by kernel_rfl)) k0 bel lt0) (trodAll_cons_mk (shut_int Tryd.underlying3 w1) (trodAll_cons_mk (shut_int Tryd.underlying32 w2) trodAll_mk0))), rfl, bel.frame _, fun h => by cases h⟩

theorem over : Rows.fenAsksRow.holds Tryd.pinned (OpenSpec.ofChange Rows.fenAsksSpec) :=
  OpenClaim.holds_of_wide 4 Tryd.f4 rfl rfl rfl rfl rfl rfl rfl ⟨rfl, rfl, rfl, rfl, rfl⟩ rfl rfl rfl rfl rfl (by kernel_rfl) Tryd.func4 (by kernel_rfl)
    (of_decide_eq_true (by kernel_rfl)) (by unfold Func.isWrapper; first | (rw [if_pos (by decide +kernel)]; kernel_rfl) | (rw [if_neg (by decide +kernel)]; exact ⟨rfl, rfl⟩))
    (fun os started H enc _ => lifted os started H enc)

end Go.Proofs.YtdpjambejmlppaaDoor.fenAsks
namespace Go.Proofs.YtdpjambejmlppaaDoor
theorem fenAsks_holds : Rows.FenAsksCardSaid :=
  Claim7.holds_tied_plain_at .later [] [.data, .data] true _ false
    fenAsks.over (fun _ h => by cases h) (by kernel_rfl) (fun _ h => by cases h) fenAsks_row_tie rfl ⟨rfl, rfl⟩ (by kernel_rfl) rfl
    (fun f fn hf hfn => by
      obtain rfl : f = 4 := Option.some.inj ((show Tryd.prog.funcNamed "drawlot/drawlotlaw11.FenAsks" = some 4 by kernel_rfl).symm.trans hf) |>.symm
      obtain rfl : fn = Tryd.f4 := (Option.some.inj (Tryd.func4.symm.trans hfn)).symm
      exact ⟨by kernel_rfl, fun j t ht => by
        rw [Tryd.params4] at ht
        have hm : t ∈ [22, 3, 32] := by simpa using Array.mem_of_getElem? ht
        have hall : ([22, 3, 32].all fun u => !Tryd.prog.wantsStandIn u) = true := by kernel_rfl
        exact (show Tryd.prog.wantsStandIn t = false by simpa using List.all_eq_true.1 hall t hm)⟩)
    (by kernel_rfl)
#print axioms fenAsks_holds
end Go.Proofs.YtdpjambejmlppaaDoor

/-
  What the landed Set returns: the numbers that hold a place, each changed by what the stake differs.
  Conditions: those that each theorem names; the library's table of trailing zeros is as the program's text lays it.
-/
import Derived.Test.YtdpjambejmlppaaDoorFenG
import Derived.Test.YtdpjambejmlppaaDoorFenF
import Derived.Test.YtdpjambejmlppaaDoorSafA
set_option maxRecDepth 100000
set_option linter.unusedVariables false
set_option linter.unusedSimpArgs false
namespace Go.Proofs.YtdpjambejmlppaaDoor
open Go.ChangeShapes Go.WideShapes Go.ChangeAt Go.RowKit
set_option maxHeartbeats 8000000 in
theorem q11set_c (l : List Int) (hz : ∀ z ∈ l, 0 ≤ z) (hs : sumL l < 9223372036854775808) (hl : l.length ≤ 1048576) (A : Option Addr) (n c : Nat) (hn : l.length = n) (hc : n ≤ c) (hcm : c ≤ maxLen) (i v : Int) (i0 : -9223372036854775808 ≤ i) (i1 : i < 9223372036854775808) (v0 : 0 ≤ v) (v1 : v < 18446744073709551616) (w : World) (hT : TzT w) (hrd : Rd .u64 w w.heap.size A n (treeL l)) : Calls Tryd.prog 22 #[.agg #[.slice A n c], .int .i64 i, .int .u64 v] w (RetFen w (treeL (setL l i v)) (setE l i v)) := by
  have HTT := Lib.hid hT
  have hat := fun W hW h => q11at_c l hz hs hl A n c hn hc hcm i i0 i1 W hW h
  have htot := fun W hW h => q11total_c l hz hs hl A n c hn hc hcm W hW h
  have hm2 : (n : Int) ≤ 1048576 := by omega
  have HN8 : Hid (n ≤ 100000000) := Lib.hid (by omega)
  have HEMP : Hid (∀ er w', setE l i v = er ∧ setL l i v = [] → Below w.heap.size w w' → RetFen w (treeL (setL l i v)) (setE l i v) (.returned (.tuple #[.agg #[.slice none 0 0], .int .i64 er])) w') := Lib.hid (fun er w' h hb => by rw [h.1, h.2]; exact ⟨none, 0, rfl, rd_nil _ _ _ _, Nat.le_refl _, by simp [maxLen], hb⟩)
  by_cases hin : 0 ≤ i ∧ i < (l.length : Int)
  · obtain ⟨a1, a2⟩ := at_ok hin
    rw [a1, a2] at hat
    obtain ⟨k, rfl⟩ := Int.eq_ofNat_of_zero_le hin.1
    rw [Int.toNat_natCast] at hat
    have hk : k < l.length := by omega
    have hss : sumL (l.set k v) = sumL l + (v - l.getD k 0) := by
      have a1 := preL_set (l := l) (i := k) v hk n
      have a2 : preL (l.set k v) n = sumL (l.set k v) := by
        have := preL_all (l.set k v)
        rw [List.length_set, hn] at this
        exact this
      have a3 : preL l n = sumL l := by rw [← hn, preL_all]
      rw [if_pos (by omega)] at a1
      omega
    have hok := hz _ (getD_in hk)
    have hol : l.getD k 0 ≤ sumL l := by
      have a1 := preL_next hk
      have a2 := preL_nn hz k
      have a3 := preL_le hz (k + 1)
      omega
    have hset := fun p h1 h2 => setF_bd hz v0 hk (p := p) h1 h2
    have hdone := fun p (h : l.length < p) => setF_done (l := l) (i := k) v hk h
    obtain ⟨x, hx⟩ : ∃ x, sumL l = x := ⟨_, rfl⟩
    rw [hx] at htot hss hol hset
    have hs' : x < 9223372036854775808 := by omega
    obtain ⟨o, ho⟩ : ∃ x, l.getD k 0 = x := ⟨_, rfl⟩
    rw [ho] at hat hss hok hol hset hdone
    have HAT := Lib.hid hat
    have HTO := Lib.hid htot
    have hx0 : x - o < 18446744073709551616 := by omega
    have hx1 : 0 ≤ x - o := by omega
    have hwr : IntKind.u64.wrap (x - o) = x - o := by rw [IntKind.wrap_u64]; omega
    have hadd := fun W => q9add_c (x - o) v hx1 hx0 v0 v1 W
    by_cases hs2 : sumL (l.set k v) < 9223372036854775808
    · obtain ⟨b1, b2⟩ := addV_ok (a := x - o) (b := v) (by omega)
      rw [b2] at hadd
      obtain ⟨av, hav⟩ : ∃ z9 : Int, addV (x - o) v = z9 := ⟨_, rfl⟩
      rw [hav] at hadd
      have HAD := Lib.hid hadd
      have HE := Lib.hid (setE_ok (l := l) (i := k) (v := v) hin (by rw [Int.toNat_natCast]; exact hs2))
      have HEND : Hid (∀ A' c' w', Rd .u64 w' w'.heap.size A' n (treeL (l.set k v)) → n ≤ c' → c' ≤ maxLen → Below w.heap.size w w' → RetFen w (treeL (setL l k v)) (setE l k v) (.returned (.tuple #[.agg #[.slice A' n c'], .int .i64 0])) w') := Lib.hid (fun A' c' w' h1 h2 h3 h4 => by rw [HE.out.1, HE.out.2, Int.toNat_natCast]; refine ⟨A', c', by rw [treeL_len, List.length_set, hn], ?_⟩; rw [treeL_len, List.length_set, hn]; exact ⟨h1, h2, h3, h4⟩)
      have HPOS : Hid (0 < n) := Lib.hid (by omega)
      have HKN : Hid (k + 1 ≤ n) := Lib.hid (by omega)
      have HLN : Hid ((treeL l).length = n) := Lib.hid ((treeL_len l).trans hn)
      have HZERO := Lib.hid (setF_zero l k (v - o))
      have HHERE := Lib.hid (fun p (h : chainP k p) (hp : p ≤ n) => setF_here (l := l) (v - o) h (by omega))
      have HNEXT := Lib.hid (fun p (h : chainP k p) (hp : p ≤ n) => setF_next (l := l) (v - o) h (by omega))
      have HSET := Lib.hid (fun p (h : chainP k p) (hp : p ≤ n) => hset p h (by omega))
      have HDONE := Lib.hid (fun p (h : n < p) => hdone p (by omega))
      have HLOW := Lib.hid (fun M (h1 : M ≠ 0) (h2 : M ≤ n) W hW => q11low_c M h1 (by omega) W hW)
      have HS2 := Lib.hid hs2
      have HXB := Lib.hid hs'
      have hkI : (k : Int) < (n : Int) := by omega
      have ok0 : 0 ≤ o := hok
      have oxx : o ≤ x := hol
      have HR := Lib.hid hrd
      clear hrd hz hs hl hn hc hcm hT hat htot hadd hav b1 b2 hset hdone hss hok hol hx ho hk hin HE i0 i1 hs2 a1 a2 HEMP
      go_enter Tryd.func22, Tryd.ntmps22
      go_wp2_with (first
        | (with_reducible refine at_any ?_; refine at_dst 3 rfl ?_; refine wpList_box_any rfl 25 (.tmp 0) rfl #[.slice A n c] rfl ?_; intro w1 hk1 hs1 hb1; have G1 := Lib.hid (fx_start hk1.out HR.out hb1); have HGR := Lib.hid (Below.size hb1); clear hk1 hs1 hb1)
        | (with_reducible refine at_any ?_; refine at_dst 6 rfl ?_; refine wpList_alloc_any rfl 25 rfl #[.slice none 0 0] zero_fen ?_; intro w2 hk2 hs2 hb2; have G2 := Lib.hid (Fx.newB G1.out hk2.out hb2); clear hk2 hs2 hb2)
        | (with_reducible refine at_any ?_; refine at_dst 15 rfl ?_; refine wpList_load_fen (by kernel_rfl) (.tmp 3) rfl w.heap.size rfl 25 (.slice A n c) (Fx.b1 G2.out) ?_)
        | (go_at_call 18; (with_reducible refine (HAT.out _ (HTT.out.below (Fx.e3 G2.out)) (Fx.r2 G2.out)).mono ?_); rintro e w3 ⟨rfl, hb3⟩; have G3 := Lib.hid (Fx.below G2.out hb3); clear hb3)
        | (with_reducible refine at_any ?_; refine at_dst 25 rfl ?_; refine wpList_load_fen (by kernel_rfl) (.tmp 3) rfl w.heap.size rfl 25 (.slice A n c) (Fx.b1 G3.out) ?_)
        | (go_at_call 14; (with_reducible refine (HTO.out _ (HTT.out.below (Fx.e3 G3.out)) (Fx.r2 G3.out)).mono ?_); rintro e w4 ⟨rfl, hb4⟩; have G4 := Lib.hid (Fx.below G3.out hb4); have cz := Blk.cell0 (Fx.b1 G4.out); clear hb4)
        | (go_at_call 33; (with_reducible refine (HAD.out _).mono ?_); rintro e _ ⟨rfl, rfl⟩)
        | (go_at_call 27; (with_reducible refine (clone64_c (treeL l) A n c HN8.out _ (Fx.r2 G4.out)).mono ?_); rintro e w5 ⟨v6, rfl, ho2, hb2⟩; obtain ⟨g7, c7, rfl, HS2', HC7, HM7⟩ := bld_start (Fx.b0 G4.out) (Fx.e3 G4.out) ho2 hb2 HLN.out HPOS.out; clear ho2 hb2))
      obtain ⟨g2, hg2⟩ : ∃ g, w1.heap.size = g := ⟨_, rfl⟩
      have HS3 : Hid (BldS w g2 (.slice none 0 0) g7 c7 n (treeL l) w5) := Lib.hid (by rw [← hg2]; exact HS2'.out)
      have HG2 : Hid (w.heap.size ≤ g2) := Lib.hid (by rw [← hg2]; exact HGR.out)
      rw [hg2]
      clear HS2' hg2 HGR G4 HAT HTO HAD cz
      go_loopw [13] (fun pp wr => ∃ p : Nat, chainP k p ∧ p ≤ 2097152 ∧ pp = .int .i64 (p : Int) ∧ BldS w g2 (.slice none 0 0) g7 c7 n (setF l k (v - o) p) wr) (fun pp _ => 2097153 - (intOf pp).toNat)
      case atStart => exact ⟨k + 1, chain_zero k, by have := HKN.out; omega, by go_num, by rw [HZERO.out]; exact HS3.out⟩
      case round =>
        clear HS3
        obtain ⟨p, hch, hpb, rfl, hS⟩ := hrel
        have HS := Lib.hid hS
        have HCH := Lib.hid hch
        clear hS
        by_cases hp : p ≤ n
        · have hlow := fun W hW => HLOW.out p hch.1 hp W hW
          have hlp := lowN_pos hch.1
          have hll := lowN_le p
          have hhe := HHERE.out p hch hp
          have hnx := HNEXT.out p hch hp
          obtain ⟨s1, s2, s3, s4⟩ := HSET.out p hch hp
          have hsb := HS2.out
          have hxb := HXB.out
          obtain ⟨q, hq⟩ : ∃ q, p - 1 = q := ⟨_, rfl⟩
          have hp0 := hch.1
          rw [hq] at hhe hnx s1 s2 s4
          obtain ⟨y, hy⟩ : ∃ z, (treeL l).getD q 0 = z := ⟨_, rfl⟩
          rw [hy] at hhe hnx s1 s2 s4
          obtain ⟨lo, hlo⟩ : ∃ x, lowN p = x := ⟨_, rfl⟩
          rw [hlo] at hnx hlp hll hlow
          have HCN : Hid (chainP k (p + lo)) := Lib.hid (by rw [← hlo]; exact chain_next hch)
          have HLOWW := Lib.hid hlow
          obtain ⟨B, hB⟩ : ∃ B, setF l k (v - o) p = B := ⟨_, rfl⟩
          rw [hB] at HS hhe hnx
          have hyv : y + (v - o) = y - o + v := by omega
          rw [hyv] at hnx
          have HNX := Lib.hid hnx
          have y0 : o ≤ y := s1
          have y1 : y < 9223372036854775808 := by omega
          have hz1 : y - o + v < 9223372036854775808 := by omega
          have hz2 : 0 ≤ y - o := by omega
          have hW1 : IntKind.u64.wrap (y - o) = y - o := by rw [IntKind.wrap_u64]; omega
          have hW2 : IntKind.u64.wrap (y - o + v) = y - o + v := by rw [IntKind.wrap_u64]; omega
          have hqI : (p : Int) - 1 = (q : Int) := by omega
          have hq0 : (0 : Int) ≤ (q : Int) := by omega
          have hqn : (q : Int) < (n : Int) := by omega
          have hpn : (p : Int) ≤ (n : Int) := by omega
          have hp1 : (1 : Int) ≤ (p : Int) := by omega
          have hpl : (lo : Int) ≤ (p : Int) := by omega
          have hlo1 : (1 : Int) ≤ (lo : Int) := by omega
          have HPL : Hid (p + lo ≤ 2097152 ∧ 1 ≤ lo) := Lib.hid ⟨by omega, by omega⟩
          have HQL : Hid (q < n) := Lib.hid (by omega)
          obtain ⟨cur, HKC, HSC⟩ := HS.out.blk HPOS.out
          have hyc := HS.out.cell HQL.out hhe
          have hfz := HS.out.frz (j := q) HPOS.out
          have HPB := Lib.hid hpb
          clear hlow hlp hll hhe hnx s1 s2 s3 s4 hsb hxb hq hy hlo hB hyv hp hpb hch hp0 hz1
          go_wp2_with (first
            | (with_reducible refine at_any ?_; refine at_store 61 rfl ?_; refine wpList_store_cell rfl 32 (.tmp 61) (.tmp 60) rfl g7 q rfl 32 cur HKC.out (.int .u64 (y - o + v)) rfl (HSC.out _ HQL.out) size_u64f rfl rfl ?_; intro w9 hk9 ho9; have HNEW := Lib.hid (BldS.put HS.out HKC.out HQL.out hk9.out ho9); clear hk9 ho9)
            | (go_at_call 28; (with_reducible refine (HLOWW.out _ (HTT.out.below HNEW.out.bel)).mono ?_); rintro e _ ⟨rfl, rfl⟩))
          go_roundw
          case rel => exact ⟨p + lo, HCN.out, HPL.out.1, by go_num, by rw [← HNX.out]; exact HNEW.out⟩
          case measure => have := HPL.out; have := HPB.out; simp [intOf]; omega
        · have hdn := HDONE.out p (by omega)
          rw [hdn] at HS
          have hgt : ¬ (p : Int) ≤ (n : Int) := by omega
          have HK2 := Lib.hid HS.out.b2
          have HB2 := Lib.hid HS.out.bel
          have HRX := Lib.hid HS.out.rd
          clear hdn hp hpb hch
          go_wp2_with (first
            | (with_reducible refine at_any ?_; refine at_store 6 rfl ?_; refine wpList_store_any rfl 25 (.tmp 6) (.tmp 63) rfl g2 rfl 25 #[.slice none 0 0] #[.slice (some ⟨g7, 0, none⟩) n c7] HK2.out rfl (size1 _ _) (sizedF _) (fen_ones _ _ _) ?_; intro w9 hk9 hs9 hb9 ho9; have HB9 := Lib.hid (HB2.out.trans (hb9 _ (HG2.out))); have HK9 := Lib.hid hk9.out; have HR9 := Lib.hid (rd_past HRX.out HK2.out hs9.out ho9); clear hb9)
            | (refine bodyPost_any2 6 7 25 rfl g2 rfl (.int .i64 0) rfl 25 #[.slice (some ⟨g7, 0, none⟩) n c7] HK9.out _ Tryd.underlying25 rfl (sizedF _) rfl ?_))
          exact HEND.out _ _ _ HR9.out HC7.out HM7.out HB9.out
    · obtain ⟨b1, b2⟩ := addV_no (a := x - o) (b := v) (by omega)
      rw [b1, b2] at hadd
      have HAD := Lib.hid hadd
      have HE := Lib.hid (setE_big (l := l) (i := k) (v := v) hin (by rw [Int.toNat_natCast]; exact hs2))
      have ok0 : 0 ≤ o := hok
      have oxx : o ≤ x := hol
      have HR := Lib.hid hrd
      clear hrd hz hs hl hn hc hcm hT hat htot hadd b1 b2 hset hdone hss hok hol hx ho hk hin i0 i1 hs2 a1 a2
      go_enter Tryd.func22, Tryd.ntmps22
      go_wp2_with (first
        | (with_reducible refine at_any ?_; refine at_dst 3 rfl ?_; refine wpList_box_any rfl 25 (.tmp 0) rfl #[.slice A n c] rfl ?_; intro w1 hk1 hs1 hb1; have G1 := Lib.hid (fx_start hk1.out HR.out hb1); have HGR := Lib.hid (Below.size hb1); clear hk1 hs1 hb1)
        | (with_reducible refine at_any ?_; refine at_dst 6 rfl ?_; refine wpList_alloc_any rfl 25 rfl #[.slice none 0 0] zero_fen ?_; intro w2 hk2 hs2 hb2; have G2 := Lib.hid (Fx.newB G1.out hk2.out hb2); clear hk2 hs2 hb2)
        | (with_reducible refine at_any ?_; refine at_dst 15 rfl ?_; refine wpList_load_fen (by kernel_rfl) (.tmp 3) rfl w.heap.size rfl 25 (.slice A n c) (Fx.b1 G2.out) ?_)
        | (go_at_call 18; (with_reducible refine (HAT.out _ (HTT.out.below (Fx.e3 G2.out)) (Fx.r2 G2.out)).mono ?_); rintro e w3 ⟨rfl, hb3⟩; have G3 := Lib.hid (Fx.below G2.out hb3); clear hb3)
        | (with_reducible refine at_any ?_; refine at_dst 25 rfl ?_; refine wpList_load_fen (by kernel_rfl) (.tmp 3) rfl w.heap.size rfl 25 (.slice A n c) (Fx.b1 G3.out) ?_)
        | (go_at_call 14; (with_reducible refine (HTO.out _ (HTT.out.below (Fx.e3 G3.out)) (Fx.r2 G3.out)).mono ?_); rintro e w4 ⟨rfl, hb4⟩; have G4 := Lib.hid (Fx.below G3.out hb4); have cz := Blk.cell0 (Fx.b1 G4.out); clear hb4)
        | (go_at_call 33; (with_reducible refine (HAD.out _).mono ?_); rintro e _ ⟨rfl, rfl⟩)
        | (with_reducible refine at_any ?_; refine at_dst 35 rfl ?_; refine wpList_val rfl (.agg #[.slice none 0 0]) (build_fen0 _ rfl) ?_)
        | (with_reducible refine at_any ?_; refine at_store 6 rfl ?_; refine wpList_store_any rfl 25 (.tmp 6) (.tmp 35) rfl w1.heap.size rfl 25 #[.slice none 0 0] #[.slice none 0 0] (Fx.b0 G4.out) rfl (size1 _ _) (sizedF _) (fen_ones _ _ _) ?_; intro w9 hk9 hs9 hb9 ho9; have HB9 := Lib.hid ((Fx.e3 G4.out).trans (hb9 _ HGR.out)); have HK9 := Lib.hid hk9.out; clear hb9)
        | (refine bodyPost_any2 6 7 25 rfl w1.heap.size rfl (.int .i64 11) rfl 25 #[.slice none 0 0] HK9.out _ Tryd.underlying25 rfl (sizedF _) rfl ?_))
      exact HEMP.out _ _ HE.out HB9.out
  · obtain ⟨a1, a2⟩ := at_no hin
    rw [a1, a2] at hat
    have HAT := Lib.hid hat
    have HE := Lib.hid (setE_no (l := l) (i := i) v hin)
    have HR := Lib.hid hrd
    clear hrd hz hs hl hn hc hcm hT hat htot hin a1 a2
    go_enter Tryd.func22, Tryd.ntmps22
    go_wp2_with (first
      | (with_reducible refine at_any ?_; refine at_dst 3 rfl ?_; refine wpList_box_any rfl 25 (.tmp 0) rfl #[.slice A n c] rfl ?_; intro w1 hk1 hs1 hb1; have G1 := Lib.hid (fx_start hk1.out HR.out hb1); have HGR := Lib.hid (Below.size hb1); clear hk1 hs1 hb1)
      | (with_reducible refine at_any ?_; refine at_dst 6 rfl ?_; refine wpList_alloc_any rfl 25 rfl #[.slice none 0 0] zero_fen ?_; intro w2 hk2 hs2 hb2; have G2 := Lib.hid (Fx.newB G1.out hk2.out hb2); clear hk2 hs2 hb2)
      | (with_reducible refine at_any ?_; refine at_dst 15 rfl ?_; refine wpList_load_fen (by kernel_rfl) (.tmp 3) rfl w.heap.size rfl 25 (.slice A n c) (Fx.b1 G2.out) ?_)
      | (go_at_call 18; (with_reducible refine (HAT.out _ (HTT.out.below (Fx.e3 G2.out)) (Fx.r2 G2.out)).mono ?_); rintro e w3 ⟨rfl, hb3⟩; have G3 := Lib.hid (Fx.below G2.out hb3); clear hb3)
      | (with_reducible refine at_any ?_; refine at_dst 22 rfl ?_; refine wpList_val rfl (.agg #[.slice none 0 0]) (build_fen0 _ rfl) ?_)
      | (with_reducible refine at_any ?_; refine at_store 6 rfl ?_; refine wpList_store_any rfl 25 (.tmp 6) (.tmp 22) rfl w1.heap.size rfl 25 #[.slice none 0 0] #[.slice none 0 0] (Fx.b0 G3.out) rfl (size1 _ _) (sizedF _) (fen_ones _ _ _) ?_; intro w9 hk9 hs9 hb9 ho9; have HB9 := Lib.hid ((Fx.e3 G3.out).trans (hb9 _ HGR.out)); have HK9 := Lib.hid hk9.out; clear hb9)
      | (refine bodyPost_any2 6 7 25 rfl w1.heap.size rfl (.int .i64 3) rfl 25 #[.slice none 0 0] HK9.out _ Tryd.underlying25 rfl (sizedF _) rfl ?_))
    exact HEMP.out _ _ HE.out HB9.out
end Go.Proofs.YtdpjambejmlppaaDoor

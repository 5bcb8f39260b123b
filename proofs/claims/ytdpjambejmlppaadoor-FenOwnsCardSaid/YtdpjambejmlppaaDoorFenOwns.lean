/-
  Each place owns as many tickets as its stake; of up to 40 stakes below 50.
  Conditions: none.
-/
import Derived.Test.YtdpjambejmlppaaDoorLawP
import Derived.Test.YtdpjambejmlppaaDoorOpenA
import Derived.Test.YtdpjambejmlppaaDoorFenQ
import Derived.ShutString
import Derived.Test.YtdpjambejmlppaaDoorFenK
import Derived.Test.YtdpjambejmlppaaDoorTie
import Derived.Test.YtdpjambejmlppaaDoorCards
import Derived.SevenTiedAt
import Derived.ChangeOld
namespace Go.Proofs.YtdpjambejmlppaaDoor.fenOwns
open Go.ChangeShapes Go.WideShapes Go.ChangeAt Go.RowKit
set_option linter.unusedVariables false
set_option linter.unusedSimpArgs false
set_option maxRecDepth 100000

theorem own : ownKnob Tryd.prog.godebug = none := by kernel_rfl
theorem laidOut : laidOutB Tryd.prog = true := by kernel_rfl

set_option maxHeartbeats 16000000 in
theorem walk (a0 : Option Addr) (n c : Nat) (zs : List Int) (w : World) (hT : TzT w) (hrd : Rd .u64 w w.heap.size a0 n zs) (lc : n ≤ c) (cm : c ≤ maxLen) (hw : ∀ z ∈ zs, (Lit.int .u64 z).wf = true) :
    Calls Tryd.prog 6 #[.slice a0 n c] w fun e w' => e = .returned (.bool true) ∧ Below w.heap.size w w' := by
  have HTT := Lib.hid hT
  clear hT
  obtain ⟨ti, hti, hz0, hz1, hzb⟩ := info_parts info_u64d
  have HR := Lib.hid hrd
  have hlen := hrd.len
  have hnm : (n : Int) ≤ 9223372036854775807 := by unfold maxLen at cm; omega
  have HZ : Hid (∀ k, k < n → 0 ≤ zs.getD k 0 ∧ zs.getD k 0 < 18446744073709551616) := Lib.hid (fun k h => by
    obtain ⟨h1, h2⟩ := bounds_u64 (hw _ (getD_in (l := zs) (k := k) (by omega)))
    omega)
  have HPR := Lib.hid (fun i (h : i ≤ n) => modL_pre zs i (by omega))
  have HNX1 : Hid (∀ i, i < n → preL (modL zs) (i + 1) = preL (modL zs) i + zs.getD i 0 % 50) := Lib.hid (fun i h => by rw [preL_next (by rw [modL_len]; omega), modL_at (by omega)])
  have HTK := Lib.hid (fun i (h : i < n) => modL_take (l := zs) (i := i) (by omega))
  have hS : ∀ z ∈ modL zs, 0 ≤ z ∧ z < 50 := modL_in
  have hlS : (modL zs).length = n := (modL_len zs).trans hlen
  obtain ⟨S, hSS⟩ : ∃ S, modL zs = S := ⟨_, rfl⟩
  rw [hSS] at HPR HNX1 HTK hS hlS
  have HSA : Hid (preL S n = sumL S) := Lib.hid (by rw [← hlS, preL_all])
  have HS0 : Hid (∀ z ∈ S, 0 ≤ z) := Lib.hid (fun z h => (hS z h).1)
  have HS1 : Hid (∀ z ∈ S, 0 ≤ z ∧ z < 18446744073709551616) := Lib.hid (fun z h => by have := hS z h; omega)
  have HSG : Hid (∀ i, i < n → S.getD i 0 < 50) := Lib.hid (fun i h => (hS _ (getD_in (by omega))).2)
  have HLS := Lib.hid hlS
  have HLEN : Hid (∀ i, i ≤ n → (S.take i).length = i) := Lib.hid (fun i h => by rw [List.length_take]; omega)
  clear hrd hw hSS hS hlS lc cm hlen
  go_enter Tryd.func6, Tryd.ntmps6
  go_wp2_with (go_at_call 8; (with_reducible refine (alive11_c _ HTT.out).mono ?_); rintro e w1 ⟨rfl, hb1⟩; have HB1 := Lib.hid hb1; have HR1A := Lib.hid (HR1 HR.out hb1); clear hb1)
  go_loopw [3, 4] (fun tt ii wr => ∃ i : Nat, i ≤ n ∧ i ≤ 50 ∧ ii = .int .i64 (i : Int) ∧ tt = .int .u64 (preL S i) ∧ w1 = wr) (fun _ ii _ => n - (intOf ii).toNat)
  case atStart => exact ⟨0, by omega, by omega, rfl, rfl, by first | rfl | trivial⟩
  case round =>
    obtain ⟨i, hi, hi50, rfl, rfl, rfl⟩ := hrel
    by_cases hlt : i < n ∧ i < 50
    · obtain ⟨hlt, hl50⟩ := hlt
      have hlt2 : (i : Int) < (n : Int) := by omega
      have hl502 : (i : Int) < 50 := by omega
      obtain ⟨g, off, rfl, -, hc⟩ := HR1A.out.at_ (by omega)
      have hck := hc i (by omega)
      have hnx := HNX1.out i hlt
      have hpr := HPR.out i hi
      have hzk := HZ.out i hlt
      obtain ⟨z, hz⟩ : ∃ z, zs.getD i 0 = z := ⟨_, rfl⟩
      rw [hz] at hck hnx hzk
      obtain ⟨z00, z01⟩ := hzk
      have htm : z.tmod 50 = z % 50 := Int.tmod_eq_emod_of_nonneg z00
      obtain ⟨y, hy⟩ : ∃ y, z % 50 = y := ⟨_, rfl⟩
      have y0 : 0 ≤ y := by rw [← hy]; exact Int.emod_nonneg _ (by omega)
      have y1 : y < 50 := by rw [← hy]; exact Int.emod_lt_of_pos _ (by omega)
      rw [hy] at htm hnx
      obtain ⟨p, hp⟩ : ∃ p, preL S i = p := ⟨_, rfl⟩
      rw [hp] at hnx hpr ⊢
      have HNP := Lib.hid hnx
      have p0 : 0 ≤ p := hpr.1
      have p1 : p ≤ 2500 := by have := hpr.2; omega
      clear hc hnx hpr hz hy hp hlt hl50
      go_wp2
      go_roundw
      case rel => exact ⟨i + 1, by omega, by omega, by go_num, by rw [HNP.out], by first | rfl | trivial⟩
      case measure => simp [intOf]; omega
    · by_cases hg : 40 < n
      · have hg2 : (40 : Int) < (n : Int) := by omega
        by_cases hin : i < n
        · have hin2 : (i : Int) < (n : Int) := by omega
          obtain rfl : i = 50 := by omega
          rw [show ((50 : Nat) : Int) = 50 from rfl] at hin2 ⊢
          clear hlt hg hin hi hi50
          go_wp2
          go_ret
          exact ⟨rfl, HB1.out⟩
        · obtain rfl : i = n := by omega
          clear hlt hg hin hi hi50
          go_wp2
          go_ret
          exact ⟨rfl, HB1.out⟩
      have hg2 : (n : Int) ≤ 40 := by omega
      obtain rfl : i = n := by omega
      rw [HSA.out]
      have hsum := HPR.out i (Nat.le_refl _)
      rw [HSA.out] at hsum
      obtain ⟨K, hK⟩ := Int.eq_ofNat_of_zero_le hsum.1
      have hk1 : (K : Int) ≤ 2000 := by have := hsum.2; omega
      have hs : sumL S < 9223372036854775808 := by omega
      have HKS := Lib.hid hK
      rw [hK]
      have e := bldE_ok (l := S) (by rw [HLS.out]; omega) hs
      have h1 := fun A c W hT h => calls_fen (q11build_c S HS1.out A i c (by simp only [maxLen]; omega) W hT h) e.2 e.1 ((treeL_len S).trans HLS.out)
      have ho := fun (t : Int) (t0 : 0 ≤ t) (t1 : t < 18446744073709551616) A c (hc : i ≤ c) (hm : c ≤ maxLen) W hT h => q11owner_c S HS0.out hs (by rw [HLS.out]; omega) A i c HLS.out hc hm t t0 t1 W hT h
      obtain ⟨T, hT⟩ : ∃ x, treeL S = x := ⟨_, rfl⟩
      rw [hT] at h1 ho
      have H1 := Lib.hid h1
      have HOW := Lib.hid ho
      have HSM := Lib.hid (fun A B c d W h h' => calls_val (v' := .bool true) (r9same_c S S A B i i c d (by simp only [maxLen]; omega) (by simp only [maxLen]; omega) W h h') (congrArg Value.bool (decide_eq_true rfl)))
      clear hlt hg hi hi50 hsum hs e h1 ho hT hK hnm
      go_wp2
      go_loopw [5, 6] (fun v jj wr => ∃ j : Nat, j ≤ i ∧ jj = .int .i64 (j : Int) ∧ OwnI wr w1.heap.size 32 .u64 v (S.take j) ∧ Below w1.heap.size w1 wr) (fun _ jj _ => i - (intOf jj).toNat)
      case atStart => exact ⟨0, by omega, rfl, OwnI.none _ _ _ _, Below.refl _ _⟩
      case round =>
        obtain ⟨j, hj, rfl, hown, hb⟩ := hrel
        obtain ⟨A5, c5, rfl, hl5, hm5⟩ := hown.form
        rw [HLEN.out j hj] at hown hl5 ⊢
        by_cases hlt : j < i
        · have hlt2 : (j : Int) < (i : Int) := by omega
          obtain ⟨g, off, ha0, -, hc⟩ := (HR1 HR1A.out hb).at_ (by omega)
          subst ha0
          have hck := hc j (by omega)
          have htk := HTK.out j hlt
          have hzk := HZ.out j hlt
          obtain ⟨z, hz⟩ : ∃ z, zs.getD j 0 = z := ⟨_, rfl⟩
          rw [hz] at hck htk hzk
          obtain ⟨z00, z01⟩ := hzk
          have htm : z.tmod 50 = z % 50 := Int.tmod_eq_emod_of_nonneg z00
          obtain ⟨y, hy⟩ : ∃ y, z % 50 = y := ⟨_, rfl⟩
          rw [hy] at htm htk
          have HN2 := Lib.hid htk.symm
          have HON := Lib.hid hown
          have HBN := Lib.hid hb
          have HLJ := Lib.hid (HLEN.out j hj)
          have hj40 : j ≤ 40 := by omega
          clear hc htk hz hy hown hb
          go_wp2_with (first
            | (at_builtin; refine wpList_append_ints _ rfl (.tmp 41) (.tmp 47) 22 rfl w1.heap.size 32 ti _ 8 .u64 Tryd.underlying22 hti hz0 hz1 hzb rfl _ (S.take j) rfl (HON.out.alloc _) (wr.heap.size + 1) (some ⟨wr.heap.size, 0, none⟩) 1 1 [y] rfl (rd_one wr 32 .u64 y) (by rw [HLJ.out]; simp only [maxLen]; omega) (by rw [HLJ.out]; omega) (by have := HBN.out.size; simp; omega) ?_; intro v6 w6 hown6 hg6 hat6; have hb6 : Below w1.heap.size w1 w6 := (HON.out.alloc _).below_ (HBN.out.alloc HBN.out.size _) (by have := HBN.out.size; simp; omega) hg6; rw [HN2.out] at hown6; have HO6 := Lib.hid hown6; have HB6 := Lib.hid hb6; clear hown6 hg6 hat6 hb6))
          go_roundw
          case rel => exact ⟨j + 1, by omega, by go_num, HO6.out, HB6.out⟩
          case measure => simp [intOf]; omega
        · obtain rfl : j = i := by omega
          have HRS := hown.rd (HLEN.out _ (Nat.le_refl _))
          rw [show S.take j = S from List.take_of_length_le (by rw [HLS.out]; exact Nat.le_refl _)] at HRS
          obtain ⟨n, hn⟩ : ∃ n, n = j := ⟨_, rfl⟩
          subst hn
          obtain ⟨w2, hw2⟩ : ∃ w2, w2 = wr := ⟨_, rfl⟩
          subst hw2
          have G0 : Hid (Fx [.rdb .u64 w2.heap.size A5 n S, .bel w] w2) := Lib.hid ⟨⟨HRS, Nat.le_refl _⟩, HB1.out.trans (hb.mono HB1.out.size), trivial⟩
          clear hown hb hl5 hm5 hlt hj HRS HTK HNX1 HPR HZ HR HR1A HB1 HSA
          have hmk : ∀ W, (Instr.makeSlice 22 (.int .i64 (n : Int)) (.int .i64 (n : Int))).run Tryd.prog W = .ok (.slice (some ⟨W.heap.size, 0, none⟩) n n) (W.alloc (.cells (intsA .u64 (List.replicate n 0)) 32)) := fun W => run_make_ints (P := Tryd.prog) 22 32 ti .u64 Tryd.underlying22 hti hz0 hz1 .i64 .i64 n (by rw [hzb]; omega) (by omega) W
          go_wp2_with (first
            | (go_at_call 9; (with_reducible refine (H1.out _ _ _ (HTT.out.below (Fx.e1 G0.out)) (Fx.r0 G0.out)).mono ?_); rintro e w101 ⟨A102, c103, rfl, hrw101, hlw101, hmw101, hbw101⟩; have lc103 := Lib.hid hlw101; have mc103 := Lib.hid hmw101; have G104 := Lib.hid (Fx.addR G0.out hbw101 hrw101); clear G0; clear hrw101 hbw101 hlw101 hmw101)
            | (with_reducible refine at_any ?_; refine at_dst 7 rfl ?_; refine wpList_alloc_any rfl 25 rfl #[.slice none 0 0] zero_fen ?_; intro w105 hkw105 hsw105 hbw105; have U106 := Lib.hid (Fx.under_new G104.out rfl); have G107 := Lib.hid (Fx.newB G104.out hkw105.out hbw105); clear G104; clear hkw105 hsw105 hbw105)
            | (with_reducible refine at_any ?_; refine at_store 7 rfl ?_; refine wpList_store_any rfl 25 (.tmp 7) (.tmp 52) rfl w101.heap.size rfl 25 #[.slice none 0 0] (#[.slice A102 n c103]) (Fx.b0 G107.out) rfl (size1 _ _) (sizedF _) (fen_ones _ _ _) ?_; intro w108 hkw108 hsw108 hbw108 how108; have G109 := Lib.hid (Fx.put1B G107.out U106.out hkw108.out hsw108.out hbw108 how108); clear G107; clear hkw108 hsw108 hbw108 how108))
          clear hmk
          obtain ⟨gf, hgf⟩ : ∃ g, w101.heap.size = g := ⟨_, rfl⟩
          obtain ⟨go, hgo⟩ : ∃ g, w108.heap.size = g := ⟨_, rfl⟩
          rw [hgf] at G109
          have hnew : Fx [.blk w108.heap.size 32 (intsA .u64 (List.replicate n 0)), .blk gf 25 #[.slice A102 n c103], .rdb .u64 gf A102 n T, .rdb .u64 w2.heap.size A5 n S, .bel w] (w108.alloc (.cells (intsA .u64 (List.replicate n 0)) 32)) := Fx.newB G109.out (Blk.new _ _ _) ((Below.refl _ _).alloc (Nat.le_refl _) _)
          have HU : Hid (Fx.under w108.heap.size [.blk gf 25 #[.slice A102 n c103], .rdb .u64 gf A102 n T, .rdb .u64 w2.heap.size A5 n S, .bel w]) := Lib.hid (Fx.under_new G109.out rfl)
          rw [hgo] at hnew HU
          rw [hgf, hgo]
          obtain ⟨w3, hw3⟩ : ∃ w3, w108.alloc (.cells (intsA .u64 (List.replicate n 0)) 32) = w3 := ⟨_, rfl⟩
          rw [hw3] at hnew ⊢
          rw [← HLS.out, ← owndL_zero HS0.out, HLS.out] at hnew
          have HNEW := Lib.hid hnew
          clear hnew hw3 hgf hgo G109 H1
          go_loopw [10] (fun tt wr => ∃ t : Nat, t ≤ K ∧ tt = .int .u64 (t : Int) ∧ Fx [.blk go 32 (intsA .u64 (owndL S t)), .blk gf 25 #[.slice A102 n c103], .rdb .u64 gf A102 n T, .rdb .u64 w2.heap.size A5 n S, .bel w] wr) (fun tt _ => K - (intOf tt).toNat)
          case atStart => exact ⟨0, by omega, rfl, HNEW.out⟩
          case round =>
            clear HNEW
            obtain ⟨t, ht, rfl, hG⟩ := hrel
            have G9 := Lib.hid hG
            clear hG
            by_cases hlt : t < K
            · have hlt2 : (t : Int) < (K : Int) := by omega
              obtain ⟨o, ho1, ho2, ho3, ho4, ho5⟩ := own_at (l := S) (t := (t : Int)) HS0.out (by omega) (by rw [HKS.out]; omega)
              have ho := fun A c hc hm W hT h => calls_val (HOW.out (t : Int) (by omega) (by omega) A c hc hm W hT h) (tup_ii ho2 ho3)
              have HO := Lib.hid ho
              have hnx := owndL_next HS0.out ho1 ho4 ho5
              have hyb := clamp_in (t := (t : Int)) (pre := preL S o) (HS0.out _ (getD_in ho1))
              rw [← owndL_at (t : Int) ho1] at hyb
              have hsg := HSG.out o (by rw [← HLS.out]; exact ho1)
              obtain ⟨y, hy⟩ : ∃ y, (owndL S (t : Int)).getD o 0 = y := ⟨_, rfl⟩
              rw [hy] at hnx hyb
              have y0 : 0 ≤ y := hyb.1
              have y1 : y < 50 := by have := hyb.2; omega
              have HY := Lib.hid hy
              have HOL : Hid (o < (owndL S (t : Int)).length) := Lib.hid (by rw [owndL_len]; exact ho1)
              have HSZ : Hid (o < (intsA .u64 (owndL S (t : Int))).size) := Lib.hid (by rw [intsA_size, owndL_len]; exact ho1)
              have HNX : Hid ((intsA .u64 (owndL S (t : Int))).setIfInBounds o (.int .u64 (y + 1)) = intsA .u64 (owndL S ((t : Int) + 1))) := Lib.hid (by rw [intsA_put, hnx])
              have hon : (o : Int) < (n : Int) := by rw [HLS.out] at ho1; omega
              have ho0 : (0 : Int) ≤ (o : Int) := by omega
              clear ho ho1 ho2 ho3 ho4 ho5 hnx hyb hsg hy
              go_wp2_with (first
                | (with_reducible refine at_any ?_; refine at_dst 65 rfl ?_; refine wpList_load_fen (by kernel_rfl) (.tmp 7) rfl gf rfl 25 (.slice A102 n c103) (Fx.b1 G9.out) ?_)
                | (go_at_call 19; (with_reducible refine (HO.out _ _ lc103.out mc103.out _ (HTT.out.below (Fx.e4 G9.out)) (Fx.r2 G9.out)).mono ?_); rintro e w201 ⟨rfl, hbw201⟩; have G202 := Lib.hid (Fx.below G9.out hbw201); clear G9; clear hbw201; have cz := Fx.at0 G202.out o y HOL.out HY.out)
                | (with_reducible refine at_any ?_; refine at_store 87 rfl ?_; refine wpList_store_cell_any rfl 32 (.tmp 87) (.tmp 86) rfl go o rfl 32 (intsA .u64 (owndL S t)) (Fx.b0 G202.out) (.int .u64 (y + 1)) rfl HSZ.out size_u64f rfl rfl ?_; intro w203 hkw203 hsw203 hbw203 how203; rw [HNX.out] at hkw203; have G204 := Lib.hid (Fx.put1B G202.out HU.out hkw203.out hsw203.out hbw203 how203); clear G202; clear hkw203 hsw203 hbw203 how203))
              go_roundw
              case rel => exact ⟨t + 1, by omega, by go_num, by rw [Int.natCast_add]; exact G204.out⟩
              case measure => simp [intOf]; omega
            · obtain rfl : t = K := by omega
              have HRO := Lib.hid (Fx.own (n := n) G9.out (by rw [owndL_len]; exact HLS.out))
              rw [← HKS.out, owndL_all HS0.out] at HRO
              have HBE := Lib.hid (Fx.e4 G9.out)
              have HRM := Lib.hid (Fx.r3 G9.out)
              go_wp2_with (go_at_call 12; (with_reducible refine (HSM.out _ _ _ _ _ HRO.out HRM.out).mono ?_); rintro e w9 ⟨rfl, hb9⟩; have HB9 := Lib.hid (HBE.out.trans (hb9.mono HBE.out.size)); clear hb9)
              go_ret
              exact ⟨rfl, HB9.out⟩


set_option maxRecDepth 100000 in
theorem lifted (os : Os) (started : os.Started) (H : Type) (enc : TypeId × Value → H) :
    ReturnsInHanded {} Tryd.checked os 6 .any (fun w args => (Rows.fenOwnsSpec.pre enc Tryd.prog Tryd.f6 [] false w args ∧ laidMetH Tryd.prog laidT w) ∧ sizedMet enc Tryd.prog Tryd.f6 (OpenSpec.ofChange Rows.fenOwnsSpec) false w args) (Rows.fenOwnsSpec.post enc Tryd.prog Tryd.f6 false true false false) := by
  refine returnsInHanded_of_change_and (C := Tryd.checked) (X := fun w _ => laidMetH Tryd.prog laidT w) (fun _ _ _ hh h => h.of_heap hh) own started (by kernel_rfl) Tryd.func6
    (ChangeSpec.witness_shaped (enc := enc) (C := Tryd.checked) (os := os) (X := fun w _ => laidMetH Tryd.prog laidT w) false (World.doorLaid Tryd.prog 400 os) #[.slice none 0 0] 8 rfl (World.shaped_of_RefB (by kernel_rfl) (by kernel_rfl)) (by kernel_rfl) (by kernel_rfl) (by kernel_rfl) (door_metT os _)) ?_
  intro W base args ds gs before hval0 hW _ _ hL _
  have hval : ∀ (j : Nat) t v, Tryd.f6.params[j]? = some t → args[j]? = some v → Value.okWide Tryd.prog W .any base t v := hval0
  have hW' := hW
  obtain ⟨p, q, hA0, hV, rfl, hfz, hnd⟩ := hW
  have hA : DataW.TrodAll enc Tryd.prog W 0 (fun _ => true) true Tryd.f6.params.toList args.toList ds p := hA0
  rw [Tryd.params6] at hA hval
  obtain ⟨v0, vs0, d0, ds0, p0, q0, hargs, rfl, rfl, h0, r0⟩ := trodAll_cons hA
  obtain ⟨rfl, rfl, rfl⟩ := trodAll_nil r0
  obtain rfl : args = #[v0] := by cases args; simp_all
  obtain ⟨rfl, rfl⟩ := trodVars_none hV
  obtain ⟨a0, n0, c0, rfl⟩ := okWide_slice Tryd.underlying22 (hval 0 22 v0 rfl rfl)
  have k0 := h0
  have lt0 : ∀ x ∈ p0, x.block < W.heap.size := by obtain ⟨m, hm⟩ := k0; exact DataW.trod_lt m _ _ _ hm
  obtain ⟨z0, rd0, lc0, cm0, w0⟩ := open_rd Tryd.underlying22 Tryd.underlying32 (by kernel_rfl) h0
  clear hA0 hval0
  refine (walk a0 n0 c0 z0 W (tzT_of_laid hL) rd0 lc0 cm0 w0).mono fun e W' ⟨he, bel⟩ => ?_
  subst he
  exact ⟨_, rfl, _, _, _, [], _, [], hW', trodAll_mk1 (shut_bool Tryd.underlying4 _), (trodAll_cons_mk (Below.trod laidOut (by kernel_rfl) (of_decide_eq_true (by kernel_rfl)) k0 bel lt0) trodAll_mk0), rfl, bel.frame _, fun h => by cases h⟩

theorem over : Rows.fenOwnsRow.holds Tryd.pinned (OpenSpec.ofChange Rows.fenOwnsSpec) :=
  OpenClaim.holds_of_wide 6 Tryd.f6 rfl rfl rfl rfl rfl rfl rfl ⟨rfl, rfl, rfl, rfl, rfl⟩ rfl rfl rfl rfl rfl (by kernel_rfl) Tryd.func6 (by kernel_rfl)
    (of_decide_eq_true (by kernel_rfl)) (by unfold Func.isWrapper; first | (rw [if_pos (by decide +kernel)]; kernel_rfl) | (rw [if_neg (by decide +kernel)]; exact ⟨rfl, rfl⟩))
    (fun os started H enc _ => lifted os started H enc)

end Go.Proofs.YtdpjambejmlppaaDoor.fenOwns
namespace Go.Proofs.YtdpjambejmlppaaDoor
theorem fenOwns_holds : Rows.FenOwnsCardSaid :=
  Claim7.holds_tied_plain_at .later [] [.data, .data] true _ false
    fenOwns.over (fun _ h => by cases h) (by kernel_rfl) (fun _ h => by cases h) fenOwns_row_tie rfl ⟨rfl, rfl⟩ (by kernel_rfl) rfl
    (fun f fn hf hfn => by
      obtain rfl : f = 6 := Option.some.inj ((show Tryd.prog.funcNamed "drawlot/drawlotlaw11.FenOwns" = some 6 by kernel_rfl).symm.trans hf) |>.symm
      obtain rfl : fn = Tryd.f6 := (Option.some.inj (Tryd.func6.symm.trans hfn)).symm
      exact ⟨by kernel_rfl, fun j t ht => by
        rw [Tryd.params6] at ht
        have hm : t ∈ [22] := by simpa using Array.mem_of_getElem? ht
        have hall : ([22].all fun u => !Tryd.prog.wantsStandIn u) = true := by kernel_rfl
        exact (show Tryd.prog.wantsStandIn t = false by simpa using List.all_eq_true.1 hall t hm)⟩)
    (by kernel_rfl)
#print axioms fenOwns_holds
end Go.Proofs.YtdpjambejmlppaaDoor

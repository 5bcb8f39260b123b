/-
  What the reference's functions of stage 6 return (drawlotref06: Block, Bit, Bytes), and that they leave memory as it was.
  Conditions: the arguments lie in their types' ranges.
-/
import Derived.Test.YtdnjnbeoioicfaaDoorStrmA
import Derived.Test.YtdnjnbeoioicfaaDoorStrmM
import Derived.Deep.QuietTactic
import Derived.BigQuiet
set_option linter.unusedSimpArgs false
namespace Go.Proofs.YtdnjnbeoioicfaaDoor
open Go.ChangeShapes Go.WideShapes Go.ChangeAt Go.RowKit
set_option linter.unusedVariables false
theorem rput64s_c (x : Int) (h0 : 0 ≤ x) (h1 : x < 18446744073709551616) (w : World) : Calls Tryd.prog 21 #[.int .u64 x] w fun e w' => e = .returned (.agg (intsA .u8 (put8L x))) ∧ Below w.heap.size w w' :=
  (rput64_c x h0 h1 w).mono fun _ _ ⟨h, h2, _⟩ => ⟨h, h2⟩
set_option maxHeartbeats 4000000 in
theorem rblock_c (s : List Int) (d i : Int) (hl : s.length = 32) (hs : ∀ z ∈ s, 0 ≤ z ∧ z < 256) (d0 : 0 ≤ d) (d1 : d < 18446744073709551616) (i0 : 0 ≤ i) (i1 : i < 18446744073709551616) (w : World) :
    Calls Tryd.prog 9 #[.agg (intsA .u8 s), .int .u64 d, .int .u64 i] w fun e w' => e = .returned (.agg (intsA .u8 (blkL s d i))) ∧ Below w.heap.size w w' := by
  obtain ⟨ti, hti, hz0, hz1, hzb⟩ := info_parts info_u8'
  have HPD := Lib.hid (fun W => rput64s_c d d0 d1 W)
  have HPI := Lib.hid (fun W => rput64s_c i i0 i1 W)
  have hin := blkIn_in s d i hs d0 d1 i0 i1
  have hil := blkIn_len s d i hl
  have hxl : (put8L d).length = 8 := rfl
  have hyl : (put8L i).length = 8 := rfl
  have hrl := blkL_len s d i
  have hre : blkL s d i = shaL (blkIn s d i) := rfl
  have hie : blkIn s d i = s ++ put8L d ++ put8L i := rfl
  obtain ⟨X, hX⟩ : ∃ X, put8L d = X := ⟨_, rfl⟩
  obtain ⟨Y, hY⟩ : ∃ Y, put8L i = Y := ⟨_, rfl⟩
  obtain ⟨I, hI⟩ : ∃ I, blkIn s d i = I := ⟨_, rfl⟩
  obtain ⟨R, hR⟩ : ∃ R, blkL s d i = R := ⟨_, rfl⟩
  rw [hX] at HPD hxl hie
  rw [hY] at HPI hyl hie
  rw [hI] at hin hil hre hie
  rw [hR] at hrl hre ⊢
  have HS := Lib.hid (fun A c W h h' => rsum_c A c 48 I W h h' (by omega) hin)
  rw [← hre] at HS
  obtain ⟨Z, hZ⟩ : ∃ Z : List Int, List.replicate 32 0 = Z := ⟨_, rfl⟩
  obtain ⟨V, hV⟩ : ∃ V : List Int, List.replicate 8 0 = V := ⟨_, rfl⟩
  have HZ0 := Lib.hid zero_hash
  have HV0 := Lib.hid zero_b8s
  rw [hZ] at HZ0
  rw [hV] at HV0
  have hZl : Z.length = 32 := by rw [← hZ]; simp
  have hVl : V.length = 8 := by rw [← hV]; simp
  have SR := Lib.hid (show (Tryd.prog.info? 23).map (·.size) = some R.length by rw [hrl]; exact size_hash)
  have ZR := Lib.hid (show Z.length = R.length by rw [hrl, hZl])
  have SX := Lib.hid (show (Tryd.prog.info? 42).map (·.size) = some X.length by rw [hxl]; exact size_b8s)
  have SY := Lib.hid (show (Tryd.prog.info? 42).map (·.size) = some Y.length by rw [hyl]; exact size_b8s)
  have VX := Lib.hid (show V.length = X.length by rw [hxl, hVl])
  have VY := Lib.hid (show V.length = Y.length by rw [hyl, hVl])
  have HSL := Lib.hid hl
  have HXL := Lib.hid hxl
  have HYL := Lib.hid hyl
  have HIL := Lib.hid hil
  have HIE := Lib.hid hie
  have HSN := Lib.hid (fun (l : List Int) (j : Nat) (h : j < l.length) => take_snoc l j h)
  clear hin hil hxl hyl hrl hre hie hX hY hI hR hZ hV hZl hVl hl hs
  go_enter Tryd.func9, Tryd.ntmps9
  go_wp2_with (first
    | (with_reducible refine at_any ?_; refine at_dst 3 rfl ?_; refine wpList_box_ints rfl 23 (.tmp 0) rfl .u8 s rfl ?_; intro w1 hk1 hs1 hb1; have F1 := Lib.hid (Fx.box hk1.out hb1); clear hk1 hs1 hb1)
    | (with_reducible refine at_any ?_; refine at_dst 6 rfl ?_; refine wpList_alloc_ints rfl 23 rfl .u8 Z HZ0.out ?_; intro w2 hk2 hs2 hb2; have U1 := Lib.hid (Fx.under_new F1.out rfl); have F2 := Lib.hid (Fx.new F1.out hk2.out hb2); clear hk2 hs2 F1 hb2))
  have h3lt : w.heap.size < w1.heap.size := U1.out.1
  obtain ⟨g6, hg6⟩ : ∃ g, w1.heap.size = g := ⟨_, rfl⟩
  obtain ⟨g3, hg3⟩ : ∃ g, w.heap.size = g := ⟨_, rfl⟩
  have h0 : w.heap.size ≤ g3 := by omega
  rw [hg6, hg3] at F2 h3lt
  rw [hg6, hg3]
  clear hg6 hg3 U1
  go_loopw [7, 8] (fun v c wr => ∃ j : Nat, j ≤ 32 ∧ c = .int .i64 j ∧ OwnI wr w.heap.size 5 .u8 v (s.take j) ∧ Fx [.blk g6 23 (intsA .u8 Z), .blk g3 23 (intsA .u8 s), .bel w] wr) (fun _ c _ => 32 - (intOf c).toNat)
  case atStart => exact ⟨0, by omega, rfl, own_nil _ _ _, F2.out⟩
  case round =>
    clear F2
    obtain ⟨j, hj, rfl, hown, hF⟩ := hrel
    have hlen : (s.take j).length = j := by rw [List.length_take, HSL.out]; omega
    by_cases hlt : j < 32
    · have hsn := HSN.out s j (by rw [HSL.out]; exact hlt)
      have hc : wr.cell? ⟨g3, j, none⟩ = some (.int .u8 (s.getD j 0)) := (Fx.fst hF.2).cell (by rw [HSL.out]; exact hlt)
      obtain ⟨b, hb⟩ : ∃ b, s.getD j 0 = b := ⟨_, rfl⟩
      rw [hb] at hsn hc
      have HLN := Lib.hid hlen
      have HSNj := Lib.hid hsn
      have HOW := Lib.hid hown
      have HF := Lib.hid hF
      clear hb hsn hown hF hlen
      go_wp2_with (at_builtin; refine wpList_append_ints _ rfl (.tmp 17) (.tmp 21) 29 rfl w.heap.size 5 ti _ 1 .u8 Tryd.underlying29 hti hz0 hz1 hzb rfl _ (s.take j) rfl (HOW.out.alloc _) (wr.heap.size + 1) (some ⟨wr.heap.size, 0, none⟩) 1 1 [b] rfl (rd_one wr 5 .u8 b) (by rw [HLN.out]; simp [maxLen]; omega) (by rw [HLN.out]; omega) (by have := Below.size (Fx.bel3 HF.out); simp; omega) ?_; intro v6 w6 hown6 hg6 hat6; have F6 := Lib.hid (Fx.grown (Fx.alloc HF.out _) (HOW.out.alloc _) (Fx.free3 (by decide) (by decide)) (by have := Below.size (Fx.bel3 HF.out); simp; omega) hg6); rw [HSNj.out] at hown6; have O6 := Lib.hid hown6; clear hg6 hat6 hown6)
      go_roundw
      case rel => exact ⟨j + 1, by omega, by go_num, O6.out, F6.out⟩
      case measure => simp [intOf]; omega
    · obtain rfl : j = 32 := by omega
      rw [List.take_of_length_le (by rw [HSL.out]; exact Nat.le_refl _)] at hown
      have HOW := Lib.hid hown
      have HF := Lib.hid hF
      clear hown hF hlen
      go_wp2_with (first
        | (go_at_call 21; (with_reducible refine (HPD.out _).mono ?_); rintro e w3 ⟨rfl, hb3⟩; have F3 := Lib.hid (HF.out.below hb3); have O3 := Lib.hid (HOW.out.below hb3); clear HF HOW hb3)
        | (go_at_call 21; (with_reducible refine (HPI.out _).mono ?_); rintro e w4 ⟨rfl, hb4⟩; have F4 := Lib.hid (F3.out.below hb4); have O4 := Lib.hid (O3.out.below hb4); clear F3 O3 hb4)
        | (with_reducible refine at_any ?_; refine at_dst 9 rfl ?_; refine wpList_alloc_ints rfl 42 rfl .u8 V HV0.out ?_; intro w5 hk5 hs5 hb5; have U4 := Lib.hid (Fx.under_new F4.out rfl); have F5 := Lib.hid (Fx.new F4.out hk5.out hb5); have B5 := Lib.hid hb5; clear hk5 hs5 F4 hb5)
        | (with_reducible refine at_any ?_; refine at_dst 10 rfl ?_; refine wpList_alloc_ints rfl 42 rfl .u8 V HV0.out ?_; intro w6 hk6 hs6 hb6; have U5 := Lib.hid (Fx.under_new F5.out rfl); have F6 := Lib.hid (Fx.new F5.out hk6.out hb6); have B6 := Lib.hid (B5.out.trans (hb6.mono B5.out.size)); clear hk6 hs6 F5 hb6)
        | (with_reducible refine at_any ?_; refine at_store 9 rfl ?_; refine wpList_store_ints rfl 42 (.tmp 9) (.tmp 24) rfl w4.heap.size rfl 42 .u8 V X (Fx.snd F6.out) rfl VX.out SX.out ?_; intro w7 hk7 hs7 hb7 ho7; have F7 := Lib.hid (Fx.put2 F6.out U5.out U4.out hk7.out hs7.out hb7 ho7); have U7 := Lib.hid (Fx.under_put U5.out (intsA .u8 X)); have B7 := Lib.hid (B6.out.trans (hb7 _ (Nat.le_refl _))); clear hk7 hs7 hb7 ho7 F6 U5)
        | (with_reducible refine at_any ?_; refine at_store 10 rfl ?_; refine wpList_store_ints rfl 42 (.tmp 10) (.tmp 26) rfl w5.heap.size rfl 42 .u8 V Y (Fx.fst F7.out) rfl VY.out SY.out ?_; intro w8 hk8 hs8 hb8 ho8; have F8 := Lib.hid (Fx.put1 F7.out U7.out hk8.out hs8.out hb8 ho8); have O8 := Lib.hid (O4.out.below (B7.out.trans (hb8 _ B5.out.size))); clear hk8 hs8 hb8 ho8 F7))
      have hB : Blk4 w w5.heap.size w4.heap.size g6 g3 Y X Z s w8 := F8.out
      have h7 : w4.heap.size < w5.heap.size := U7.out.1
      have h6 : g6 < w4.heap.size := U4.out.1
      have HO := Lib.hid O8.out
      clear F8 U7 U4 O8 O4 B5 B6 B7
      obtain ⟨g10, hg10⟩ : ∃ g, w5.heap.size = g := ⟨_, rfl⟩
      obtain ⟨g9, hg9⟩ : ∃ g, w4.heap.size = g := ⟨_, rfl⟩
      rw [hg10, hg9] at hB
      rw [hg10, hg9] at h7
      rw [hg9] at h6
      rw [hg10, hg9]
      have HB := Lib.hid hB
      clear hg10 hg9 hB
      go_loopw [7, 11] (fun v c wr => ∃ j : Nat, j ≤ 8 ∧ c = .int .i64 j ∧ OwnI wr w.heap.size 5 .u8 v (s ++ X.take j) ∧ Blk4 w g10 g9 g6 g3 Y X Z s wr) (fun _ c _ => 8 - (intOf c).toNat)
      case atStart => exact ⟨0, by omega, rfl, by rw [List.take_zero, List.append_nil]; exact HO.out, HB.out⟩
      case round =>
        clear HO HB
        obtain ⟨j, hj, rfl, hown, hF⟩ := hrel
        have hlen : (s ++ X.take j).length = 32 + j := by rw [List.length_append, List.length_take, HXL.out]; rw [HSL.out]; omega
        by_cases hlt : j < 8
        · have hsn : s ++ X.take j ++ [X.getD j 0] = s ++ X.take (j + 1) := by rw [List.append_assoc, HSN.out X j (by rw [HXL.out]; exact hlt)]
          have hc : wr.cell? ⟨g9, j, none⟩ = some (.int .u8 (X.getD j 0)) := hF.c7.cell (by rw [HXL.out]; exact hlt)
          obtain ⟨b, hb⟩ : ∃ b, X.getD j 0 = b := ⟨_, rfl⟩
          rw [hb] at hsn hc
          have HLN := Lib.hid hlen
          have HSNj := Lib.hid hsn
          have HOW := Lib.hid hown
          have HF := Lib.hid hF
          clear hb hsn hown hF hlen
          go_wp2_with (at_builtin; refine wpList_append_ints _ rfl (.tmp 31) (.tmp 35) 29 rfl w.heap.size 5 ti _ 1 .u8 Tryd.underlying29 hti hz0 hz1 hzb rfl _ (s ++ X.take j) rfl (HOW.out.alloc _) (wr.heap.size + 1) (some ⟨wr.heap.size, 0, none⟩) 1 1 [b] rfl (rd_one wr 5 .u8 b) (by rw [HLN.out]; simp [maxLen]; omega) (by rw [HLN.out]; omega) (by have := Below.size HF.out.bel; simp; omega) ?_; intro v6 w6 hown6 hg6 hat6; have F6 := Lib.hid (Blk4.grown (HF.out.alloc _) (HOW.out.alloc _) (by have := Below.size HF.out.bel; simp; omega) hg6); rw [HSNj.out] at hown6; have O6 := Lib.hid hown6; clear hg6 hat6 hown6)
          go_roundw
          case rel => exact ⟨j + 1, by omega, by go_num, O6.out, F6.out⟩
          case measure => simp [intOf]; omega
        · obtain rfl : j = 8 := by omega
          rw [List.take_of_length_le (by rw [HXL.out]; exact Nat.le_refl _)] at hown
          have HB := Lib.hid hF
          have HO := Lib.hid hown
          clear hown hF hlen
          rw [show ((8 : Nat) : Int) = 8 from rfl]
          go_wp2
          go_loopw [7, 12] (fun v c wr => ∃ j : Nat, j ≤ 8 ∧ c = .int .i64 j ∧ OwnI wr w.heap.size 5 .u8 v ((s ++ X) ++ Y.take j) ∧ Blk4 w g10 g9 g6 g3 Y X Z s wr) (fun _ c _ => 8 - (intOf c).toNat)
          case atStart => exact ⟨0, by omega, rfl, by rw [List.take_zero, List.append_nil]; exact HO.out, HB.out⟩
          case round =>
            clear HO HB
            obtain ⟨j, hj, rfl, hown, hF⟩ := hrel
            have hlen : ((s ++ X) ++ Y.take j).length = 40 + j := by rw [List.length_append, List.length_take, HYL.out]; rw [List.length_append, HSL.out, HXL.out]; omega
            by_cases hlt : j < 8
            · have hsn : (s ++ X) ++ Y.take j ++ [Y.getD j 0] = (s ++ X) ++ Y.take (j + 1) := by rw [List.append_assoc, HSN.out Y j (by rw [HYL.out]; exact hlt)]
              have hc : wr.cell? ⟨g10, j, none⟩ = some (.int .u8 (Y.getD j 0)) := hF.c8.cell (by rw [HYL.out]; exact hlt)
              obtain ⟨b, hb⟩ : ∃ b, Y.getD j 0 = b := ⟨_, rfl⟩
              rw [hb] at hsn hc
              have HLN := Lib.hid hlen
              have HSNj := Lib.hid hsn
              have HOW := Lib.hid hown
              have HF := Lib.hid hF
              clear hb hsn hown hF hlen
              go_wp2_with (at_builtin; refine wpList_append_ints _ rfl (.tmp 41) (.tmp 45) 29 rfl w.heap.size 5 ti _ 1 .u8 Tryd.underlying29 hti hz0 hz1 hzb rfl _ ((s ++ X) ++ Y.take j) rfl (HOW.out.alloc _) (wr.heap.size + 1) (some ⟨wr.heap.size, 0, none⟩) 1 1 [b] rfl (rd_one wr 5 .u8 b) (by rw [HLN.out]; simp [maxLen]; omega) (by rw [HLN.out]; omega) (by have := Below.size HF.out.bel; simp; omega) ?_; intro v6 w6 hown6 hg6 hat6; have F6 := Lib.hid (Blk4.grown (HF.out.alloc _) (HOW.out.alloc _) (by have := Below.size HF.out.bel; simp; omega) hg6); rw [HSNj.out] at hown6; have O6 := Lib.hid hown6; clear hg6 hat6 hown6)
              go_roundw
              case rel => exact ⟨j + 1, by omega, by go_num, O6.out, F6.out⟩
              case measure => simp [intOf]; omega
            · obtain rfl : j = 8 := by omega
              rw [List.take_of_length_le (by rw [HYL.out]; exact Nat.le_refl _)] at hown
              obtain ⟨A7, c7, rfl, hc7, _⟩ := hown.form
              rw [← HIE.out, HIL.out] at hc7
              rw [← HIE.out] at hown
              rw [← HIE.out, HIL.out]
              have HB := Lib.hid hF
              have hr7 := hown.rd rfl
              rw [HIL.out] at hr7
              have HR7 := Lib.hid hr7
              have HC7 := Lib.hid hc7
              clear hown hF hlen hc7 hr7
              go_wp2_with (first
                | (go_at_call 18; (with_reducible refine (HS.out A7 c7 _ HR7.out HC7.out).mono ?_); rintro e w9 ⟨rfl, hb9⟩; have HB9 := Lib.hid (HB.out.below hb9); clear hb9)
                | (with_reducible refine at_any ?_; refine at_store 6 rfl ?_; refine wpList_store_ints rfl 23 (.tmp 6) (.tmp 48) rfl g6 rfl 23 .u8 Z R HB9.out.c6 rfl ZR.out SR.out ?_; intro w11 hk11 hs11 hb11 ho11; have HB11 := Lib.hid (HB9.out.put6 h6 h7 h3lt h0 hk11.out hs11.out hb11 ho11))
                | (refine bodyPost_cell 6 23 rfl g6 rfl 23 .u8 R HB11.out.c6 _ Tryd.underlying23 rfl SR.out rfl ?_))
              exact HB11.out.bel
set_option maxHeartbeats 2000000 in
theorem rbit_c (s : List Int) (d n : Int) (hl : s.length = 32) (hs : ∀ z ∈ s, 0 ≤ z ∧ z < 256) (d0 : 0 ≤ d) (d1 : d < 18446744073709551616) (n0 : 0 ≤ n) (n1 : n < 18446744073709551616) (w : World) :
    Calls Tryd.prog 11 #[.agg (intsA .u8 s), .int .u64 d, .int .u64 n] w fun e w' => e = .returned (.int .u64 (bitN s d n)) ∧ Below w.heap.size w w' := by
  have HB := Lib.hid (fun W => rblock_c s d (n / 256) hl hs d0 d1 (by omega) (by omega) W)
  have hRl := blkL_len s d (n / 256)
  obtain ⟨R, hR⟩ : ∃ R, blkL s d (n / 256) = R := ⟨_, rfl⟩
  rw [hR] at HB hRl
  have hj : (n % 256 / 8).toNat < 32 := by omega
  have e1 : n % 256 / 8 = (((n % 256 / 8).toNat : Nat) : Int) := by omega
  have hb := bytN_in s d (n / 256) (n % 256 / 8).toNat
  have hbe : R.getD (n % 256 / 8).toNat 0 = bytN s d (n / 256) (n % 256 / 8).toNat := by unfold bytN; rw [hR]
  have e2 : 7 - n % 8 = (((7 - n % 8).toNat : Nat) : Int) := by omega
  have hq : (7 - n % 8).toNat ≤ 7 := by omega
  have hres : bitN s d n = bytN s d (n / 256) (n % 256 / 8).toNat / 2 ^ (7 - n % 8).toNat % 2 := rfl
  obtain ⟨j, hjj⟩ : ∃ j, (n % 256 / 8).toNat = j := ⟨_, rfl⟩
  obtain ⟨q, hqq⟩ : ∃ q, (7 - n % 8).toNat = q := ⟨_, rfl⟩
  rw [hjj] at hj e1 hb hbe hres
  rw [hqq] at e2 hq hres
  obtain ⟨b, hbb⟩ : ∃ b, bytN s d (n / 256) j = b := ⟨_, rfl⟩
  rw [hbb] at hb hbe hres
  have HC := Lib.hid (fun (W : World) g (h : BlkI W g 23 .u8 R) => (show W.cell? ⟨g, j, none⟩ = some (.int .u8 b) by rw [h.cell (by omega), hbe]))
  have p0 := Wd.pow_pos2 q
  have p1 := pow2_lt q (by omega)
  have HP := Lib.hid (fun W => rpow_c q (by omega) W)
  obtain ⟨p, hp⟩ : ∃ p : Int, 2 ^ q = p := ⟨_, rfl⟩
  rw [hp] at p0 p1 HP hres
  have p2 : (p == 0) = false := by rw [beq_eq_false_iff_ne]; omega
  have h2 : 0 ≤ b / p := Int.ediv_nonneg hb.1 (by omega)
  have h3 : b / p < 256 := by have := Int.ediv_le_self p hb.1; omega
  have HRES := Lib.hid hres
  have SS := Lib.hid (show (Tryd.prog.info? 23).map (·.size) = some s.length by rw [hl]; exact size_hash)
  have SR := Lib.hid (show (Tryd.prog.info? 23).map (·.size) = some R.length by rw [hRl]; exact size_hash)
  obtain ⟨Z, hZ⟩ : ∃ Z : List Int, List.replicate 32 0 = Z := ⟨_, rfl⟩
  have HZ0 := Lib.hid zero_hash
  rw [hZ] at HZ0
  have ZR := Lib.hid (show Z.length = R.length by rw [hRl, ← hZ]; simp)
  obtain ⟨hb0, hb1⟩ := hb
  clear hZ hres hbb hbe hRl hR hl hs hp
  go_enter Tryd.func11, Tryd.ntmps11
  go_wp2_with (first
    | (with_reducible refine at_any ?_; refine at_dst 3 rfl ?_; refine wpList_box_ints rfl 23 (.tmp 0) rfl .u8 s rfl ?_; intro w1 hk1 hs1 hb1; have F1 := Lib.hid (Fx.box hk1.out hb1); clear hk1 hs1 hb1)
    | (with_reducible refine at_any ?_; refine at_dst 8 rfl ?_; refine wpList_load_ints rfl 23 (.tmp 3) rfl w.heap.size rfl 23 .u8 s (Fx.fst F1.out) _ Tryd.underlying23 rfl SS.out ?_)
    | (go_at_call 9; (with_reducible refine (HB.out _).mono ?_); rintro e w3 ⟨rfl, hb3⟩; have F3 := Lib.hid (F1.out.below hb3); clear F1 hb3)
    | (with_reducible refine at_any ?_; refine at_dst 7 rfl ?_; refine wpList_alloc_ints rfl 23 rfl .u8 Z HZ0.out ?_; intro w4 hk4 hs4 hb4; have U3 := Lib.hid (Fx.under_new F3.out rfl); have F4 := Lib.hid (Fx.new F3.out hk4.out hb4); clear hk4 hs4 F3 hb4)
    | (with_reducible refine at_any ?_; refine at_store 7 rfl ?_; refine wpList_store_ints rfl 23 (.tmp 7) (.tmp 12) rfl w3.heap.size rfl 23 .u8 Z R (Fx.fst F4.out) rfl ZR.out SR.out ?_; intro w5 hk5 hs5 hb5 ho5; have F5 := Lib.hid (Fx.put1 F4.out U3.out hk5.out hs5.out hb5 ho5); have cj := HC.out _ _ (Fx.fst F5.out); clear hk5 hs5 hb5 ho5 F4))
  have hlt : ((j : Nat) : Int) < 32 := by omega
  have t1 : n.tmod 256 = n % 256 := Int.tmod_eq_emod_of_nonneg n0
  have t2 : n.tmod 8 = n % 8 := Int.tmod_eq_emod_of_nonneg n0
  have t3 : (n % 256).tdiv 8 = n % 256 / 8 := Int.tdiv_eq_ediv_of_nonneg (by omega)
  have t4 : b.tdiv p = b / p := Int.tdiv_eq_ediv_of_nonneg hb0
  have t5 : (b / p).tmod 2 = b / p % 2 := Int.tmod_eq_emod_of_nonneg h2
  have e3 : IntKind.u64.wrap ((n.tmod 256).tdiv 8) = (j : Int) := by rw [t1, t3, e1, IntKind.wrap_u64]; omega
  have e4 : IntKind.u64.wrap (7 - n.tmod 8) = (q : Int) := by rw [t2, e2, IntKind.wrap_u64]; omega
  have e5 : IntKind.u64.wrap (b.tdiv p) = b / p := by rw [t4, IntKind.wrap_u64]; omega
  have e6 : IntKind.u64.wrap b = b := by rw [IntKind.wrap_u64]; omega
  have p3 : p ≠ 0 := by omega
  clear t1 t2 t3 t4
  go_quiet (first | (go_at_call 22; refine Calls.quiet_of_same (HP.out _)))
  go_wp2
  go_ret
  exact ⟨ret_int HRES.out.symm, below_drewN (Fx.bel3 F5.out) _⟩
theorem rbytes_no (s : List Int) (d n : Int) (hl : s.length = 32) (n0 : -9223372036854775808 ≤ n) (n1 : n ≤ 9223372036854775807) (hn : n < 0 ∨ 4096 < n) (w : World) :
    Calls Tryd.prog 13 #[.agg (intsA .u8 s), .int .u64 d, .int .i64 n] w fun e w' => e = .returned (.slice none 0 0) ∧ Below w.heap.size w w' := by
  by_cases h : n < 0
  · go_enter Tryd.func13, Tryd.ntmps13
    go_wp2_with (with_reducible refine at_any ?_; refine at_dst 3 rfl ?_; refine wpList_box_ints rfl 23 (.tmp 0) rfl .u8 s rfl ?_; intro w1 hk1 hs1 hb1)
    go_ret
    exact ⟨rfl, hb1⟩
  · have h2 : 4096 < n := by omega
    go_enter Tryd.func13, Tryd.ntmps13
    go_wp2_with (with_reducible refine at_any ?_; refine at_dst 3 rfl ?_; refine wpList_box_ints rfl 23 (.tmp 0) rfl .u8 s rfl ?_; intro w1 hk1 hs1 hb1)
    go_ret
    exact ⟨rfl, hb1⟩
def RetBr (w : World) (zs : List Int) (n : Nat) (e : Ending) (w' : World) : Prop := ∃ A c, e = .returned (.slice A n c) ∧ n ≤ c ∧ c ≤ maxLen ∧ Rd .u8 w' w'.heap.size A n zs ∧ Below w.heap.size w w'
set_option maxHeartbeats 4000000 in
theorem rbytes_c (s : List Int) (d : Int) (n : Nat) (hl : s.length = 32) (hs : ∀ z ∈ s, 0 ≤ z ∧ z < 256) (d0 : 0 ≤ d) (d1 : d < 18446744073709551616) (hn : n ≤ 4096) (w : World) :
    Calls Tryd.prog 13 #[.agg (intsA .u8 s), .int .u64 d, .int .i64 n] w (RetBr w (bytL s d n) n) := by
  obtain ⟨ti, hti, hz0, hz1, hzb⟩ := info_parts info_u8'
  have HB := Lib.hid (fun (i : Nat) (h : i < n) W => rblock_c s d (i : Int) hl hs d0 d1 (by omega) (by omega) W)
  have HLB := Lib.hid (fun i : Nat => blkL_len s d (i : Int))
  have HNX := Lib.hid (fun (i k : Nat) (h : k < 32) => bytL_next s d i k h)
  have HBL := Lib.hid (fun i : Nat => bytL_len s d i)
  have SS := Lib.hid (show (Tryd.prog.info? 23).map (·.size) = some s.length by rw [hl]; exact size_hash)
  have SH := Lib.hid size_hash
  obtain ⟨Z, hZ⟩ : ∃ Z : List Int, List.replicate 32 0 = Z := ⟨_, rfl⟩
  have HZ0 := Lib.hid zero_hash
  rw [hZ] at HZ0
  have HZL := Lib.hid (show Z.length = 32 by rw [← hZ]; simp)
  clear hZ hl hs
  go_enter Tryd.func13, Tryd.ntmps13
  go_wp2_with (with_reducible refine at_any ?_; refine at_dst 3 rfl ?_; refine wpList_box_ints rfl 23 (.tmp 0) rfl .u8 s rfl ?_; intro w1 hk1 hs1 hb1; have F1 := Lib.hid (Fx.box hk1.out hb1); clear hk1 hs1 hb1)
  go_loopw [7, 8] (fun v c wr => ∃ i m : Nat, m = min (32 * i) n ∧ 32 * i < n + 32 ∧ c = .int .i64 i ∧ OwnI wr w.heap.size 5 .u8 v (bytL s d m) ∧ Fx [.blk w.heap.size 23 (intsA .u8 s), .bel w] wr) (fun _ c _ => n + 32 - 32 * (intOf c).toNat)
  case atStart => exact ⟨0, 0, by omega, by omega, rfl, own_nil _ _ _, F1.out⟩
  case round =>
    clear F1
    obtain ⟨i, m, hm, hi, rfl, hown, hF⟩ := hrel
    obtain ⟨A1, c1, rfl, hc1, hc2⟩ := hown.form
    rw [HBL.out] at hc1 hown ⊢
    by_cases hlt : 32 * i < n
    · obtain rfl : m = 32 * i := by omega
      have hbl := HLB.out i
      have hnx := fun k (h : k < 32) => HNX.out i k h
      unfold bytN at hnx
      have HBi := Lib.hid (fun W => HB.out i (by omega) W)
      obtain ⟨R, hR⟩ : ∃ R, blkL s d (i : Int) = R := ⟨_, rfl⟩
      rw [hR] at hbl HBi hnx
      have HRL := Lib.hid hbl
      have HNXi := Lib.hid hnx
      have ZR := Lib.hid (show Z.length = R.length by rw [hbl]; exact HZL.out)
      have SR := Lib.hid (show (Tryd.prog.info? 23).map (·.size) = some R.length by rw [hbl]; exact SH.out)
      have HOW := Lib.hid hown
      have HF := Lib.hid hF
      clear hnx hbl hR hown hF hm
      go_wp2_with (first
        | (with_reducible refine at_any ?_; refine at_dst 23 rfl ?_; refine wpList_load_ints rfl 23 (.tmp 3) rfl w.heap.size rfl 23 .u8 s (Fx.fst HF.out) _ Tryd.underlying23 rfl SS.out ?_)
        | (go_at_call 9; (with_reducible refine (HBi.out _).mono ?_); rintro e w3 ⟨rfl, hb3⟩; have F3 := Lib.hid (HF.out.below hb3); have O3 := Lib.hid (HOW.out.below hb3); clear hb3)
        | (with_reducible refine at_any ?_; refine at_dst 9 rfl ?_; refine wpList_alloc_ints rfl 23 rfl .u8 Z HZ0.out ?_; intro w4 hk4 hs4 hb4; have U3 := Lib.hid (Fx.under_new F3.out rfl); have F4 := Lib.hid (Fx.new F3.out hk4.out hb4); have B4 := Lib.hid hb4; clear hk4 hs4 F3 hb4)
        | (with_reducible refine at_any ?_; refine at_store 9 rfl ?_; refine wpList_store_ints rfl 23 (.tmp 9) (.tmp 27) rfl w3.heap.size rfl 23 .u8 Z R (Fx.fst F4.out) rfl ZR.out SR.out ?_; intro w5 hk5 hs5 hb5 ho5; have F5 := Lib.hid (Fx.put1 F4.out U3.out hk5.out hs5.out hb5 ho5); have O5 := Lib.hid (O3.out.below (B4.out.trans (hb5 _ (Nat.le_refl _)))); clear hk5 hs5 hb5 ho5 F4 O3 B4))
      obtain ⟨g9, hg9⟩ : ∃ g, w3.heap.size = g := ⟨_, rfl⟩
      rw [hg9] at F5
      rw [hg9]
      clear hg9 U3 HOW HF
      go_loopw [7, 10] (fun v c wr => ∃ k : Nat, k ≤ 32 ∧ 32 * i + k ≤ n ∧ c = .int .i64 k ∧ OwnI wr w.heap.size 5 .u8 v (bytL s d (32 * i + k)) ∧ Fx [.blk g9 23 (intsA .u8 R), .blk w.heap.size 23 (intsA .u8 s), .bel w] wr) (fun _ c _ => 32 - (intOf c).toNat)
      case atStart => exact ⟨0, by omega, by omega, rfl, O5.out, F5.out⟩
      case round =>
        clear O5 F5
        obtain ⟨k, hk, hkn, rfl, hown, hF⟩ := hrel
        obtain ⟨A2, c2, rfl, hc3, hc4⟩ := hown.form
        rw [HBL.out] at hc3 hown ⊢
        have HOW := Lib.hid hown
        have HF := Lib.hid hF
        clear hown
        by_cases hmore : k < 32
        · by_cases hmore2 : 32 * i + k < n
          · have hc : wr.cell? ⟨g9, k, none⟩ = some (.int .u8 (R.getD k 0)) := (Fx.fst hF).cell (by rw [HRL.out]; exact hmore)
            have hsn := HNXi.out k hmore
            obtain ⟨b, hb⟩ : ∃ b, R.getD k 0 = b := ⟨_, rfl⟩
            rw [hb] at hsn hc
            have HSNj := Lib.hid hsn
            have HLN := Lib.hid (HBL.out (32 * i + k))
            have HLT := Lib.hid hmore2
            have cl : ((32 * i + k : Nat) : Int) < (n : Int) := by omega
            clear hb hsn hF
            go_wp2_with (at_builtin; refine wpList_append_ints _ rfl (.tmp 38) (.tmp 42) 29 rfl w.heap.size 5 ti _ 1 .u8 Tryd.underlying29 hti hz0 hz1 hzb rfl _ (bytL s d (32 * i + k)) rfl (HOW.out.alloc _) (wr.heap.size + 1) (some ⟨wr.heap.size, 0, none⟩) 1 1 [b] rfl (rd_one wr 5 .u8 b) (by rw [HLN.out]; simp [maxLen]; omega) (by rw [HLN.out]; omega) (by have := Below.size (Fx.bel3 HF.out); simp; omega) ?_; intro v6 w6 hown6 hg6 hat6; have F6 := Lib.hid (Fx.grown (Fx.alloc HF.out _) (HOW.out.alloc _) (Fx.free3 (by decide) (by decide)) (by have := Below.size (Fx.bel3 HF.out); simp; omega) hg6); rw [HSNj.out] at hown6; have O6 := Lib.hid hown6; clear hg6 hat6 hown6)
            go_roundw
            case rel => exact ⟨k + 1, by omega, by have := HLT.out; omega, by go_num, O6.out, F6.out⟩
            case measure => simp [intOf]; omega
          · have hm : ¬ ((32 * i + k : Nat) : Int) < (n : Int) := by omega
            have hmin : Hid (32 * i + k = min (32 * (i + 1)) n) := Lib.hid (by omega)
            clear hF
            go_wp2
            go_roundw
            case rel => exact ⟨i + 1, 32 * i + k, hmin.out, by omega, by go_num, HOW.out, Fx.tl HF.out⟩
            case measure => simp [intOf]; omega
        · obtain rfl : k = 32 := by omega
          have hmin : Hid (32 * i + 32 = min (32 * (i + 1)) n) := Lib.hid (by omega)
          clear hF
          go_wp2
          go_roundw
          case rel => exact ⟨i + 1, 32 * i + 32, hmin.out, by omega, by go_num, HOW.out, Fx.tl HF.out⟩
          case measure => simp [intOf]; omega
    · obtain rfl : m = n := by omega
      have HOW := Lib.hid hown
      have HF := Lib.hid hF
      clear hown hF hm
      go_wp2
      go_ret
      exact ⟨A1, c1, rfl, hc1, hc2, HOW.out.rd (HBL.out _), Fx.bel2 HF.out⟩
end Go.Proofs.YtdnjnbeoioicfaaDoor

/-
  What the program's nat returns: Cmp and Sub.
  Conditions: limbs lie in their type's range.
-/
import Derived.Test.YtoimepmignlmkaaDoorNatE
set_option maxRecDepth 100000
set_option linter.unusedSimpArgs false
namespace Go.Proofs.YtoimepmignlmkaaDoor
open Go.ChangeShapes Go.WideShapes Go.ChangeAt Go.RowKit
set_option linter.unusedVariables false
/-- Two cells of memory, and nothing that was there has turned. -/
def TwoC (w : World) (b1 o1 b2 o2 : Nat) (x y : Int) (W : World) : Prop := W.cell? ⟨b1, o1, none⟩ = some (.int .u32 x) ∧ W.cell? ⟨b2, o2, none⟩ = some (.int .u32 y) ∧ Below w.heap.size w W
theorem TwoC.drew {w W : World} {b1 o1 b2 o2 : Nat} {x y : Int} (h : TwoC w b1 o1 b2 o2 x y W) : TwoC w b1 o1 b2 o2 x y W.drew := ⟨h.1, h.2.1, h.2.2.trans ((Below.refl _ _).drew)⟩
set_option maxHeartbeats 4000000 in
theorem q10cmp_c (xs ys : List Int) (hx : Lim xs) (hy : Lim ys) (A B : Option Addr) (n m c d : Nat) (hn : n ≤ maxLen) (hm : m ≤ maxLen) (w : World) (hra : Rd .u32 w w.heap.size A n xs) (hrb : Rd .u32 w w.heap.size B m ys) : Calls Tryd.prog 19 #[.slice A n c, .slice B m d] w fun e w' => e = .returned (.int .i64 (cmpR xs ys)) ∧ Below w.heap.size w w' := by
  have hr1 := fun W h => q10right_c xs A n c hn W h
  have hr2 := fun W h => q10right_c ys B m d hm W h
  have HRA := Lib.hid hra
  have HRB := Lib.hid hrb
  have hla := hra.len
  have hlb := hrb.len
  have hnI : (n : Int) ≤ 9223372036854775807 := by unfold maxLen at hn; omega
  have hmI : (m : Int) ≤ 9223372036854775807 := by unfold maxLen at hm; omega
  cases h1 : rightN xs with
  | false =>
    have e1 : cmpR xs ys = 0 := by unfold cmpR; rw [h1]; rfl
    rw [h1] at hr1
    rw [e1]
    have HR1 := Lib.hid hr1
    clear hr1 hr2 h1 e1 hra hrb hn hm
    go_enter Tryd.func19, Tryd.ntmps19
    go_wp2_with (first
      | (go_at_call 22; (with_reducible refine (HR1.out _ HRA.out).mono ?_); rintro e _ ⟨rfl, rfl⟩))
    go_ret
    exact ⟨rfl, Below.refl _ _⟩
  | true =>
    rw [h1] at hr1
    have HR1 := Lib.hid hr1
    cases h2 : rightN ys with
    | false =>
      have e1 : cmpR xs ys = 0 := by unfold cmpR; rw [h1, h2]; rfl
      rw [h2] at hr2
      rw [e1]
      have HR2 := Lib.hid hr2
      clear hr1 hr2 h1 h2 e1 hra hrb hn hm
      go_enter Tryd.func19, Tryd.ntmps19
      go_wp2_with (first
        | (go_at_call 22; (with_reducible refine (HR1.out _ HRA.out).mono ?_); rintro e _ ⟨rfl, rfl⟩)
        | (go_at_call 22; (with_reducible refine (HR2.out _ HRB.out).mono ?_); rintro e _ ⟨rfl, rfl⟩))
      go_ret
      exact ⟨rfl, Below.refl _ _⟩
    | true =>
      have e1 : cmpR xs ys = if valL xs < valL ys then -1 else if valL ys < valL xs then 1 else 0 := by unfold cmpR; rw [h1, h2]; rfl
      rw [h2] at hr2
      have HR2 := Lib.hid hr2
      have HE1 := Lib.hid e1
      by_cases hl : n = m
      · subst hl
        have t1 : ((n : Int) != (n : Int)) = false := by simp
        have HL := Lib.hid (fun i (h : i < n) hd hlt => cmp_less hx hy (i := i) (by omega) (by omega) hd hlt)
        have HG := Lib.hid (fun i (h : i < n) hd hlt => cmp_less hy hx (i := i) (by omega) (by omega) hd hlt)
        have HDX := Lib.hid (fun i (h : i < n) => show xs.drop i = xs.getD i 0 :: xs.drop (i + 1) by rw [List.drop_eq_getElem_cons (by omega), List.getD_eq_getElem?_getD, List.getElem?_eq_getElem (by omega)]; rfl)
        have HDY := Lib.hid (fun i (h : i < n) => show ys.drop i = ys.getD i 0 :: ys.drop (i + 1) by rw [List.drop_eq_getElem_cons (by omega), List.getD_eq_getElem?_getD, List.getElem?_eq_getElem (by omega)]; rfl)
        have hend : xs.drop n = ys.drop n := by rw [List.drop_eq_nil_of_le (by omega), List.drop_eq_nil_of_le (by omega)]
        have HEND := Lib.hid hend
        clear hr1 hr2 h1 h2 e1 hra hrb hn hm hx hy hend
        go_enter Tryd.func19, Tryd.ntmps19
        go_wp2_with (first
          | (go_at_call 22; (with_reducible refine (HR1.out _ HRA.out).mono ?_); rintro e _ ⟨rfl, rfl⟩)
          | (go_at_call 22; (with_reducible refine (HR2.out _ HRB.out).mono ?_); rintro e _ ⟨rfl, rfl⟩))
        go_loopw [5] (fun ii wr => ∃ j : Nat, j ≤ n ∧ ii = .int .i64 ((j : Int) - 1) ∧ xs.drop j = ys.drop j ∧ Below w.heap.size w wr) (fun ii _ => (intOf ii + 1).toNat)
        case atStart => exact ⟨n, Nat.le_refl _, by go_num, HEND.out, Below.refl _ _⟩
        case round =>
          obtain ⟨j, hj, rfl, hd, hbl⟩ := hrel
          rcases j with _ | i
          · have hxy : xs = ys := by rw [List.drop_zero, List.drop_zero] at hd; exact hd
            have HE2 : Hid (cmpR xs ys = 0) := Lib.hid (by rw [HE1.out, hxy, if_neg (by omega), if_neg (by omega)])
            have HBL := Lib.hid hbl
            clear hd hbl hxy
            rw [show ((0 : Nat) : Int) - 1 = -1 from rfl]
            go_wp2
            go_ret
            rw [HE2.out]
            exact ⟨rfl, HBL.out⟩
          · have hin : i < n := by omega
            rw [show ((i + 1 : Nat) : Int) - 1 = (i : Int) by omega]
            obtain ⟨b1, o1, rfl, _, hc1⟩ := (HRA.out.below hbl).at_ (by omega)
            obtain ⟨b2, o2, rfl, _, hc2⟩ := (HRB.out.below hbl).at_ (by omega)
            have hk1 := hc1 i hin
            have hk2 := hc2 i hin
            have hlt := HL.out i hin hd
            have hgt := HG.out i hin hd.symm
            have hdx := HDX.out i hin
            have hdy := HDY.out i hin
            obtain ⟨x, hx⟩ : ∃ x, xs.getD i 0 = x := ⟨_, rfl⟩
            obtain ⟨y, hy⟩ : ∃ y, ys.getD i 0 = y := ⟨_, rfl⟩
            rw [hx] at hk1 hlt hgt hdx
            rw [hy] at hk2 hlt hgt hdy
            have i0 : (0 : Int) ≤ (i : Int) := by omega
            have i1 : (i : Int) < (n : Int) := by omega
            have HIN := Lib.hid i1
            have HBL := Lib.hid hbl
            by_cases hxy : x = y
            · subst hxy
              have t2 : (x != x) = false := by simp
              have HD := Lib.hid (show xs.drop i = ys.drop i by rw [hdx, hdy, hd])
              clear hc1 hc2 hlt hgt hdx hdy hx hy hd hbl
              go_wp2
              go_quiet (fail)
              go_wp2
              go_roundw
              case rel => exact ⟨i, by omega, by go_num, HD.out, below_drewN HBL.out _⟩
              case measure => simp [intOf]
            · have HE2 : Hid (cmpR xs ys = cmpI x y) := Lib.hid (by
                rw [HE1.out]
                by_cases h : x < y
                · rw [if_pos (hlt h), cmpI_lt h]
                · have h' : y < x := by omega
                  have := hgt h'
                  rw [if_neg (by omega), if_pos this, cmpI_gt h'])
              have t2 : (x != y) = true := by simp [bne, hxy]
              have HCMP := Lib.hid (fun W => cmpu32_c x y hxy W)
              have HC0 : Hid (∀ k, TwoC w b1 (o1 + i) b2 (o2 + i) x y (wr.drewN k)) := Lib.hid (fun k => ⟨hk1, hk2, below_drewN hbl k⟩)
              clear hc1 hc2 hlt hgt hdx hdy hx hy hd hbl hxy
              go_wp2
              go_quiet (fail)
              go_wp2
              refine wp_region_held_drew (S := (TwoC w b1 (o1 + i) b2 (o2 + i) x y)) (by kernel_rfl) ((HC0.out _).drew) (fun hH => ?_)
              refine wpAnyH_letter #[false, false, false, false, false, false, false, false, false, false] (by kernel_rfl) (fun _ _ d _ _ h => by cases d <;> exact h) (fun QL HQ1 HQ2 => ?_)
              refine held_v 0 (some 40) rfl (by kernel_rfl) (by kernel_rfl) (by kernel_rfl) (by kernel_rfl) (fun c a v w h => HQ2.out c a _ v w h) (by kernel_rfl) (.slice (some ⟨b1, o1, none⟩) n c) (fun W h => by kernel_rfl) hH ?_
              try simp only [Act.put, List.setIfInBounds_toArray, List.set_cons_zero, List.set_cons_succ]
              refine held_v 1 (some 41) rfl (by kernel_rfl) (by kernel_rfl) (by kernel_rfl) (by kernel_rfl) (fun c a v w h => HQ2.out c a _ v w h) (by kernel_rfl) (.int .i64 (i : Int)) (fun W h => by kernel_rfl) hH ?_
              try simp only [Act.put, List.setIfInBounds_toArray, List.set_cons_zero, List.set_cons_succ]
              refine held_v 2 (some 42) rfl (by kernel_rfl) (by kernel_rfl) (by kernel_rfl) (by kernel_rfl) (fun c a v w h => HQ2.out c a _ v w h) (by kernel_rfl) (.pointer (some ⟨b1, o1 + i, none⟩)) (fun W h => by have p := HIN.out; go_simp) hH ?_
              try simp only [Act.put, List.setIfInBounds_toArray, List.set_cons_zero, List.set_cons_succ]
              refine held_v 3 (some 43) rfl (by kernel_rfl) (by kernel_rfl) (by kernel_rfl) (by kernel_rfl) (fun c a v w h => HQ2.out c a _ v w h) (by kernel_rfl) (.int .u32 x) (fun W h => by have p := h.1; go_simp) hH ?_
              try simp only [Act.put, List.setIfInBounds_toArray, List.set_cons_zero, List.set_cons_succ]
              refine held_v 4 (some 44) rfl (by kernel_rfl) (by kernel_rfl) (by kernel_rfl) (by kernel_rfl) (fun c a v w h => HQ2.out c a _ v w h) (by kernel_rfl) (.slice (some ⟨b2, o2, none⟩) n d) (fun W h => by kernel_rfl) hH ?_
              try simp only [Act.put, List.setIfInBounds_toArray, List.set_cons_zero, List.set_cons_succ]
              refine held_v 5 (some 45) rfl (by kernel_rfl) (by kernel_rfl) (by kernel_rfl) (by kernel_rfl) (fun c a v w h => HQ2.out c a _ v w h) (by kernel_rfl) (.int .i64 (i : Int)) (fun W h => by kernel_rfl) hH ?_
              try simp only [Act.put, List.setIfInBounds_toArray, List.set_cons_zero, List.set_cons_succ]
              refine held_v 6 (some 46) rfl (by kernel_rfl) (by kernel_rfl) (by kernel_rfl) (by kernel_rfl) (fun c a v w h => HQ2.out c a _ v w h) (by kernel_rfl) (.pointer (some ⟨b2, o2 + i, none⟩)) (fun W h => by have p := HIN.out; go_simp) hH ?_
              try simp only [Act.put, List.setIfInBounds_toArray, List.set_cons_zero, List.set_cons_succ]
              refine held_v 7 (some 47) rfl (by kernel_rfl) (by kernel_rfl) (by kernel_rfl) (by kernel_rfl) (fun c a v w h => HQ2.out c a _ v w h) (by kernel_rfl) (.int .u32 y) (fun W h => by have p := h.2.1; go_simp) hH ?_
              try simp only [Act.put, List.setIfInBounds_toArray, List.set_cons_zero, List.set_cons_succ]
              refine wpAnyH_ready (rs := [8]) (by kernel_rfl) (by decide) ?_
              refine AllReadyH.cons rfl (fun K hK => ?_) AllReadyH.nil
              refine step_call (some 48) (by kernel_rfl) (by kernel_rfl) _ _ (by kernel_rfl) _ (HCMP.out _) ?_
              rintro e _ ⟨rfl, rfl⟩
              refine ⟨_, rfl, ?_⟩
              refine hK.out _ _ hH (fun _ => ?_)
              clear hK K
              try simp only [Act.put, List.setIfInBounds_toArray, List.set_cons_zero, List.set_cons_succ]
              refine held_v 9 (some 4) rfl (by kernel_rfl) (by kernel_rfl) (by kernel_rfl) (by kernel_rfl) (fun c a v w h => HQ2.out c a _ v w h) (by kernel_rfl) (.int .i64 (cmpI x y)) (fun W h => by kernel_rfl) hH ?_
              try simp only [Act.put, List.setIfInBounds_toArray, List.set_cons_zero, List.set_cons_succ]
              refine wpAnyH_done (by kernel_rfl) ?_ _
              refine HQ1.out _ _ ?_
              clear HQ1 HQ2
              have HH := Lib.hid hH
              go_wp2
              go_ret
              rw [HE2.out]
              exact ⟨rfl, HH.out.2.2⟩
      · have t1 : ((n : Int) != (m : Int)) = true := by rw [bne_iff_ne]; omega
        have HE2 : Hid (cmpR xs ys = cmpI (n : Int) (m : Int)) := Lib.hid (by
          by_cases h : n < m
          · rw [e1, if_pos (len_less hx hy h2 (by omega)), cmpI_lt (by omega)]
          · have hv := len_less hy hx h1 (by omega)
            rw [e1, if_neg (by omega), if_pos hv, cmpI_gt (by omega)])
        have HCMP := Lib.hid (fun W => cmpint_c (n : Int) (m : Int) (by omega) W)
        rw [HE2.out]
        clear hr1 hr2 h1 h2 e1 hra hrb hn hm hx hy hl HE1
        go_enter Tryd.func19, Tryd.ntmps19
        go_wp2_with (first
          | (go_at_call 22; (with_reducible refine (HR1.out _ HRA.out).mono ?_); rintro e _ ⟨rfl, rfl⟩)
          | (go_at_call 22; (with_reducible refine (HR2.out _ HRB.out).mono ?_); rintro e _ ⟨rfl, rfl⟩)
          | (go_at_call 43; (with_reducible refine (HCMP.out _).mono ?_); rintro e _ ⟨rfl, rfl⟩))
        go_ret
        exact ⟨rfl, Below.refl _ _⟩
set_option maxHeartbeats 4000000 in
theorem q10sub_c (xs ys : List Int) (hx : Lim xs) (hy : Lim ys) (A B : Option Addr) (n m c d : Nat) (hn : n ≤ maxLen) (hm : m ≤ maxLen) (w : World) (hra : Rd .u32 w w.heap.size A n xs) (hrb : Rd .u32 w w.heap.size B m ys) : Calls Tryd.prog 15 #[.slice A n c, .slice B m d] w (RetNE w (subR xs ys)) := by
  have hr1 := fun W h => q10right_c xs A n c hn W h
  have hr2 := fun W h => q10right_c ys B m d hm W h
  have hcmp := fun W h h' => q10cmp_c xs ys hx hy A B n m c d hn hm W h h'
  have HRA := Lib.hid hra
  have HRB := Lib.hid hrb
  have hla := hra.len
  have hlb := hrb.len
  cases h1 : rightN xs with
  | false =>
    have e1 : subR xs ys = (1, []) := by unfold subR; rw [h1]; rfl
    rw [h1] at hr1
    rw [e1]
    have HR1 := Lib.hid hr1
    clear hr1 hr2 h1 e1 hra hrb hn hm hcmp
    go_enter Tryd.func15, Tryd.ntmps15
    go_wp2_with (first
      | (go_at_call 22; (with_reducible refine (HR1.out _ HRA.out).mono ?_); rintro e _ ⟨rfl, rfl⟩))
    go_ret2
    exact RetNE.nil 1 (Below.refl _ _)
  | true =>
    rw [h1] at hr1
    have HR1 := Lib.hid hr1
    cases h2 : rightN ys with
    | false =>
      have e1 : subR xs ys = (1, []) := by unfold subR; rw [h1, h2]; rfl
      rw [h2] at hr2
      rw [e1]
      have HR2 := Lib.hid hr2
      clear hr1 hr2 h1 h2 e1 hra hrb hn hm hcmp
      go_enter Tryd.func15, Tryd.ntmps15
      go_wp2_with (first
        | (go_at_call 22; (with_reducible refine (HR1.out _ HRA.out).mono ?_); rintro e _ ⟨rfl, rfl⟩)
        | (go_at_call 22; (with_reducible refine (HR2.out _ HRB.out).mono ?_); rintro e _ ⟨rfl, rfl⟩))
      go_ret2
      exact RetNE.nil 1 (Below.refl _ _)
    | true =>
      have e1 : subR xs ys = if valL xs < valL ys then (12, []) else (0, natL (valL xs - valL ys)) := by unfold subR; rw [h1, h2]; rfl
      have c1 : cmpR xs ys = if valL xs < valL ys then -1 else if valL ys < valL xs then 1 else 0 := by unfold cmpR; rw [h1, h2]; rfl
      rw [h2] at hr2
      have HR2 := Lib.hid hr2
      by_cases hv : valL xs < valL ys
      · rw [e1, if_pos hv]
        rw [c1, if_pos hv] at hcmp
        have HC := Lib.hid hcmp
        clear hr1 hr2 h1 h2 e1 c1 hra hrb hn hm hcmp hv
        go_enter Tryd.func15, Tryd.ntmps15
        go_wp2_with (first
          | (go_at_call 22; (with_reducible refine (HR1.out _ HRA.out).mono ?_); rintro e _ ⟨rfl, rfl⟩)
          | (go_at_call 22; (with_reducible refine (HR2.out _ HRB.out).mono ?_); rintro e _ ⟨rfl, rfl⟩)
          | (go_at_call 19; (with_reducible refine (HC.out _ HRA.out HRB.out).mono ?_); rintro e w3 ⟨rfl, hb3⟩; have HB3 := Lib.hid hb3; clear hb3))
        go_ret2
        exact RetNE.nil 12 HB3.out
      · rw [e1, if_neg hv]
        rw [c1, if_neg hv] at hcmp
        have hmn : m ≤ n := by
          rcases Nat.lt_or_ge n m with h | h
          · exact absurd (len_less hx hy h2 (by omega)) hv
          · exact h
        have hn256 : n ≤ 256 := by rw [← hla]; exact rightN_len h1
        obtain ⟨z, hz⟩ : ∃ z : Int, (if valL ys < valL xs then (1 : Int) else 0) = z := ⟨_, rfl⟩
        have hz0 : ¬ z < 0 := by rw [← hz]; split <;> omega
        rw [hz] at hcmp
        have HC := Lib.hid hcmp
        have hless := fun W h h' => q10less_c xs ys hx hy A B n m c d (by omega) hmn (by omega) W h h'
        have HLESS := Lib.hid hless
        obtain ⟨R, hR⟩ : ∃ R, natL (valL xs - valL ys) = R := ⟨_, rfl⟩
        rw [hR] at HLESS ⊢
        clear hr1 hr2 h1 h2 e1 c1 hra hrb hm hcmp hv hz hx hy hn hless hR
        go_enter Tryd.func15, Tryd.ntmps15
        go_wp2_with (first
          | (go_at_call 22; (with_reducible refine (HR1.out _ HRA.out).mono ?_); rintro e _ ⟨rfl, rfl⟩)
          | (go_at_call 22; (with_reducible refine (HR2.out _ HRB.out).mono ?_); rintro e _ ⟨rfl, rfl⟩)
          | (go_at_call 19; (with_reducible refine (HC.out _ HRA.out HRB.out).mono ?_); rintro e w3 ⟨rfl, hb3⟩; have HB3 := Lib.hid hb3; have HA3 := Lib.hid (HRA.out.below hb3).fit; have HD3 := Lib.hid (HRB.out.below hb3).fit; clear hb3)
          | (go_at_call 38; (with_reducible refine (HLESS.out _ HA3.out HD3.out).mono ?_); rintro e w4 ⟨A4, c4, rfl, hl4, hm4, hr4, hb4⟩; have HB4 := Lib.hid (HB3.out.trans (hb4.mono HB3.out.size)); have HL4 := Lib.hid hl4; have HM4 := Lib.hid hm4; have HR4 := Lib.hid hr4; clear hl4 hm4 hr4 hb4))
        go_ret2
        exact ⟨_, _, rfl, HL4.out, HM4.out, HR4.out, HB4.out⟩
end Go.Proofs.YtoimepmignlmkaaDoor

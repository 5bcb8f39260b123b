/-
  What drawlotref14 returns of a table: an owner, how many a place owns.
  Conditions: the numbers lie in their types' ranges; the cells read as pairs.
-/
import Derived.Test.YtkgajcifanobnaaRefZa
import Derived.BigQuiet
set_option maxRecDepth 100000
set_option linter.unusedVariables false
set_option linter.unusedSimpArgs false
namespace Go.Proofs.Ytkgajcifanobnaa
open Go.ChangeShapes Go.WideShapes Go.ChangeAt Go.RowKit
theorem under_tab : Try.prog.underlying 27 = Try.prog.underlying 27 := rfl
theorem size_tab : (Try.prog.info? 27).map (·.size) = some 2 := by kernel_rfl
section
variable (T : Int) (T0 : 0 ≤ T) (T1 : T < 18446744073709551616) (ts : List (Int × Int)) (hts : PrOk ts) (A : Option Addr) (n c : Nat) (hn : n ≤ maxLen) (w : World) (hrd : RdPr .u64 .i64 w w.heap.size A n ts)
include T0 T1 hts hn hrd
set_option maxHeartbeats 4000000 in
theorem r14owner_c (u : Int) (u0 : 0 ≤ u) (u1 : u < 18446744073709551616) : Calls Try.prog 16 #[.agg #[.int .u64 T, .slice A n c], .int .u64 u] w fun e w' => e = .returned (.tuple #[.int .i64 (owV T ts u), .int .i64 (owE T ts u)]) ∧ Below w.heap.size w w' := by
  have hlen := hrd.len
  have HC := Lib.hid (fun W h => r14right_c T T0 T1 ts hts A n c hn W h)
  have HZ := Lib.hid (fun W h => r14size_c T T0 T1 ts hts A n c hn W h)
  have HR := Lib.hid hrd
  have HS := Lib.hid (TbS.new w T A n c)
  cases hr : tabR T ts
  · rw [hr] at HC
    have HE := Lib.hid (ow_no (T := T) (u := u) hr)
    clear hrd hts hr
    go_enter Try.func16, Try.ntmps16
    go_wp2_with (first
      | (go_at_call 20; (with_reducible refine (HC.out _ (HS.out.pr HR.out)).mono ?_); rintro e w1 ⟨rfl, hb1⟩; have HS1 := Lib.hid (HS.out.below hb1); have c0 := HS1.out.c0; have c1 := HS1.out.c1))
    go_ret2
    exact ⟨ret_iiT HE.out.2.symm HE.out.1.symm, HS1.out.bel⟩
  rw [hr] at HC
  have hz : tabZ T ts = (ts.length : Int) * T := by unfold tabZ; rw [if_pos hr]
  rw [hz] at HZ
  by_cases hu : u < (ts.length : Int) * T
  · obtain ⟨h1, h2, h3, q0, q1, r0, r1⟩ := ow_ok hr u0 hu
    have hT := (tabR_iff.1 hr).2.1
    have HL := Lib.hid (fun W h => r14lookup_c T T0 T1 ts hts A n c hn W h (u / T) (u % T) (by omega) (by unfold maxLen at hn; omega) r0 (by omega))
    have hnz : (0 : Int) < T := hT
    have tN : T ≠ 0 := by omega
    have e1 : u.tdiv T = u / T := Int.tdiv_eq_ediv_of_nonneg u0
    have e2 : u.tmod T = u % T := Int.tmod_eq_emod_of_nonneg u0
    have HV : Hid (lkV T ts (u / T) (u % T) = owV T ts u ∧ lkE T ts (u / T) (u % T) = owE T ts u) := Lib.hid ⟨h2.symm, h3.trans h1.symm⟩
    obtain ⟨q, hq⟩ : ∃ q, u / T = q := ⟨_, rfl⟩
    obtain ⟨r, hr2⟩ : ∃ q, u % T = q := ⟨_, rfl⟩
    rw [hq, hr2] at HL HV
    rw [hq] at q0 q1 e1
    rw [hr2] at r0 r1 e2
    have e3 : IntKind.i64.wrap q = q := by rw [IntKind.wrap_i64]; unfold maxLen at hn; omega
    have e4 : IntKind.u64.wrap q = q := by rw [IntKind.wrap_u64]; unfold maxLen at hn; omega
    have e5 : IntKind.u64.wrap r = r := by rw [IntKind.wrap_u64]; omega
    obtain ⟨Z, hZ⟩ : ∃ Z, (ts.length : Int) * T = Z := ⟨_, rfl⟩
    rw [hZ] at hu HZ
    clear hrd hts hr h1 h2 h3 hq hr2 hz hZ hn
    go_enter Try.func16, Try.ntmps16
    go_wp2_with (first
      | (go_at_call 20; (with_reducible refine (HC.out _ (HS.out.pr HR.out)).mono ?_); rintro e w1 ⟨rfl, hb1⟩; have HS1 := Lib.hid (HS.out.below hb1); have c0 := HS1.out.c0; have c1 := HS1.out.c1)
      | (go_at_call 22; (with_reducible refine (HZ.out _ (HS1.out.pr HR.out)).mono ?_); rintro e w2 ⟨rfl, hb2⟩; have HS2 := Lib.hid (HS1.out.below hb2); clear hb2 c0 c1))
    have hD := HS2.out.drew
    refine wp_region_held_drew (S := (TbS w w.heap.size T A n c)) (by kernel_rfl) hD (fun hH => ?_)
    refine wpAnyH_letter #[false, false, false, false, false, false, false, false, false, false, false, false, false, false, false] (by kernel_rfl) (fun _ _ d _ _ h => by cases d <;> exact h) (fun QL HQ1 HQ2 => ?_)
    refine held_row 0 (some 13) rfl (by kernel_rfl) (by kernel_rfl) (by kernel_rfl) (by kernel_rfl) (fun c a v w h => HQ2.out c a _ v w h) (by kernel_rfl) 27 (.tmp 2) rfl w.heap.size (by kernel_rfl) 27 #[.int .u64 T, .slice A n c] (fun _ h => h.b) _ Try.underlying27 rfl size_tab hD ?_
    try simp only [Act.put, List.setIfInBounds_toArray, List.set_cons_zero, List.set_cons_succ]
    refine held_v 1 (some 14) rfl (by kernel_rfl) (by kernel_rfl) (by kernel_rfl) (by kernel_rfl) (fun c a v w h => HQ2.out c a _ v w h) (by kernel_rfl) (.int .u64 u) (fun W h => by kernel_rfl) hD ?_
    try simp only [Act.put, List.setIfInBounds_toArray, List.set_cons_zero, List.set_cons_succ]
    refine held_v 2 (some 15) rfl (by kernel_rfl) (by kernel_rfl) (by kernel_rfl) (by kernel_rfl) (fun c a v w h => HQ2.out c a _ v w h) (by kernel_rfl) (.pointer (some ⟨w.heap.size, 0, none⟩)) (fun W h => by kernel_rfl) hD ?_
    try simp only [Act.put, List.setIfInBounds_toArray, List.set_cons_zero, List.set_cons_succ]
    refine held_v 3 (some 16) rfl (by kernel_rfl) (by kernel_rfl) (by kernel_rfl) (by kernel_rfl) (fun c a v w h => HQ2.out c a _ v w h) (by kernel_rfl) (.int .u64 T) (fun W h => by have p := h.c0; go_simp) hD ?_
    try simp only [Act.put, List.setIfInBounds_toArray, List.set_cons_zero, List.set_cons_succ]
    refine held_v 4 (some 17) rfl (by kernel_rfl) (by kernel_rfl) (by kernel_rfl) (by kernel_rfl) (fun c a v w h => HQ2.out c a _ v w h) (by kernel_rfl) (.int .u64 q) (fun W h => by have p := e1; have p2 := tN; have p3 := e4; go_simp) hD ?_
    try simp only [Act.put, List.setIfInBounds_toArray, List.set_cons_zero, List.set_cons_succ]
    refine held_v 5 (some 18) rfl (by kernel_rfl) (by kernel_rfl) (by kernel_rfl) (by kernel_rfl) (fun c a v w h => HQ2.out c a _ v w h) (by kernel_rfl) (.int .i64 q) (fun W h => by have p := e3; go_simp) hD ?_
    try simp only [Act.put, List.setIfInBounds_toArray, List.set_cons_zero, List.set_cons_succ]
    refine held_v 6 (some 19) rfl (by kernel_rfl) (by kernel_rfl) (by kernel_rfl) (by kernel_rfl) (fun c a v w h => HQ2.out c a _ v w h) (by kernel_rfl) (.int .u64 u) (fun W h => by kernel_rfl) hD ?_
    try simp only [Act.put, List.setIfInBounds_toArray, List.set_cons_zero, List.set_cons_succ]
    refine held_v 7 (some 20) rfl (by kernel_rfl) (by kernel_rfl) (by kernel_rfl) (by kernel_rfl) (fun c a v w h => HQ2.out c a _ v w h) (by kernel_rfl) (.pointer (some ⟨w.heap.size, 0, none⟩)) (fun W h => by kernel_rfl) hD ?_
    try simp only [Act.put, List.setIfInBounds_toArray, List.set_cons_zero, List.set_cons_succ]
    refine held_v 8 (some 21) rfl (by kernel_rfl) (by kernel_rfl) (by kernel_rfl) (by kernel_rfl) (fun c a v w h => HQ2.out c a _ v w h) (by kernel_rfl) (.int .u64 T) (fun W h => by have p := h.c0; go_simp) hD ?_
    try simp only [Act.put, List.setIfInBounds_toArray, List.set_cons_zero, List.set_cons_succ]
    refine held_v 9 (some 22) rfl (by kernel_rfl) (by kernel_rfl) (by kernel_rfl) (by kernel_rfl) (fun c a v w h => HQ2.out c a _ v w h) (by kernel_rfl) (.int .u64 r) (fun W h => by have p := e2; have p2 := tN; have p3 := e5; go_simp) hD ?_
    try simp only [Act.put, List.setIfInBounds_toArray, List.set_cons_zero, List.set_cons_succ]
    refine wpAnyH_ready (rs := [10]) (by kernel_rfl) (by decide) ?_
    refine AllReadyH.cons rfl (fun K hK => ?_) AllReadyH.nil
    refine step_call (some 23) (by kernel_rfl) (by kernel_rfl) _ _ (by kernel_rfl) _ (HL.out _ (hD.pr HR.out)) ?_
    rintro e w41 ⟨rfl, hbw41⟩
    refine ⟨_, rfl, ?_⟩
    refine hK.out _ _ (hD.below hbw41) (fun hw41 => ?_)
    clear hK K
    try simp only [Act.put, List.setIfInBounds_toArray, List.set_cons_zero, List.set_cons_succ]
    refine held_v 11 (some 24) rfl (by kernel_rfl) (by kernel_rfl) (by kernel_rfl) (by kernel_rfl) (fun c a v w h => HQ2.out c a _ v w h) (by kernel_rfl) (.int .i64 (lkV T ts q r)) (fun W h => by kernel_rfl) hw41 ?_
    try simp only [Act.put, List.setIfInBounds_toArray, List.set_cons_zero, List.set_cons_succ]
    refine held_v 12 (some 25) rfl (by kernel_rfl) (by kernel_rfl) (by kernel_rfl) (by kernel_rfl) (fun c a v w h => HQ2.out c a _ v w h) (by kernel_rfl) (.int .i64 (lkE T ts q r)) (fun W h => by kernel_rfl) hw41 ?_
    try simp only [Act.put, List.setIfInBounds_toArray, List.set_cons_zero, List.set_cons_succ]
    refine held_v 13 (some 4) rfl (by kernel_rfl) (by kernel_rfl) (by kernel_rfl) (by kernel_rfl) (fun c a v w h => HQ2.out c a _ v w h) (by kernel_rfl) (.int .i64 (lkV T ts q r)) (fun W h => by kernel_rfl) hw41 ?_
    try simp only [Act.put, List.setIfInBounds_toArray, List.set_cons_zero, List.set_cons_succ]
    refine held_v 14 (some 5) rfl (by kernel_rfl) (by kernel_rfl) (by kernel_rfl) (by kernel_rfl) (fun c a v w h => HQ2.out c a _ v w h) (by kernel_rfl) (.int .i64 (lkE T ts q r)) (fun W h => by kernel_rfl) hw41 ?_
    try simp only [Act.put, List.setIfInBounds_toArray, List.set_cons_zero, List.set_cons_succ]
    refine wpAnyH_done (by kernel_rfl) ?_ _
    refine HQ1.out _ _ ?_
    clear HQ1 HQ2
    go_wp2_with fail
    go_ret2
    exact ⟨ret_iiT HV.out.1 HV.out.2, hw41.bel⟩
  · have HE := Lib.hid (ow_big hr hu)
    obtain ⟨Z, hZ⟩ : ∃ Z, (ts.length : Int) * T = Z := ⟨_, rfl⟩
    rw [hZ] at hu HZ
    clear hrd hts hr hz hZ
    go_enter Try.func16, Try.ntmps16
    go_wp2_with (first
      | (go_at_call 20; (with_reducible refine (HC.out _ (HS.out.pr HR.out)).mono ?_); rintro e w1 ⟨rfl, hb1⟩; have HS1 := Lib.hid (HS.out.below hb1); have c0 := HS1.out.c0; have c1 := HS1.out.c1)
      | (go_at_call 22; (with_reducible refine (HZ.out _ (HS1.out.pr HR.out)).mono ?_); rintro e w2 ⟨rfl, hb2⟩; have HS2 := Lib.hid (HS1.out.below hb2)))
    go_ret2
    exact ⟨ret_iiT HE.out.2.symm HE.out.1.symm, HS2.out.bel⟩
set_option maxHeartbeats 4000000 in
theorem r14owns_c (i : Int) (i0 : -9223372036854775808 ≤ i) (i1 : i < 9223372036854775808) : Calls Try.prog 18 #[.agg #[.int .u64 T, .slice A n c], .int .i64 i] w fun e w' => e = .returned (.tuple #[.int .u64 (osV T ts i), .int .i64 (osE T ts i)]) ∧ Below w.heap.size w w' := by
  have hlen := hrd.len
  have HC := Lib.hid (fun W h => r14right_c T T0 T1 ts hts A n c hn W h)
  have HR := Lib.hid hrd
  have HS := Lib.hid (TbS.new w T A n c)
  have hnm : (n : Int) ≤ 9223372036854775807 := by unfold maxLen at hn; omega
  cases hr : tabR T ts
  · rw [hr] at HC
    have HE := Lib.hid (os_no (T := T) (i := i) hr)
    clear hrd hts hr
    go_enter Try.func18, Try.ntmps18
    go_wp2_with (first
      | (go_at_call 20; (with_reducible refine (HC.out _ (HS.out.pr HR.out)).mono ?_); rintro e w1 ⟨rfl, hb1⟩; have HS1 := Lib.hid (HS.out.below hb1)))
    go_ret2
    exact ⟨ret_ui HE.out.2.symm HE.out.1.symm, HS1.out.bel⟩
  rw [hr] at HC
  by_cases ho : 0 ≤ i ∧ i < (ts.length : Int)
  · have HE := Lib.hid (os_ok hr ho)
    rw [hlen] at HE
    obtain ⟨b, off, rfl, hb, -⟩ := hrd.cells (by omega)
    obtain ⟨-, hT, hm, hin⟩ := tabR_iff.1 hr
    have HTS := Lib.hid hts
    have HIN := Lib.hid hin
    rw [hlen] at hm
    have HOI : Hid (∀ k, k ≤ n → 0 ≤ ownsN T ts i k ∧ ownsN T ts i k ≤ (k : Int) * T) := Lib.hid (fun k hk => ownsN_in k (fun j hj => ⟨(hts.at_ (by omega)).1, (hin j (by omega)).1⟩))
    have HKM : Hid (∀ k, k < n → (k : Int) * T + T < 9223372036854775808) := Lib.hid (fun k hk => by
      have h1 : ((k : Int) + 1) * T ≤ (n : Int) * T := Int.mul_le_mul_of_nonneg_right (by omega) (by omega)
      rw [Int.add_mul, Int.one_mul] at h1
      omega)
    have o0 := ho.1
    have o1 := ho.2
    rw [hlen] at o1
    clear hrd hts hr hin hm ho
    go_enter Try.func18, Try.ntmps18
    go_wp2_with (first
      | (go_at_call 20; (with_reducible refine (HC.out _ (HS.out.pr HR.out)).mono ?_); rintro e w1 ⟨rfl, hb1⟩; have HS1 := Lib.hid (HS.out.below hb1); have c0 := HS1.out.c0; have c1 := HS1.out.c1))
    obtain ⟨g, hg⟩ : ∃ g, w.heap.size = g := ⟨_, rfl⟩
    rw [hg] at HS1 ⊢
    clear c0 c1 HS HC
    go_loopw [6, 7] (fun s j wr => ∃ k : Nat, k ≤ n ∧ j = .int .i64 (k : Int) ∧ s = .int .u64 (ownsN T ts i k) ∧ TbS w g T (some ⟨b, off, none⟩) n c wr) (fun _ j _ => n - (intOf j).toNat)
    case atStart => exact ⟨0, by omega, rfl, rfl, HS1.out⟩
    case round =>
      obtain ⟨k, hk, rfl, rfl, hS⟩ := hrel
      have HSS := Lib.hid hS
      have c0 := hS.c0
      have c1 := hS.c1
      by_cases hlt : k < n
      · have hcc := (HSS.out.pr HR.out).cellAt hlt
        have hc0 := hcc.1
        have hc1 := hcc.2
        have hz := HTS.out.at_ (k := k) (by omega)
        have hi := HIN.out k (by omega)
        have hs := HOI.out k (by omega)
        have hkm := HKM.out k hlt
        have HNX : Hid (ownsN T ts i (k + 1) = ownsN T ts i k + ownK T i k (cellL ts k)) := Lib.hid rfl
        unfold ownK at HNX
        obtain ⟨x, hx⟩ : ∃ x, (cellL ts k).1 = x := ⟨_, rfl⟩
        obtain ⟨y, hy⟩ : ∃ x, (cellL ts k).2 = x := ⟨_, rfl⟩
        obtain ⟨s, hss⟩ : ∃ x, ownsN T ts i k = x := ⟨_, rfl⟩
        obtain ⟨s2, hs2⟩ : ∃ x, ownsN T ts i (k + 1) = x := ⟨_, rfl⟩
        obtain ⟨kt, hkt⟩ : ∃ x, (k : Int) * T = x := ⟨_, rfl⟩
        rw [hx, hy, hss, hs2] at HNX
        rw [hx, hy] at hz hi
        rw [hss, hkt] at hs
        rw [hkt] at hkm
        rw [hx] at hc0
        rw [hy] at hc1
        rw [hss]
        have HS2 := Lib.hid hs2
        have s0 : 0 ≤ s := hs.1
        have s1 : s + T < 9223372036854775808 := by omega
        have x0 : 0 ≤ x := hz.1
        have x1 : x ≤ T := hi.1
        have y0 := hi.2.1
        have y1 : y < 9223372036854775808 := hz.2.2.2
        have k0 : (0 : Int) ≤ (k : Int) := by omega
        have k1 : (k : Int) < (n : Int) := by omega
        clear hcc hz hi hs hx hy hss hs2 hkm hkt hS
        by_cases d1 : (k : Int) = i
        · rw [if_pos d1] at HNX
          have t1 : ((k : Int) == i) = true := by rw [d1]; simp
          by_cases d2 : y = i
          · rw [if_pos d2] at HNX
            have t2 : (y == i) = true := by rw [d2]; simp
            have HF := Lib.hid (show s + x + T - x = s2 from by have := HNX.out; omega)
            clear HNX d1 d2
            go_wp2
            go_quiet (fail)
            go_wp2
            go_roundw
            case rel => exact ⟨k + 1, by omega, by go_num, by rw [HS2.out, ← HF.out], HSS.out.drewN _⟩
            case measure => simp [intOf]; omega
          · rw [if_neg d2] at HNX
            have t2 : (y == i) = false := by rw [beq_eq_false_iff_ne]; exact d2
            have HF := Lib.hid (show s + x = s2 from by have := HNX.out; omega)
            clear HNX d1 d2
            go_wp2
            go_roundw
            case rel => exact ⟨k + 1, by omega, by go_num, by rw [HS2.out, ← HF.out], HSS.out⟩
            case measure => simp [intOf]; omega
        · rw [if_neg d1] at HNX
          have t1 : ((k : Int) == i) = false := by rw [beq_eq_false_iff_ne]; exact d1
          by_cases d2 : y = i
          · rw [if_pos d2] at HNX
            have t2 : (y == i) = true := by rw [d2]; simp
            have HF := Lib.hid (show s + T - x = s2 from by have := HNX.out; omega)
            clear HNX d1 d2
            go_wp2
            go_quiet (fail)
            go_wp2
            go_roundw
            case rel => exact ⟨k + 1, by omega, by go_num, by rw [HS2.out, ← HF.out], HSS.out.drewN _⟩
            case measure => simp [intOf]; omega
          · rw [if_neg d2] at HNX
            have t2 : (y == i) = false := by rw [beq_eq_false_iff_ne]; exact d2
            have HF := Lib.hid (show s = s2 from by have := HNX.out; omega)
            clear HNX d1 d2
            go_wp2
            go_roundw
            case rel => exact ⟨k + 1, by omega, by go_num, by rw [HS2.out, ← HF.out], HSS.out⟩
            case measure => simp [intOf]; omega
      · obtain rfl : k = n := by omega
        go_wp2
        go_ret2
        exact ⟨ret_ui HE.out.2.symm HE.out.1.symm, (by first | exact HSS.out.bel | (rw [← hg]; exact HSS.out.bel))⟩
  · have HE := Lib.hid (os_out hr ho)
    rw [hlen] at ho
    clear hrd hts hr
    go_enter Try.func18, Try.ntmps18
    by_cases d1 : i < 0
    · go_wp2_with (first
        | (go_at_call 20; (with_reducible refine (HC.out _ (HS.out.pr HR.out)).mono ?_); rintro e w1 ⟨rfl, hb1⟩; have HS1 := Lib.hid (HS.out.below hb1); have c0 := HS1.out.c0; have c1 := HS1.out.c1))
      go_ret2
      exact ⟨ret_ui HE.out.2.symm HE.out.1.symm, HS1.out.bel⟩
    · have d2 : (n : Int) ≤ i := by omega
      clear ho
      go_wp2_with (first
        | (go_at_call 20; (with_reducible refine (HC.out _ (HS.out.pr HR.out)).mono ?_); rintro e w1 ⟨rfl, hb1⟩; have HS1 := Lib.hid (HS.out.below hb1); have c0 := HS1.out.c0; have c1 := HS1.out.c1))
      go_ret2
      exact ⟨ret_ui HE.out.2.symm HE.out.1.symm, HS1.out.bel⟩
end
end Go.Proofs.Ytkgajcifanobnaa

/-
  What the landed alias tells of a table: an owner, how many a place owns, whether two are the same.
  Conditions: the numbers lie in their types' ranges; the cells read as pairs; there are at most 1000.
-/
import Derived.Test.YtkgajcifanobnaaAlsD
import Derived.BigQuiet
set_option maxRecDepth 100000
set_option linter.unusedVariables false
set_option linter.unusedSimpArgs false
namespace Go.Proofs.Ytkgajcifanobnaa
open Go.ChangeShapes Go.WideShapes Go.ChangeAt Go.RowKit
theorem size_tabE : (Try.prog.info? 27).map (·.size) = some 2 := by kernel_rfl
/-- What the columns give to the place as their other one. -/
def alN (T : Int) (ts : List (Int × Int)) (i : Int) : Nat → Int
  | 0 => 0
  | k + 1 => alN T ts i k + (if (cellL ts k).2 = i then T - (cellL ts k).1 else 0)
theorem own_al {T i : Int} {ts : List (Int × Int)} (i0 : 0 ≤ i) : ∀ k : Nat, ownsN T ts i k = (if i < (k : Int) then (cellL ts i.toNat).1 else 0) + alN T ts i k
  | 0 => by rw [if_neg (by omega)]; rfl
  | k + 1 => by
    show ownsN T ts i k + ownK T i k (cellL ts k) = _ + (alN T ts i k + _)
    rw [own_al i0 k]
    unfold ownK
    by_cases h : (k : Int) = i
    · rw [if_neg (show ¬ i < (k : Int) by omega), if_pos h, if_pos (show i < ((k + 1 : Nat) : Int) by omega), show i.toNat = k by omega]; omega
    · by_cases h2 : i < (k : Int)
      · rw [if_pos h2, if_neg h, if_pos (show i < ((k + 1 : Nat) : Int) by omega)]; omega
      · rw [if_neg h2, if_neg h, if_neg (show ¬ i < ((k + 1 : Nat) : Int) by omega)]; omega
theorem al_in {T i : Int} {ts : List (Int × Int)} (T0 : 0 ≤ T) : ∀ k : Nat, (∀ j, j < k → 0 ≤ (cellL ts j).1 ∧ (cellL ts j).1 ≤ T) → 0 ≤ alN T ts i k ∧ alN T ts i k ≤ (k : Int) * T
  | 0, _ => by simp [alN]
  | k + 1, h => by
    have h1 := al_in (i := i) T0 k (fun j hj => h j (by omega))
    have h2 := h k (by omega)
    have h3 : ((k + 1 : Nat) : Int) * T = (k : Int) * T + T := by rw [Int.natCast_add, Int.add_mul]; simp
    show 0 ≤ alN T ts i k + _ ∧ alN T ts i k + _ ≤ _
    split <;> omega
section
variable (T : Int) (T0 : 0 ≤ T) (T1 : T < 18446744073709551616) (ts : List (Int × Int)) (hts : PrOk ts) (A : Option Addr) (n c : Nat) (hn : n ≤ 1000) (w : World) (hrd : RdPr .u64 .i64 w w.heap.size A n ts)
include T0 T1 hts hn hrd
set_option maxHeartbeats 4000000 in
theorem q14ownerB_c (u : Int) (u0 : 0 ≤ u) (u1 : u < 18446744073709551616) : Calls Try.prog 15 #[.agg #[.int .u64 T, .slice A n c], .int .u64 u] w fun e w' => e = .returned (.tuple #[.int .i64 (owV T ts u), .int .i64 (owE T ts u)]) ∧ Below w.heap.size w w' := by
  have hlen := hrd.len
  have hmx : n ≤ maxLen := by unfold maxLen; omega
  have HZ := Lib.hid (fun W h => q14sizeB_c T T0 T1 ts hts A n c hn W h)
  have HR := Lib.hid hrd
  have HS := Lib.hid (TbS.new w T A n c)
  have c00 := HS.out.c0
  have c01 := HS.out.c1
  cases hr : tabR T ts
  · have hz : tabZ T ts = 0 := by unfold tabZ; rw [if_neg (by rw [hr]; simp)]
    rw [hz] at HZ
    have HE := Lib.hid (ow_no (T := T) (u := u) hr)
    clear hrd hts hr hz
    go_enter Try.func15, Try.ntmps15
    go_wp2_with (first
      | (go_at_call 21; (with_reducible refine (HZ.out _ (HS.out.pr HR.out)).mono ?_); rintro e w1 ⟨rfl, hb1⟩; have HS1 := Lib.hid (HS.out.below hb1); clear hb1))
    go_ret2
    exact ⟨ret_iiT HE.out.2.symm HE.out.1.symm, HS1.out.bel⟩
  have hz : tabZ T ts = (ts.length : Int) * T := by unfold tabZ; rw [if_pos hr]
  rw [hz] at HZ
  have hzp : 0 < (ts.length : Int) * T := Int.mul_pos (by have := (tabR_iff.1 hr).1; omega) (tabR_iff.1 hr).2.1
  have tz : ((ts.length : Int) * T == 0) = false := by rw [beq_eq_false_iff_ne]; omega
  by_cases hu : u < (ts.length : Int) * T
  · obtain ⟨h1, h2, h3, q0, q1, r0, r1⟩ := ow_ok hr u0 hu
    have hT := (tabR_iff.1 hr).2.1
    obtain ⟨q, hq⟩ : ∃ q : Nat, u / T = (q : Int) := Int.eq_ofNat_of_zero_le q0
    obtain ⟨r, hr2⟩ : ∃ r, u % T = r := ⟨_, rfl⟩
    have e1 : u.tdiv T = (q : Int) := (Int.tdiv_eq_ediv_of_nonneg u0).trans hq
    have e2 : u.tmod T = r := (Int.tmod_eq_emod_of_nonneg u0).trans hr2
    rw [hq, hr2] at h2 h3
    rw [hq] at q0 q1
    rw [hr2] at r0 r1
    have hl : lkV T ts (q : Int) r = lkC ts q r := by unfold lkV; rw [if_pos h3]; rfl
    have HL := Lib.hid (fun W h => q14of_c T ts hts A n c hmx W h q (by omega) r r0 (by omega))
    have tN : T ≠ 0 := by omega
    have HV : Hid (lkC ts q r = owV T ts u ∧ (0 : Int) = owE T ts u) := Lib.hid ⟨hl.symm.trans h2.symm, h1.symm⟩
    obtain ⟨V, hV⟩ : ∃ V, lkC ts q r = V := ⟨_, rfl⟩
    rw [hV] at HL HV
    have e3 : IntKind.i64.wrap (q : Int) = (q : Int) := by rw [IntKind.wrap_i64]; omega
    have e4 : IntKind.u64.wrap (q : Int) = (q : Int) := by rw [IntKind.wrap_u64]; omega
    have e5 : IntKind.u64.wrap r = r := by rw [IntKind.wrap_u64]; omega
    obtain ⟨Z, hZ⟩ : ∃ Z, (ts.length : Int) * T = Z := ⟨_, rfl⟩
    rw [hZ] at hu HZ tz
    clear hrd hts hr h1 h2 h3 hq hr2 hz hZ hV hl hzp hn hmx
    go_enter Try.func15, Try.ntmps15
    go_wp2_with (first
      | (go_at_call 21; (with_reducible refine (HZ.out _ (HS.out.pr HR.out)).mono ?_); rintro e w1 ⟨rfl, hb1⟩; have HS1 := Lib.hid (HS.out.below hb1); clear hb1))
    have hD := HS1.out.drew
    refine wp_region_held_drew (S := (TbS w w.heap.size T A n c)) (by kernel_rfl) hD (fun hH => ?_)
    refine wpAnyH_letter #[false, false, false, false, false, false, false, false, false, false, false, false, false] (by kernel_rfl) (fun _ _ d _ _ h => by cases d <;> exact h) (fun QL HQ1 HQ2 => ?_)
    refine held_row 0 (some 14) rfl (by kernel_rfl) (by kernel_rfl) (by kernel_rfl) (by kernel_rfl) (fun c a v w h => HQ2.out c a _ v w h) (by kernel_rfl) 27 (.tmp 2) rfl w.heap.size (by kernel_rfl) 27 #[.int .u64 T, .slice A n c] (fun _ h => h.b) _ Try.underlying27 rfl size_tabE hD ?_
    try simp only [Act.put, List.setIfInBounds_toArray, List.set_cons_zero, List.set_cons_succ]
    refine held_v 1 (some 15) rfl (by kernel_rfl) (by kernel_rfl) (by kernel_rfl) (by kernel_rfl) (fun c a v w h => HQ2.out c a _ v w h) (by kernel_rfl) (.int .u64 u) (fun W h => by kernel_rfl) hD ?_
    try simp only [Act.put, List.setIfInBounds_toArray, List.set_cons_zero, List.set_cons_succ]
    refine held_v 2 (some 16) rfl (by kernel_rfl) (by kernel_rfl) (by kernel_rfl) (by kernel_rfl) (fun c a v w h => HQ2.out c a _ v w h) (by kernel_rfl) (.pointer (some ⟨w.heap.size, 0, none⟩)) (fun W h => by kernel_rfl) hD ?_
    try simp only [Act.put, List.setIfInBounds_toArray, List.set_cons_zero, List.set_cons_succ]
    refine held_v 3 (some 17) rfl (by kernel_rfl) (by kernel_rfl) (by kernel_rfl) (by kernel_rfl) (fun c a v w h => HQ2.out c a _ v w h) (by kernel_rfl) (.int .u64 T) (fun W h => by have p := h.c0; go_simp) hD ?_
    try simp only [Act.put, List.setIfInBounds_toArray, List.set_cons_zero, List.set_cons_succ]
    refine held_v 4 (some 18) rfl (by kernel_rfl) (by kernel_rfl) (by kernel_rfl) (by kernel_rfl) (fun c a v w h => HQ2.out c a _ v w h) (by kernel_rfl) (.int .u64 (q : Int)) (fun W h => by have p := e1; have p2 := tN; have p3 := e4; go_simp) hD ?_
    try simp only [Act.put, List.setIfInBounds_toArray, List.set_cons_zero, List.set_cons_succ]
    refine held_v 5 (some 19) rfl (by kernel_rfl) (by kernel_rfl) (by kernel_rfl) (by kernel_rfl) (fun c a v w h => HQ2.out c a _ v w h) (by kernel_rfl) (.int .i64 (q : Int)) (fun W h => by have p := e3; go_simp) hD ?_
    try simp only [Act.put, List.setIfInBounds_toArray, List.set_cons_zero, List.set_cons_succ]
    refine held_v 6 (some 20) rfl (by kernel_rfl) (by kernel_rfl) (by kernel_rfl) (by kernel_rfl) (fun c a v w h => HQ2.out c a _ v w h) (by kernel_rfl) (.int .u64 u) (fun W h => by kernel_rfl) hD ?_
    try simp only [Act.put, List.setIfInBounds_toArray, List.set_cons_zero, List.set_cons_succ]
    refine held_v 7 (some 21) rfl (by kernel_rfl) (by kernel_rfl) (by kernel_rfl) (by kernel_rfl) (fun c a v w h => HQ2.out c a _ v w h) (by kernel_rfl) (.pointer (some ⟨w.heap.size, 0, none⟩)) (fun W h => by kernel_rfl) hD ?_
    try simp only [Act.put, List.setIfInBounds_toArray, List.set_cons_zero, List.set_cons_succ]
    refine held_v 8 (some 22) rfl (by kernel_rfl) (by kernel_rfl) (by kernel_rfl) (by kernel_rfl) (fun c a v w h => HQ2.out c a _ v w h) (by kernel_rfl) (.int .u64 T) (fun W h => by have p := h.c0; go_simp) hD ?_
    try simp only [Act.put, List.setIfInBounds_toArray, List.set_cons_zero, List.set_cons_succ]
    refine held_v 9 (some 23) rfl (by kernel_rfl) (by kernel_rfl) (by kernel_rfl) (by kernel_rfl) (fun c a v w h => HQ2.out c a _ v w h) (by kernel_rfl) (.int .u64 r) (fun W h => by have p := e2; have p2 := tN; have p3 := e5; go_simp) hD ?_
    try simp only [Act.put, List.setIfInBounds_toArray, List.set_cons_zero, List.set_cons_succ]
    refine wpAnyH_ready (rs := [10]) (by kernel_rfl) (by decide) ?_
    refine AllReadyH.cons rfl (fun K hK => ?_) AllReadyH.nil
    refine step_call (some 24) (by kernel_rfl) (by kernel_rfl) _ _ (by kernel_rfl) _ (HL.out _ (hD.pr HR.out)) ?_
    rintro e w41 ⟨rfl, hbw41⟩
    refine ⟨_, rfl, ?_⟩
    refine hK.out _ _ (hD.below hbw41) (fun hw41 => ?_)
    clear hK K
    try simp only [Act.put, List.setIfInBounds_toArray, List.set_cons_zero, List.set_cons_succ]
    refine held_v 11 (some 4) rfl (by kernel_rfl) (by kernel_rfl) (by kernel_rfl) (by kernel_rfl) (fun c a v w h => HQ2.out c a _ v w h) (by kernel_rfl) (.int .i64 V) (fun W h => by kernel_rfl) hw41 ?_
    try simp only [Act.put, List.setIfInBounds_toArray, List.set_cons_zero, List.set_cons_succ]
    refine held_v 12 (some 5) rfl (by kernel_rfl) (by kernel_rfl) (by kernel_rfl) (by kernel_rfl) (fun c a v w h => HQ2.out c a _ v w h) (by kernel_rfl) (.int .i64 0) (fun W h => by kernel_rfl) hw41 ?_
    try simp only [Act.put, List.setIfInBounds_toArray, List.set_cons_zero, List.set_cons_succ]
    refine wpAnyH_done (by kernel_rfl) ?_ _
    refine HQ1.out _ _ ?_
    clear HQ1 HQ2
    go_wp2_with fail
    go_ret2
    exact ⟨ret_iiT HV.out.1 HV.out.2, hw41.bel⟩
  · have HE := Lib.hid (ow_big hr hu)
    obtain ⟨Z, hZ⟩ : ∃ Z, (ts.length : Int) * T = Z := ⟨_, rfl⟩
    rw [hZ] at hu HZ tz
    clear hrd hts hr hz hZ hzp
    go_enter Try.func15, Try.ntmps15
    go_wp2_with (first
      | (go_at_call 21; (with_reducible refine (HZ.out _ (HS.out.pr HR.out)).mono ?_); rintro e w1 ⟨rfl, hb1⟩; have HS1 := Lib.hid (HS.out.below hb1); clear hb1))
    go_ret2
    exact ⟨ret_iiT HE.out.2.symm HE.out.1.symm, HS1.out.bel⟩
set_option maxHeartbeats 4000000 in
theorem q14ownsB_c (i : Int) (i0 : -9223372036854775808 ≤ i) (i1 : i < 9223372036854775808) : Calls Try.prog 17 #[.agg #[.int .u64 T, .slice A n c], .int .i64 i] w fun e w' => e = .returned (.tuple #[.int .u64 (osV T ts i), .int .i64 (osE T ts i)]) ∧ Below w.heap.size w w' := by
  have hlen := hrd.len
  have hmx : n ≤ maxLen := by unfold maxLen; omega
  have HC := Lib.hid (fun W h => q14rightB_c T T0 T1 ts hts A n c hn W h)
  have HR := Lib.hid hrd
  have HS := Lib.hid (TbS.new w T A n c)
  have c00 := HS.out.c0
  have c01 := HS.out.c1
  have hnm : (n : Int) ≤ 1000 := by omega
  have hcl := fun W => q14col_c T A n c hmx i i0 i1 W
  cases hr : tabR T ts
  · rw [hr] at HC
    have HE := Lib.hid (os_no (T := T) (i := i) hr)
    clear hrd hts hr hcl
    go_enter Try.func17, Try.ntmps17
    go_wp2_with (first
      | (go_at_call 19; (with_reducible refine (HC.out _ (HS.out.pr HR.out)).mono ?_); rintro e w1 ⟨rfl, hb1⟩; have HS1 := Lib.hid (HS.out.below hb1); have c0 := HS1.out.c0; have c1 := HS1.out.c1))
    go_ret2
    exact ⟨ret_ui HE.out.2.symm HE.out.1.symm, HS1.out.bel⟩
  rw [hr] at HC
  by_cases ho : 0 ≤ i ∧ i < (ts.length : Int)
  · have HE := Lib.hid (os_ok hr ho)
    rw [hlen] at HE ho
    rw [decide_eq_true ho] at hcl
    have HCL := Lib.hid hcl
    obtain ⟨b, off, rfl, hb, -⟩ := hrd.cells (by omega)
    obtain ⟨-, hT, hm, hin⟩ := tabR_iff.1 hr
    have HTS := Lib.hid hts
    have HIN := Lib.hid hin
    rw [hlen] at hm
    have hal : ∀ k : Nat, k ≤ n → 0 ≤ alN T ts i k ∧ alN T ts i k < 9223372036854775808 := fun k hk => by
      have h1 := al_in (i := i) T0 k (fun j hj => ⟨(hts.at_ (by omega)).1, (hin j (by omega)).1⟩)
      have h2 : (k : Int) * T ≤ (n : Int) * T := Int.mul_le_mul_of_nonneg_right (by omega) (by omega)
      omega
    have HAL := Lib.hid hal
    have hT63 : T < 9223372036854775808 := by
      have h2 : 1 * T ≤ (n : Int) * T := Int.mul_le_mul_of_nonneg_right (by omega) (by omega)
      omega
    obtain ⟨o0, o1⟩ := ho
    obtain ⟨p, rfl⟩ := Int.eq_ofNat_of_zero_le o0
    have hown := own_al (T := T) (ts := ts) (i := (p : Int)) o0 n
    rw [if_pos o1, Int.toNat_natCast] at hown
    have hp := hts.at_ (k := p) (by omega)
    have hpi := hin p (by omega)
    have HCP := Lib.hid (fun (W : World) (h : RdPr .u64 .i64 W W.heap.size (some ⟨b, off, none⟩) n ts) => (h.cellAt (k := p) (by omega)).1)
    obtain ⟨C, hC⟩ : ∃ C, (cellL ts p).1 = C := ⟨_, rfl⟩
    rw [hC] at hown hp hpi HCP
    have C0 := hp.1
    have C1 := hpi.1
    rw [hown] at HE
    clear hrd hts hr hin hm hcl hal hown hp hpi hC i0 i1 hn hmx hb
    go_enter Try.func17, Try.ntmps17
    go_wp2_with (first
      | (go_at_call 19; (with_reducible refine (HC.out _ (HS.out.pr HR.out)).mono ?_); rintro e w1 ⟨rfl, hb1⟩; have HS1 := Lib.hid (HS.out.below hb1); have c0 := HS1.out.c0; have c1 := HS1.out.c1)
      | (go_at_call 30; (with_reducible refine (HCL.out _).mono ?_); rintro e w2 ⟨rfl, hb2⟩; have HS2 := Lib.hid (HS1.out.below hb2); have c2 := HS2.out.c0; have c3 := HS2.out.c1; have c4 := HCP.out _ (HS2.out.pr HR.out)))
    obtain ⟨g, hg⟩ : ∃ g, w.heap.size = g := ⟨_, rfl⟩
    rw [hg] at HS2 ⊢
    clear c0 c1 c2 c3 c4 HS HC c00 c01 HCL hb1 hb2 HS1
    go_loopw [6, 25] (fun s j wr => ∃ k : Nat, k ≤ n ∧ j = .int .i64 (k : Int) ∧ s = .int .u64 (C + alN T ts (p : Int) k) ∧ TbS w g T (some ⟨b, off, none⟩) n c wr) (fun _ j _ => n - (intOf j).toNat)
    case atStart => exact ⟨0, by omega, rfl, by simp [alN], HS2.out⟩
    case round =>
      obtain ⟨k, hk, rfl, rfl, hS⟩ := hrel
      have HSS := Lib.hid hS
      have c0 := hS.c0
      have c1 := hS.c1
      have g2 := fun o => (hS.alloc o).c0
      have g3 := fun o => (hS.alloc o).c1
      by_cases hlt : k < n
      · obtain ⟨hc0, hc1⟩ := (HSS.out.pr HR.out).cellAt hlt
        have hz := HTS.out.at_ (k := k) (by omega)
        have hi := HIN.out k (by omega)
        have hs := HAL.out k (by omega)
        have hs2 := HAL.out (k + 1) (by omega)
        have HNX0 : Hid (alN T ts (p : Int) (k + 1) = alN T ts (p : Int) k + (if (cellL ts k).2 = (p : Int) then T - (cellL ts k).1 else 0)) := Lib.hid rfl
        obtain ⟨x, hx⟩ : ∃ x, (cellL ts k).1 = x := ⟨_, rfl⟩
        obtain ⟨y, hy⟩ : ∃ x, (cellL ts k).2 = x := ⟨_, rfl⟩
        obtain ⟨s, hss⟩ : ∃ x, alN T ts (p : Int) k = x := ⟨_, rfl⟩
        obtain ⟨s2, hs22⟩ : ∃ x, alN T ts (p : Int) (k + 1) = x := ⟨_, rfl⟩
        rw [hx, hy, hss, hs22] at HNX0
        rw [hx, hy] at hz hi
        rw [hss] at hs
        rw [hs22] at hs2
        rw [hx] at hc0
        rw [hy] at hc1
        rw [hss]
        have HS22 := Lib.hid hs22
        have s0 : 0 ≤ s := hs.1
        have s1 := hs.2
        have t0 := hs2.1
        have t1 := hs2.2
        have x0 : 0 ≤ x := hz.1
        have x1 : x ≤ T := hi.1
        have y0 := hi.2.1
        have y1 : y < 9223372036854775808 := hz.2.2.2
        have k0 : (0 : Int) ≤ (k : Int) := by omega
        have k1 : (k : Int) < (n : Int) := by omega
        clear hz hi hs hs2 hx hy hss hs22 hS
        by_cases d2 : y = (p : Int)
        · rw [if_pos d2] at HNX0
          have t2 : (y == (p : Int)) = true := by rw [d2]; simp
          have w1 : IntKind.u64.wrap (T - x) = T - x := by rw [IntKind.wrap_u64]; omega
          have w2 : IntKind.u64.wrap (C + s + (T - x)) = C + s2 := by have := HNX0.out; rw [IntKind.wrap_u64]; omega
          have HNX : Hid (alN T ts (p : Int) (k + 1) = s2) := HS22
          clear HNX0 d2
          go_wp2
          go_roundw
          case rel => exact ⟨k + 1, by omega, by go_num, by rw [HNX.out], HSS.out.alloc _⟩
          case measure => simp [intOf]; omega
        · rw [if_neg d2] at HNX0
          have t2 : (y == (p : Int)) = false := by rw [beq_eq_false_iff_ne]; exact d2
          have HNX : Hid (alN T ts (p : Int) (k + 1) = s) := Lib.hid (by rw [HS22.out]; have := HNX0.out; omega)
          clear HNX0 d2
          go_wp2
          go_roundw
          case rel => exact ⟨k + 1, by omega, by go_num, by rw [HNX.out], HSS.out.alloc _⟩
          case measure => simp [intOf]; omega
      · obtain rfl : k = n := by omega
        go_wp2
        go_ret2
        exact ⟨ret_ui HE.out.2.symm HE.out.1.symm, (by first | exact HSS.out.bel | (rw [← hg]; exact HSS.out.bel))⟩
  · have HE := Lib.hid (os_out hr ho)
    rw [hlen] at ho
    rw [decide_eq_false ho] at hcl
    have HCL := Lib.hid hcl
    clear hrd hts hr hcl ho
    go_enter Try.func17, Try.ntmps17
    go_wp2_with (first
      | (go_at_call 19; (with_reducible refine (HC.out _ (HS.out.pr HR.out)).mono ?_); rintro e w1 ⟨rfl, hb1⟩; have HS1 := Lib.hid (HS.out.below hb1); have c0 := HS1.out.c0; have c1 := HS1.out.c1)
      | (go_at_call 30; (with_reducible refine (HCL.out _).mono ?_); rintro e w2 ⟨rfl, hb2⟩; have HS2 := Lib.hid (HS1.out.below hb2); have c2 := HS2.out.c0; have c3 := HS2.out.c1))
    go_ret2
    exact ⟨ret_ui HE.out.2.symm HE.out.1.symm, HS2.out.bel⟩
end
set_option maxHeartbeats 2000000 in
theorem q14eqs_c (xs ys : List (Int × Int)) (A B : Option Addr) (n m c d : Nat) (hn : n ≤ 1000) (hm : m ≤ 1000) (w : World) (hra : RdPr .u64 .i64 w w.heap.size A n xs) (hrb : RdPr .u64 .i64 w w.heap.size B m ys) (q : Bool) (hq : q = true ↔ xs = ys) :
    Calls Try.prog 34 #[.slice A n c, .slice B m d] w fun e w' => e = .returned (.bool q) ∧ Below w.heap.size w w' := by
  have HA := Lib.hid hra
  have HB := Lib.hid hrb
  have HQ := Lib.hid hq
  have hla := hra.len
  have hlb := hrb.len
  have hnm : (n : Int) ≤ 1000 := by omega
  have hmm : (m : Int) ≤ 1000 := by omega
  clear hra hrb hq
  by_cases hl : n = m
  · subst hl
    have t0 : ((n : Int) != (n : Int)) = false := by simp
    go_enter Try.func34, Try.ntmps34
    go_wp2
    go_loopw [13] (fun i wr => ∃ k : Nat, k ≤ n ∧ i = .int .i64 (k : Int) ∧ (∀ j, j < k → cellL xs j = cellL ys j) ∧ Below w.heap.size w wr) (fun i _ => n - (intOf i).toNat)
    case atStart => exact ⟨0, by omega, rfl, fun j h => absurd h (by omega), Below.refl _ _⟩
    case round =>
      obtain ⟨k, hk, rfl, heq, hW⟩ := hrel
      have HEQ := Lib.hid heq
      have HW := Lib.hid hW
      clear hW
      by_cases hlt : k < n
      · obtain ⟨b1, o1, rfl, _, hc1⟩ := (HA.out.to HW.out).cells (by omega)
        obtain ⟨b2, o2, rfl, _, hc2⟩ := (HB.out.to HW.out).cells (by omega)
        have e1 := (hc1 k hlt).1
        have e2 := (hc1 k hlt).2
        have e3 := (hc2 k hlt).1
        have e4 := (hc2 k hlt).2
        obtain ⟨⟨x1, x2⟩, hx⟩ : ∃ x, cellL xs k = x := ⟨_, rfl⟩
        obtain ⟨⟨y1, y2⟩, hy⟩ : ∃ y, cellL ys k = y := ⟨_, rfl⟩
        rw [hx] at e1 e2
        rw [hy] at e3 e4
        dsimp only at e1 e2 e3 e4
        have r1 := range_cell e1 e2
        have r2 := range_cell e3 e4
        have hu := Try.underlying44
        have i0 : (0 : Int) ≤ (k : Int) := by omega
        have i1 : (k : Int) < (n : Int) := by omega
        clear heq hc1 hc2
        by_cases hxy : x1 = y1 ∧ x2 = y2
        · obtain ⟨rfl, rfl⟩ := hxy
          have HKK : Hid (∀ j, j < k + 1 → cellL xs j = cellL ys j) := Lib.hid (fun j hj => by
            by_cases h : j = k
            · rw [h, hx, hy]
            · exact HEQ.out j (by omega))
          clear hx hy HEQ
          have HEE : ∀ W, (Op.equalIn 10000 44 (.agg #[.int .u64 x1, .int .i64 x2]) (.agg #[.int .u64 x1, .int .i64 x2])).run Try.prog W = .ok true W := fun W => by rw [eq_cell, decide_eq_true ⟨rfl, rfl⟩]
          go_wp2
          refine wp_region_quiet_lit (by kernel_rfl) (by kernel_rfl) ?_
          repeat (first
            | (with_reducible refine wpQuiet_load_mid rfl 44 (.tmp 18) rfl b1 (o1 + k * 2) rfl _ _ r1 hu rfl size_cell ?_)
            | (with_reducible refine wpQuiet_load_mid rfl 44 (.tmp 22) rfl b2 (o2 + k * 2) rfl _ _ r2 hu rfl size_cell ?_)
            | quiet_step (fail))
          refine wpQuiet_nil ?_
          intro _ hw'
          obtain ⟨nq, hw''⟩ := hw'
          subst hw''
          go_wp2
          go_roundw
          case rel => exact ⟨k + 1, by omega, by go_num, HKK.out, below_drewN HW.out _⟩
          case measure => simp [intOf]; omega
        · have HNE : Hid (q = false) := Lib.hid (by
            cases hqq : q
            · rfl
            · exact absurd (HQ.out.1 hqq) (fun h => hxy (by
                subst h
                rw [hx] at hy
                injection hy with h1 h2
                exact ⟨h1, h2⟩)))
          have HXY := Lib.hid hxy
          clear hx hy HEQ hxy
          have HEE : ∀ W, (Op.equalIn 10000 44 (.agg #[.int .u64 x1, .int .i64 x2]) (.agg #[.int .u64 y1, .int .i64 y2])).run Try.prog W = .ok false W := fun W => by rw [eq_cell, decide_eq_false HXY.out]
          go_wp2
          refine wp_region_quiet_lit (by kernel_rfl) (by kernel_rfl) ?_
          repeat (first
            | (with_reducible refine wpQuiet_load_mid rfl 44 (.tmp 18) rfl b1 (o1 + k * 2) rfl _ _ r1 hu rfl size_cell ?_)
            | (with_reducible refine wpQuiet_load_mid rfl 44 (.tmp 22) rfl b2 (o2 + k * 2) rfl _ _ r2 hu rfl size_cell ?_)
            | quiet_step (fail))
          refine wpQuiet_nil ?_
          intro _ hw'
          obtain ⟨nq, hw''⟩ := hw'
          subst hw''
          go_wp2
          go_ret
          exact ⟨ret_bool HNE.out.symm, below_drewN HW.out _⟩
      · obtain rfl : k = n := by omega
        have HXY : Hid (q = true) := Lib.hid (HQ.out.2 (ext_cell (by omega) fun j hj => heq j (by omega)))
        clear heq
        go_wp2
        go_ret
        exact ⟨ret_bool HXY.out.symm, HW.out⟩
  · have HNE : Hid (q = false) := Lib.hid (by
      cases hqq : q
      · rfl
      · exact absurd (HQ.out.1 hqq) (fun h => hl (by rw [← hla, ← hlb, h])))
    have t0 : ((n : Int) != (m : Int)) = true := by simp; omega
    clear hl
    go_enter Try.func34, Try.ntmps34
    go_wp2
    go_ret
    exact ⟨ret_bool HNE.out.symm, Below.refl _ _⟩
theorem q14same_c (T U : Int) (T0 : 0 ≤ T) (U0 : 0 ≤ U) (T1 : T < 18446744073709551616) (U1 : U < 18446744073709551616) (xs ys : List (Int × Int)) (A B : Option Addr) (n m c d : Nat) (hn : n ≤ 1000) (hm : m ≤ 1000) (hc : n ≤ c) (hd : m ≤ d) (hcm : c ≤ maxLen) (hdm : d ≤ maxLen) (w : World) (hra : RdPr .u64 .i64 w w.heap.size A n xs) (hrb : RdPr .u64 .i64 w w.heap.size B m ys) :
    Calls Try.prog 23 #[.agg #[.int .u64 T, .slice A n c], .agg #[.int .u64 U, .slice B m d]] w fun e w' => e = .returned (.bool (sameT T U xs ys)) ∧ Below w.heap.size w w' := by
  have HA := Lib.hid hra
  have HB := Lib.hid hrb
  have HS := Lib.hid (TbS.new w T A n c)
  have HS2 := Lib.hid (HS.out.two (U := U) (B := B) (m := m) (d := d))
  have HSA := Lib.hid (HS.out.alloc (.cells #[.int .u64 U, .slice B m d] 27))
  have p0 := HSA.out.c0
  have p1 := HSA.out.c1
  have p2 := HS2.out.c0
  have p3 := HS2.out.c1
  have HE := Lib.hid (fun W h1 h2 => q14eqs_c xs ys A B n m c d hn hm W h1 h2 (decide (xs = ys)) decide_eq_true_iff)
  clear hra hrb
  by_cases hT : T = U
  · subst hT
    have t1 : (T == T) = true := by simp
    have HV : Hid (sameT T T xs ys = decide (xs = ys)) := Lib.hid (by unfold sameT; simp)
    obtain ⟨q, hq⟩ : ∃ q, decide (xs = ys) = q := ⟨_, rfl⟩
    rw [hq] at HE HV
    clear hq
    go_enter Try.func23, Try.ntmps23
    go_wp2_with (first
      | (go_at_call 34; (with_reducible refine (HE.out _ (HSA.out.pr HA.out) (HS2.out.pr HB.out)).mono ?_); rintro e w1 ⟨rfl, hb1⟩; have HS3 := Lib.hid (HS2.out.below hb1)))
    go_ret
    exact ⟨ret_bool HV.out.symm, HS3.out.bel⟩
  · have t1 : (T == U) = false := by rw [beq_eq_false_iff_ne]; exact hT
    have HV : Hid (sameT T U xs ys = false) := Lib.hid (decide_eq_false (fun h => hT h.1))
    clear HE
    go_enter Try.func23, Try.ntmps23
    go_wp2
    go_ret
    exact ⟨ret_bool HV.out.symm, HS2.out.bel⟩
end Go.Proofs.Ytkgajcifanobnaa

/-
  What the statement on roots calls: the n-th prime, a product and an order of numbers of four limbs.
  Conditions: the arguments lie in their types' ranges; fewer than 64 primes are asked for.
-/
import Derived.Test.YtjmpbmgeaeemnaaDoorRows
import Derived.Test.YtjmpbmgeaeemnaaDoorRootP
import Derived.Test.YtjmpbmgeaeemnaaDoorArrM
import Derived.Test.YtjmpbmgeaeemnaaDoorRefC
import Derived.Deep.RegionHeld3
import Derived.Deep.QuietTactic
import Derived.BigQuiet
import Derived.KernelRfl
namespace Go.Proofs.YtjmpbmgeaeemnaaDoor
open Go.ChangeShapes Go.WideShapes Go.ChangeAt Go.RowKit
set_option linter.unusedVariables false

set_option maxHeartbeats 1000000 in
theorem prime_c (i : Nat) (hi : i < 64) (w : World) :
    Calls Tryd.prog 18 #[.int .i64 i] w fun e w' => e = .returned (.int .u64 (primeN i)) ∧ w = w' := by
  go_enter Tryd.func18, Tryd.ntmps18
  go_wp2
  go_loop [0, 3] (fun m p => ∃ q : Nat, 2 ≤ q ∧ q ≤ 311 ∧ p = .int .i64 q ∧ cntP q ≤ i ∧ m = .int .i64 (((i - cntP q : Nat)) : Int)) (fun _ p => 312 - (intOf p).toNat)
  case atStart => exact ⟨2, by omega, by omega, rfl, by rw [cnt_two]; omega, by rw [cnt_two]; rfl⟩
  case round =>
    obtain ⟨q, hq1, hq2, rfl, hc, rfl⟩ := hrel
    obtain ⟨m, hm⟩ : ∃ m, i - cntP q = m := ⟨_, rfl⟩
    rw [hm]
    have HM := Lib.hid hm
    have HC := Lib.hid hc
    clear hm hc
    have hmb : m < 64 := by have := HM.out; omega
    go_wp2
    go_loop [4, 5] (fun s d => ∃ e : Nat, 2 ≤ e ∧ e ≤ 18 ∧ (e = 2 ∨ (e - 1) * (e - 1) ≤ q) ∧ d = .int .i64 e ∧ s = .bool (chk q e)) (fun _ d => 20 - (intOf d).toNat)
    case atStart => exact ⟨2, by omega, by omega, .inl rfl, rfl, by rw [chk_two]⟩
    case round =>
      obtain ⟨e, he1, he2, he3, rfl, rfl⟩ := hrel
      have hee : e * e ≤ 18 * 18 := Nat.mul_le_mul he2 he2
      have hw : wrap64 ((e : Int) * (e : Int)) = ((e * e : Nat) : Int) := by rw [← Int.natCast_mul]; exact IntWalk.wrap64_in _ (by omega)
      have HMod := Lib.hid (show ((q : Int) % (e : Int) != 0) = (q % e != 0) by rw [← Int.natCast_emod, Bool.eq_iff_iff]; simp [bne_iff_ne]; omega)
      have HE3 := Lib.hid he3
      clear he3
      by_cases hle : e * e ≤ q
      · have hd : wrap64 ((e : Int) * (e : Int)) ≤ (q : Int) := by rw [hw]; omega
        have HLE := Lib.hid hle
        have h18 : e ≤ 17 := by
          rcases Nat.lt_or_ge e 18 with h | h
          · omega
          · have := Nat.mul_le_mul h h; omega
        clear hle hw hee
        cases hc : chk q e
        · have HS := Lib.hid (show chk q (e + 1) = false by rw [chk_succ q e he1, hc]; rfl)
          go_wp2
          go_round
          case rel => exact ⟨e + 1, by omega, by omega, .inr HLE.out, by go_num, by rw [HS.out]⟩
          case measure => simp [intOf]; omega
        · have HS := Lib.hid (show chk q (e + 1) = (q % e != 0) by rw [chk_succ q e he1, hc]; rfl)
          go_wp2
          go_round
          case rel => exact ⟨e + 1, by omega, by omega, .inr HLE.out, by go_num, by rw [HS.out, HMod.out]⟩
          case measure => simp [intOf]; omega
      · have hd : ¬ wrap64 ((e : Int) * (e : Int)) ≤ (q : Int) := by rw [hw]; omega
        have HP := Lib.hid (chk_prime q (by omega) hq1 e (by omega) he1 HE3.out (by omega))
        have HCN := Lib.hid (cnt_prime q (by omega))
        clear hle hw hee
        cases hc : chk q e
        · have hc2 := HCN.out.2 (by rw [← HP.out, hc])
          have HQ := Lib.hid (show q ≠ 311 from fun h => by have := HP.out; rw [hc, h, cnt_last.2] at this; cases this)
          have HC2 := Lib.hid hc2
          clear hc2
          go_wp2
          go_round
          case rel => exact ⟨q + 1, by omega, by have := HQ.out; omega, by go_num, by rw [HC2.out]; exact HC.out, by rw [HC2.out, HM.out]⟩
          case measure => simp [intOf]; omega
        · have hc2 := HCN.out.1 (by rw [← HP.out, hc])
          have HC2 := Lib.hid hc2
          clear hc2
          by_cases hm0 : m = 0
          · obtain rfl : m = 0 := hm0
            have HR := Lib.hid (show (primeN i : Int) = (q : Int) by
              have h1 := HM.out
              have h2 := HC.out
              rw [show i = cntP q by omega, HC2.out.1])
            go_wp2
            go_ret
            exact ⟨ret_int HR.out.symm, rfl⟩
          · have hm1 : ((m : Int) == 0) = false := by rw [beq_eq_false_iff_ne]; omega
            have hm2 : 1 ≤ m := by omega
            have HQ := Lib.hid (show q ≠ 311 from fun h => by have h1 := HM.out; have h2 := HC.out; rw [h, cnt_last.1] at h1 h2; omega)
            clear hm0
            go_wp2
            go_round
            case rel => exact ⟨q + 1, by omega, by have := HQ.out; omega, by go_num, by have h1 := HM.out; have h2 := HC.out; rw [HC2.out.2]; omega, by have h1 := HM.out; have h2 := HC.out; rw [HC2.out.2, show i - (cntP q + 1) = m - 1 by omega]; go_num⟩
            case measure => simp [intOf]; omega

set_option maxHeartbeats 1000000 in
theorem less_c (a b : List Int) (hal : a.length = 4) (hbl : b.length = 4) (ha : ∀ z ∈ a, 0 ≤ z ∧ z < 18446744073709551616) (hb : ∀ z ∈ b, 0 ≤ z ∧ z < 18446744073709551616) (w : World) :
    Calls Tryd.prog 19 #[.agg (intsA .u64 a), .agg (intsA .u64 b)] w fun e w' => e = .returned (.bool (lessAt a b 4)) ∧ Below w.heap.size w w' := by
  go_enter Tryd.func19, Tryd.ntmps19
  go_wp2_with (first
    | (with_reducible refine at_any ?_; refine at_dst 2 rfl ?_; refine wpList_box_ints rfl 35 (.tmp 0) rfl .u64 a rfl ?_; intro w1 hk1 hs1 hb1)
    | (with_reducible refine at_any ?_; refine at_dst 3 rfl ?_; refine wpList_box_ints rfl 35 (.tmp 1) rfl .u64 b rfl ?_; intro w2 hk2 hs2 hb2))
  have HI : BlkI w2 w.heap.size 35 .u64 a ∧ BlkI w2 w1.heap.size 35 .u64 b ∧ Below w.heap.size w w2 := by
    have q1 := hs1.out
    have q2 := hs2.out
    exact ⟨hk1.out.below hb2 (by omega), hk2.out, hb1.trans (hb2.mono (by omega))⟩
  obtain ⟨g1, hg1⟩ : ∃ g, w.heap.size = g := ⟨_, rfl⟩
  obtain ⟨g2, hg2⟩ : ∃ g, w1.heap.size = g := ⟨_, rfl⟩
  have HW := Lib.hid hg1
  rw [hg1, hg2] at HI
  rw [hg1, hg2]
  clear hk1 hs1 hb1 hk2 hs2 hb2 hg1 hg2
  go_loopw [5] (fun v wr => ∃ k : Nat, k ≤ 4 ∧ v = .int .i64 ((k : Int) - 1) ∧ lessAt a b 4 = lessAt a b k ∧ BlkI wr g1 35 .u64 a ∧ BlkI wr g2 35 .u64 b ∧ Below g1 w wr) (fun v _ => (intOf v + 1).toNat)
  case atStart => exact ⟨4, by omega, rfl, rfl, HI⟩
  case round =>
    clear HI
    obtain ⟨k, hk, rfl, he, h1, h2, h3⟩ := hrel
    rcases k with _ | k
    · have HE := Lib.hid he
      clear he h1 h2
      rw [show ((0 : Nat) : Int) - 1 = -1 from rfl]
      go_wp2
      go_ret
      exact ⟨by rw [HE.out]; rfl, by rw [HW.out]; exact h3⟩
    · rw [show ((k + 1 : Nat) : Int) - 1 = (k : Int) by omega]
      have c1 := h1.cell (j := k) (by omega)
      have c2 := h2.cell (j := k) (by omega)
      have hx : 0 ≤ a.getD k 0 ∧ a.getD k 0 < 18446744073709551616 := by
        have h : k < a.length := by omega
        simp [h]; exact ha _ (List.getElem_mem h)
      have hy : 0 ≤ b.getD k 0 ∧ b.getD k 0 < 18446744073709551616 := by
        have h : k < b.length := by omega
        simp [h]; exact hb _ (List.getElem_mem h)
      have hs : lessAt a b (k + 1) = if a.getD k 0 = b.getD k 0 then lessAt a b k else decide (a.getD k 0 < b.getD k 0) := rfl
      rw [hs] at he
      obtain ⟨x, hx0⟩ : ∃ x, a.getD k 0 = x := ⟨_, rfl⟩
      obtain ⟨y, hy0⟩ : ∃ y, b.getD k 0 = y := ⟨_, rfl⟩
      rw [hx0] at c1 hx he
      rw [hy0] at c2 hy he
      have H1 := Lib.hid h1
      have H2 := Lib.hid h2
      have q0 : (0 : Int) ≤ (k : Int) := by omega
      have q1 : (k : Int) < 4 := by omega
      have H3 := Lib.hid h3
      clear hs h1 h2 hx0 hy0 h3
      by_cases hxy : x = y
      · have hn : (x != y) = false := by rw [bne_eq_false_iff_eq]; exact hxy
        rw [if_pos hxy] at he
        have HE := Lib.hid he
        clear he hxy
        go_wp2
        go_quiet (fail)
        go_wp2
        go_roundw
        case rel => exact ⟨k, by omega, rfl, HE.out, H1.out, H2.out, below_drewN H3.out _⟩
        case measure => simp [intOf]
      · have hn : (x != y) = true := by rw [bne_iff_ne]; exact hxy
        rw [if_neg hxy] at he
        have HE := Lib.hid he
        clear he hxy
        go_wp2
        go_quiet (fail)
        go_wp2
        go_quiet (fail)
        go_wp2
        go_ret
        exact ⟨by rw [HE.out]; rfl, by rw [HW.out]; exact below_drewN (below_drewN H3.out _) _⟩

/-- What mul keeps: its two numbers, its result's place and what it has so far. -/
def MulS (w : World) (ga gb gr go : Nat) (a b z o : List Int) (w' : World) : Prop :=
  BlkI w' ga 35 .u64 a ∧ BlkI w' gb 35 .u64 b ∧ BlkI w' gr 35 .u64 z ∧ BlkI w' go 35 .u64 o ∧ Below w.heap.size w w' ∧ w.heap.size ≤ go ∧ ga ≠ go ∧ gb ≠ go ∧ gr ≠ go
theorem MulS.set_ {w w' : World} {ga gb gr go : Nat} {a b z o : List Int} (h : MulS w ga gb gr go a b z o w') (i : Nat) (v : Int) : MulS w ga gb gr go a b z (o.set i v) (w'.setCell ⟨go, i, none⟩ (.int .u64 v)) := by
  obtain ⟨h1, h2, h3, h4, h5, h6, h7, h8, h9⟩ := h
  exact ⟨h1.far h7 _, h2.far h8 _, h3.far h9 _, h4.set_ i v, h5.setCell (p := ⟨go, i, none⟩) h6 _, h6, h7, h8, h9⟩
theorem MulS.drewN {w w' : World} {ga gb gr go : Nat} {a b z o : List Int} (h : MulS w ga gb gr go a b z o w') (n : Nat) : MulS w ga gb gr go a b z o (w'.drewN n) := by
  obtain ⟨h1, h2, h3, h4, h5, h6⟩ := h
  exact ⟨h1, h2, h3, h4, below_drewN h5 n, h6⟩
theorem zero_q4 : ∀ W, (zeroValue 35).run Tryd.prog W = .ok (.agg (intsA .u64 [0, 0, 0, 0])) W := (zero_of_info (n := 4) (by kernel_rfl)).1
theorem size_q4 : (Tryd.prog.info? 35).map (·.size) = some 4 := by kernel_rfl

set_option maxHeartbeats 1000000 in
theorem mul_c (a b : List Int) (hal : a.length = 4) (hbl : b.length = 4) (ha : WIn a) (hb : WIn b) (w : World) :
    Calls Tryd.prog 20 #[.agg (intsA .u64 a), .agg (intsA .u64 b)] w fun e w' => e = .returned (.agg (intsA .u64 (mulL a b))) ∧ Below w.heap.size w w' := by
  go_enter Tryd.func20, Tryd.ntmps20
  go_wp2_with (first
    | (with_reducible refine at_any ?_; refine at_dst 2 rfl ?_; refine wpList_box_ints rfl 35 (.tmp 0) rfl .u64 a rfl ?_; intro w1 hk1 hs1 hb1)
    | (with_reducible refine at_any ?_; refine at_dst 3 rfl ?_; refine wpList_box_ints rfl 35 (.tmp 1) rfl .u64 b rfl ?_; intro w2 hk2 hs2 hb2)
    | (with_reducible refine at_any ?_; refine at_dst 4 rfl ?_; refine wpList_alloc_ints rfl 35 rfl .u64 [0, 0, 0, 0] zero_q4 ?_; intro w3 hk3 hs3 hb3)
    | (with_reducible refine at_any ?_; refine at_dst 5 rfl ?_; refine wpList_alloc_ints rfl 35 rfl .u64 [0, 0, 0, 0] zero_q4 ?_; intro w4 hk4 hs4 hb4))
  have HI : MulS w w.heap.size w1.heap.size w2.heap.size w3.heap.size a b [0, 0, 0, 0] (mulOut a b 0) w4 := by
    have q1 := hs1.out
    have q2 := hs2.out
    have q3 := hs3.out
    exact ⟨((hk1.out.below hb2 (by omega)).below hb3 (by omega)).below hb4 (by omega), (hk2.out.below hb3 (by omega)).below hb4 (by omega), hk3.out.below hb4 (by omega), hk4.out, hb1.trans ((hb2.mono (by omega)).trans ((hb3.mono (by omega)).trans (hb4.mono (by omega)))), by omega, by omega, by omega, by omega⟩
  obtain ⟨ga, hga⟩ : ∃ g, w.heap.size = g := ⟨_, rfl⟩
  obtain ⟨gb, hgb⟩ : ∃ g, w1.heap.size = g := ⟨_, rfl⟩
  obtain ⟨gr, hgr⟩ : ∃ g, w2.heap.size = g := ⟨_, rfl⟩
  obtain ⟨go, hgo⟩ : ∃ g, w3.heap.size = g := ⟨_, rfl⟩
  have HG := Lib.hid (show w.heap.size ≤ gr by have q1 := hs1.out; have q2 := hs2.out; omega)
  have HZ := Lib.hid (show (Tryd.prog.info? 35).map (·.size) = some (mulL a b).length by rw [show (mulL a b).length = 4 from mulOut_len a b 4]; exact size_q4)
  have HL := Lib.hid (show [(0 : Int), 0, 0, 0].length = (mulL a b).length by rw [show (mulL a b).length = 4 from mulOut_len a b 4]; rfl)
  rw [hga, hgb, hgr, hgo] at HI
  rw [hga, hgb, hgr, hgo]
  have HGA := Lib.hid hga
  clear hk1 hs1 hb1 hk2 hs2 hb2 hk3 hs3 hb3 hk4 hs4 hb4 hgb hgr hgo hga
  go_loopw [6] (fun v wr => ∃ i : Nat, i ≤ 4 ∧ v = .int .i64 i ∧ MulS w ga gb gr go a b [0, 0, 0, 0] (mulOut a b i) wr) (fun v _ => 4 - (intOf v).toNat)
  case atStart => exact ⟨0, by omega, rfl, HI⟩
  case round =>
    clear HI
    obtain ⟨wo, rfl⟩ : ∃ wo, wo = wr := ⟨_, rfl⟩
    obtain ⟨i, hi, rfl, HI⟩ := hrel
    by_cases hlt : i < 4
    · have HO := Lib.hid (mulOut_in a b ha hb i)
      have HOL := Lib.hid (mulOut_len a b i)
      have HN := Lib.hid (show (mulIn a b (mulOut a b i) i (4 - i)).1 = mulOut a b (i + 1) from rfl)
      obtain ⟨O, hO⟩ : ∃ O, mulOut a b i = O := ⟨_, rfl⟩
      rw [hO] at HI HO HOL HN
      clear hO
      have HI' := Lib.hid HI
      clear HI
      go_wp2
      go_loopw [7, 8] (fun c v wq => ∃ k : Nat, i + k ≤ 4 ∧ v = .int .i64 k ∧ c = .int .u64 (mulIn a b O i k).2 ∧ MulS w ga gb gr go a b [0, 0, 0, 0] (mulIn a b O i k).1 wq) (fun _ v _ => 4 - (intOf v).toNat)
      case atStart => exact ⟨0, by omega, rfl, rfl, HI'.out⟩
      case round =>
        clear HI'
        obtain ⟨k, hk, rfl, rfl, HI⟩ := hrel
        by_cases hkl : i + k < 4
        · obtain ⟨hin, hc0, hc1⟩ := mulIn_in a b O i ha hb HO.out k
          have hln : (mulIn a b O i k).1.length = 4 := by rw [mulIn_len, HOL.out]
          obtain ⟨m, hm⟩ : ∃ m, i + k = m := ⟨_, rfl⟩
          have ht := hin.at_ m
          have hx := ha.at_ i
          have hy := hb.at_ k
          have hp := mul_bd (x := a.getD i 0) (y := b.getD k 0) (by omega) (by omega) (by omega) (by omega)
          have hst1 : ((mulIn a b O i k).1.set (i + k) (((mulIn a b O i k).1.getD (i + k) 0 + a.getD i 0 * b.getD k 0 + (mulIn a b O i k).2) % 4294967296)) = (mulIn a b O i (k + 1)).1 := rfl
          have hst2 : ((mulIn a b O i k).1.getD (i + k) 0 + a.getD i 0 * b.getD k 0 + (mulIn a b O i k).2) / 4294967296 = (mulIn a b O i (k + 1)).2 := rfl
          have c1 := HI.1.cell (j := i) (by omega)
          have c2 := HI.2.1.cell (j := k) (by omega)
          have c3 := HI.2.2.2.1.cell (j := m) (by omega)
          have f3 := HI.2.2.2.1.frozen m
          rw [hm] at hst1 hst2
          obtain ⟨M, hM⟩ : ∃ M, (mulIn a b O i k) = M := ⟨_, rfl⟩
          obtain ⟨c, hc⟩ : ∃ c, M.2 = c := ⟨_, rfl⟩
          obtain ⟨t, hT⟩ : ∃ t, M.1.getD m 0 = t := ⟨_, rfl⟩
          obtain ⟨x, hX⟩ : ∃ x, a.getD i 0 = x := ⟨_, rfl⟩
          obtain ⟨y, hY⟩ : ∃ y, b.getD k 0 = y := ⟨_, rfl⟩
          rw [hX, hY] at hp hst1 hst2
          obtain ⟨P, hP⟩ : ∃ P, x * y = P := ⟨_, rfl⟩
          rw [hM] at hst1 hst2 ht hc0 hc1 c3 HI ⊢
          rw [hc] at hst1 hst2 hc0 hc1 ⊢
          rw [hT] at hst1 hst2 ht c3
          rw [hX] at hx c1
          rw [hY] at hy c2
          rw [hP] at hp hst1 hst2
          obtain ⟨R, hR⟩ : ∃ R, t + P + c = R := ⟨_, rfl⟩
          rw [hR] at hst1 hst2
          have HS1 := Lib.hid hst1
          have HS2 := Lib.hid hst2
          have HI' := Lib.hid HI
          have e0 : IntKind.i64.wrap ((i : Int) + (k : Int)) = (m : Int) := by rw [IntWalk.i64_in _ (by omega)]; omega
          have e1 : IntKind.u64.wrap (x * y) = P := by rw [IntKind.wrap_u64, hP]; omega
          have e2 : IntKind.u64.wrap (t + P) = t + P := by rw [IntKind.wrap_u64]; omega
          have e3 : IntKind.u64.wrap (t + P + c) = R := by rw [IntKind.wrap_u64, hR]; omega
          have q0 : (0 : Int) ≤ (m : Int) ∧ (m : Int) < 4 := by omega
          have q1 : (0 : Int) ≤ (i : Int) ∧ (i : Int) < 4 := by omega
          have q2 : (0 : Int) ≤ (k : Int) ∧ (k : Int) < 4 := by omega
          have q3 : (0 : Int) ≤ R ∧ R < 18446744073709551616 := by omega
          have q4 : (i : Int) + (k : Int) < 4 := by omega
          clear hst1 hst2 hin hln hm ht hp hM hc hT hX hY hP hR HI
          go_wp2
          go_quiet (fail)
          go_wp2
          go_roundw
          case rel => exact ⟨k + 1, by omega, by go_num, by rw [HS2.out], by rw [← HS1.out]; exact (HI'.out.drewN _).set_ m _⟩
          case measure => simp [intOf]; omega
        · obtain rfl : k = 4 - i := by omega
          rw [HN.out] at HI
          have HI' := Lib.hid HI
          have q4 : ¬ (i : Int) + ((4 - i : Nat) : Int) < 4 := by omega
          obtain ⟨k, hk0⟩ : ∃ k, 4 - i = k := ⟨_, rfl⟩
          rw [hk0] at q4 ⊢
          have q5 : (0 : Int) ≤ (k : Int) ∧ (k : Int) ≤ 4 := by omega
          clear HI hk0 hkl hk
          go_wp2
          go_roundw
          case rel => exact ⟨i + 1, by omega, by go_num, HI'.out⟩
          case measure => simp [intOf]; omega
    · rw [show ((i : Nat) : Int) = 4 by omega]
      obtain rfl : i = 4 := by omega
      obtain ⟨h1, h2, h3, h4, h5, h6, h7, h8, h9⟩ := HI
      have H4 := Lib.hid (show BlkI wo go 35 .u64 (mulL a b) from h4)
      have H3 := Lib.hid h3
      clear h1 h2 h3 h4
      go_wp2_with (first
        | (with_reducible refine at_any ?_; refine at_dst 43 rfl ?_; refine wpList_load_ints rfl 35 (.tmp 5) rfl go rfl 35 .u64 (mulL a b) H4.out _ Tryd.underlying35 rfl HZ.out ?_)
        | (with_reducible refine at_any ?_; refine at_store 4 rfl ?_; refine wpList_store_ints rfl 35 (.tmp 4) (.tmp 43) rfl gr rfl 35 .u64 [0, 0, 0, 0] (mulL a b) H3.out rfl HL.out HZ.out ?_; intro w9 hk9 hs9 hb9 ho9)
        | (refine bodyPost_cell 4 35 rfl gr rfl 35 .u64 (mulL a b) hk9.out _ Tryd.underlying35 rfl HZ.out rfl ?_))
      first | exact h5.trans (hb9 _ HG.out) | (rw [← HGA.out]; exact h5.trans (hb9 _ HG.out))
end Go.Proofs.YtjmpbmgeaeemnaaDoor

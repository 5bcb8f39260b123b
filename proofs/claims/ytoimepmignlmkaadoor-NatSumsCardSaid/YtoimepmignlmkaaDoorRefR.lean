/-
  What drawlotref10's Times return.
  Conditions: limbs lie in their type's range; the numbers have at most 100,000 limbs.
-/
import Derived.Test.YtoimepmignlmkaaDoorRefQ
set_option maxRecDepth 100000
set_option linter.unusedSimpArgs false
namespace Go.Proofs.YtoimepmignlmkaaDoor
open Go.ChangeShapes Go.WideShapes Go.ChangeAt Go.RowKit
set_option linter.unusedVariables false
set_option maxHeartbeats 8000000 in
theorem r10times_c (xs ys : List Int) (hx : Lim xs) (hy : Lim ys) (A B : Option Addr) (n m c d : Nat) (hn : n ≤ 100000) (hm : m ≤ 100000) (w : World) (hra : Rd .u32 w w.heap.size A n xs) (hrb : Rd .u32 w w.heap.size B m ys) : Calls Tryd.prog 37 #[.slice A n c, .slice B m d] w (RetN w (natL (valL xs * valL ys))) := by
  have hlx := hra.len
  have hly := hrb.len
  have HRA := Lib.hid hra
  have HRB := Lib.hid hrb
  obtain ⟨i0, hi0, hz0, hz1, hzb⟩ := info_parts info_u32d
  have HLB := Lib.hid (fun (i : Nat) W (h : Rd .u32 W W.heap.size B m ys) => r10limb_c ys hy B m d (by unfold maxLen; omega) i W h)
  have HXG := Lib.hid (fun i => hx.getD i)
  have HYG := Lib.hid (fun i => hy.getD i)
  have HYD := Lib.hid (fun i => valL_drop_getD ys i)
  have HXT := Lib.hid (fun i (h : i < n) => valL_take_succ xs i (by omega))
  have HYE := Lib.hid (fun i (h : m ≤ i) => show ys.getD i 0 = 0 by rw [List.getD_eq_getElem?_getD, List.getElem?_eq_none (by omega)]; rfl)
  have HDY := Lib.hid (fun i (h : m ≤ i) => show valL (ys.drop i) = 0 by rw [List.drop_eq_nil_of_le (by omega)]; rfl)
  have hyl := valL_lt hy
  have hxl := fun i => valL_lt (hx.take i)
  rw [hly] at hyl
  have HYL := Lib.hid hyl
  have HXL := Lib.hid hxl
  obtain ⟨L, hL⟩ : ∃ L, n + m = L := ⟨_, rfl⟩
  have hLI : (n : Int) + (m : Int) = (L : Int) := by omega
  have hL2 : (L : Int) ≤ 200000 := by omega
  have hmk : ∀ W, (Instr.makeSlice 26 (.int .i64 (L : Int)) (.int .i64 (L : Int))).run Tryd.prog W = .ok (.slice (some ⟨W.heap.size, 0, none⟩) L L) (W.alloc (.cells (intsA .u32 (List.replicate L 0)) 45)) := fun W => run_make_ints (P := Tryd.prog) 26 45 i0 .u32 Tryd.underlying26 hi0 hz0 hz1 .i64 .i64 L (by rw [hzb]; omega) (by omega) W
  have HS0 : Hid (NatS w w.heap.size (List.replicate L 0) (w.alloc (.cells (intsA .u32 (List.replicate L 0)) 45))) := Lib.hid ⟨Blk.new _ _ _, Nat.le_refl _, (Below.refl _ _).alloc (Nat.le_refl _) _⟩
  have hst : valL (List.replicate L 0) = valL (xs.take 0) * valL ys := by rw [valL_rep, List.take_zero]; show 0 = 0 * _; omega
  have HST := Lib.hid hst
  have htk : xs.take n = xs := by rw [← hlx, List.take_length]
  obtain ⟨Y, hY⟩ : ∃ Y, valL ys = Y := ⟨_, rfl⟩
  rw [hY] at HYL HST ⊢
  have hY0 : valL (ys.drop 0) = Y := by rw [List.drop_zero]; exact hY
  have HY0 := Lib.hid hY0
  clear hra hrb hx hy hst hly hyl hxl hY hY0 hlx hi0 hz0 hz1 hzb
  go_enter Tryd.func37, Tryd.ntmps37
  go_wp2
  clear hmk hLI
  obtain ⟨g, hg⟩ : ∃ g, w.heap.size = g := ⟨_, rfl⟩
  have HS1 : Hid (NatS w g (List.replicate L 0) (w.alloc (.cells (intsA .u32 (List.replicate L 0)) 45))) := by rw [← hg]; exact HS0
  rw [hg]
  clear hg HS0
  obtain ⟨w1, hw1⟩ : ∃ w1, w.alloc (.cells (intsA .u32 (List.replicate L 0)) 45) = w1 := ⟨_, rfl⟩
  rw [hw1] at HS1
  rw [hw1]
  clear hw1
  go_loopw [6] (fun ii wr => ∃ (i : Nat) (out : List Int), i ≤ n ∧ ii = .int .i64 (i : Int) ∧ out.length = L ∧ Lim out ∧ valL out = valL (xs.take i) * Y ∧ NatS w g out wr) (fun ii _ => n - (intOf ii).toNat)
  case atStart => exact ⟨0, _, by omega, rfl, List.length_replicate, Lim.rep _, HST.out, HS1.out⟩
  case round =>
    clear HST HS1
    obtain ⟨i, out0, hi, rfl, hol, hlo, hval, hns⟩ := hrel
    by_cases hin : i < n
    · have HNS := Lib.hid hns
      have hxi := HXG.out i
      have hxt := HXT.out i hin
      obtain ⟨b, off, rfl, hblt, hxc⟩ := HRA.out.at_ (by omega)
      have hxci := hxc i hin
      obtain ⟨x, hxx⟩ : ∃ x, xs.getD i 0 = x := ⟨_, rfl⟩
      rw [hxx] at hxi hxci hxt
      have HXC0 := Lib.hid (fun W (h : Below w.heap.size w W) => (h.cell (p := ⟨b, off + i, none⟩) hblt).trans hxci)
      have HXT1 := Lib.hid hxt
      have hzt : out0.getD (i + m) 0 = 0 := limb_zero hlo (by
        rw [hval, Nat.pow_add]
        have h1 := HXL.out i
        have h2 := HYL.out
        have h3 : (xs.take i).length = i := by rw [List.length_take, HRA.out.len]; omega
        rw [h3] at h1
        exact Nat.mul_lt_mul'' h1 h2)
      obtain ⟨V, hV⟩ : ∃ V, valL out0 + 4294967296 ^ i * (0 + x.toNat * Y) = V := ⟨_, rfl⟩
      have HST : Hid (valL out0 + 4294967296 ^ (i + 0) * (0 + x.toNat * valL (ys.drop 0)) = V) := Lib.hid (by rw [HY0.out, Nat.add_zero]; exact hV)
      have HVV : Hid (V = valL (xs.take (i + 1)) * Y) := Lib.hid (by
        rw [← hV, hval, HXT1.out, Nat.zero_add, Nat.add_mul, Nat.mul_assoc])
      have HZT := Lib.hid hzt
      have HOL := Lib.hid hol
      have HLO := Lib.hid hlo
      have hiI : (i : Int) < (n : Int) := by omega
      have HIN := Lib.hid hiI
      have hi1 : i + 1 ≤ n := by omega
      have HI1 := Lib.hid hi1
      obtain ⟨x0, x1⟩ := hxi
      have HX1 := Lib.hid x1
      have hxn : x.toNat < 4294967296 := by omega
      have hxN : ((x.toNat : Nat) : Int) = x := Int.toNat_of_nonneg x0
      have HXN := Lib.hid hxN
      have HXB := Lib.hid hxn
      have HXW := Lib.hid (show IntKind.u64.wrap x = x by rw [IntKind.wrap_u64]; omega)
      clear hns hol hlo hval hxt hxc hxci hxx hzt hV hblt hi hxn hxN
      go_wp2
      obtain ⟨wo, hwo⟩ : ∃ wo : World, wo = wr := ⟨_, rfl⟩
      rw [← hwo] at HNS
      rw [← hwo]
      clear hwo wr
      go_loopw [7, 8] (fun cc kk wr => ∃ (k r : Nat) (out : List Int), k ≤ m + 1 ∧ (k = m + 1 → r = 0) ∧ r < 4294967296 ∧ cc = .int .u64 (r : Int) ∧ kk = .int .i64 (k : Int) ∧ out.length = L ∧ Lim out ∧ valL out + 4294967296 ^ (i + k) * (r + x.toNat * valL (ys.drop k)) = V ∧ (k ≤ m → out.getD (i + m) 0 = 0) ∧ NatS w g out wr) (fun _ kk _ => m + 1 - (intOf kk).toNat)
      case atStart => exact ⟨0, 0, out0, by omega, fun h => rfl, by omega, rfl, rfl, HOL.out, HLO.out, HST.out, fun _ => HZT.out, HNS.out⟩
      case round =>
        clear HST HNS HOL HLO HZT
        obtain ⟨k, r, out, hk, hkr, hr1, rfl, rfl, hol, hlo, hval, hzt, hns⟩ := hrel
        by_cases hgo : k < m ∨ 0 < r
        · have hkm : k ≤ m := by
            rcases hgo with h | h
            · omega
            · rcases Nat.lt_or_ge k (m + 1) with h2 | h2
              · omega
              · have := hkr (by omega); omega
          have hyi := HYG.out k
          have hye := HYE.out k
          have hlb := fun W (h : Rd .u32 W W.heap.size B m ys) => HLB.out k W h
          rw [HYD.out k] at hval
          obtain ⟨y, hyy⟩ : ∃ x, ys.getD k 0 = x := ⟨_, rfl⟩
          rw [hyy] at hyi hlb hval hye
          obtain ⟨j, hj⟩ : ∃ j, i + k = j := ⟨_, rfl⟩
          have hjL : j < L := by have := HI1.out; omega
          have hoi := hlo.getD j
          obtain ⟨o, hoo⟩ : ∃ o, out.getD j 0 = o := ⟨_, rfl⟩
          have hoc := fun W (h : NatS w g out W) => h.at_ (j := j) (by omega)
          rw [hoo] at hoi hoc
          have hxb := mul_bound HXB.out (show y.toNat < 4294967296 by omega)
          obtain ⟨t, ht⟩ : ∃ t, x.toNat * y.toNat = t := ⟨_, rfl⟩
          have htI : x * y = (t : Int) := by
            rw [← ht, Int.natCast_mul, HXN.out, Int.toNat_of_nonneg hyi.1]
          rw [ht] at hxb
          obtain ⟨s, hs⟩ : ∃ s : Nat, s = o.toNat + t + r := ⟨_, rfl⟩
          have hsI : o + (t : Int) + (r : Int) = (s : Int) := by omega
          have hmod : (s : Int) % 4294967296 = ((s % 4294967296 : Nat) : Int) := by omega
          have hdiv : (s : Int) / 4294967296 = ((s / 4294967296 : Nat) : Int) := by omega
          have hsb : s < 18446744073709551616 := by omega
          obtain ⟨p, hp⟩ : ∃ p, s % 4294967296 = p := ⟨_, rfl⟩
          obtain ⟨q, hq⟩ : ∃ p, s / 4294967296 = p := ⟨_, rfl⟩
          rw [hp] at hmod
          rw [hq] at hdiv
          have hpq : p + 4294967296 * q = s := by omega
          have hset := valL_set out j (p : Int) (by omega)
          rw [hoo, Int.toNat_natCast] at hset
          rw [hj] at hval
          have hnew := mul_step (4294967296 ^ j) p q r o.toNat x.toNat y.toNat (valL (ys.drop (k + 1))) (valL out) (valL (out.set j (p : Int))) V (by rw [ht]; omega) hset hval
          have HV2 : Hid (valL (out.set j (p : Int)) + 4294967296 ^ (i + (k + 1)) * (q + x.toNat * valL (ys.drop (k + 1))) = V) := Lib.hid (by rw [← Nat.add_assoc, hj, Nat.pow_succ]; exact hnew)
          have HLM2 := Lib.hid (hlo.set j (x := (p : Int)) ⟨by omega, by omega⟩)
          have HL2 : Hid ((out.set j (p : Int)).length = L) := Lib.hid (by rw [List.length_set]; exact hol)
          have HK2 : Hid (k + 1 ≤ m + 1) := Lib.hid (by omega)
          have HQ1 : Hid (q < 4294967296) := Lib.hid (by omega)
          have HK3 : Hid (k + 1 = m + 1 → q = 0) := Lib.hid (fun h => by
            obtain rfl : k = m := by omega
            have h1 := hye (Nat.le_refl _)
            have h2 := hzt (Nat.le_refl _)
            rw [hj, hoo] at h2
            subst h1 h2
            have : t = 0 := by rw [← ht]; rfl
            omega)
          have HZ2 : Hid (k + 1 ≤ m → (out.set j (p : Int)).getD (i + m) 0 = 0) := Lib.hid (fun h => by
            have h2 := hzt hkm
            rw [List.getD_eq_getElem?_getD] at h2 ⊢
            rw [List.getElem?_set_ne (by omega)]
            exact h2)
          have HIK := Lib.hid (show (i : Int) + (k : Int) = (j : Int) by omega)
          have HJW := Lib.hid (show IntKind.i64.wrap (j : Int) = (j : Int) by rw [IntKind.wrap_i64]; omega)
          have HJL := Lib.hid (show (j : Int) < (L : Int) by omega)
          have HOC := Lib.hid hoc
          have HOW := Lib.hid (show IntKind.u64.wrap o = o by rw [IntKind.wrap_u64]; omega)
          have HXC := Lib.hid (fun W (h : NatS w g out W) => HXC0.out W h.bel)
          obtain ⟨xy, hxy⟩ : ∃ z : Int, (t : Int) = z := ⟨_, rfl⟩
          rw [hxy] at htI hsI
          have HXY := Lib.hid htI
          have HXYW := Lib.hid (show IntKind.u64.wrap xy = xy by rw [IntKind.wrap_u64]; omega)
          have HOXW := Lib.hid (show IntKind.u64.wrap (o + xy) = o + xy by rw [IntKind.wrap_u64]; omega)
          have HSI := Lib.hid hsI
          have HSW := Lib.hid (show IntKind.u64.wrap (s : Int) = (s : Int) by rw [IntKind.wrap_u64]; omega)
          have HLB1 := Lib.hid hlb
          have HJS := Lib.hid (nat_lt (out := out) (j := j) (by omega))
          have hpw : IntKind.u32.wrap (p : Int) = (p : Int) := by rw [IntKind.wrap_u32]; omega
          have HPW := Lib.hid hpw
          have HNS := Lib.hid hns
          have hor : ((k : Int) < (m : Int)) ∨ (¬ (k : Int) < (m : Int) ∧ (0 : Int) < (r : Int)) := by omega
          have r1 : (r : Int) ≤ 4294967296 := by omega
          have k1 : (k : Int) ≤ 100001 := by omega
          have j1 : (j : Int) < (L : Int) := by omega
          clear hk hkr hr1 hol hlo hval hzt hns hgo hkm hyi hye hlb hyy hj hjL hoi hoo hoc hxb ht htI hs hsI hp hq hpq hset hnew hxy hsb
          rcases hor with h | ⟨h, h'⟩
          all_goals
            go_wp2
            refine wp_region_held_drew (S := (NatS w g out)) (by kernel_rfl) (HNS.out.drew) (fun hH => ?_)
            refine wpAnyH_letter #[false, false, false, false, false, false, false, false, false, false, false, false, false, false, false, false, false, false, false, false] (by kernel_rfl) (fun _ _ d _ _ h => by cases d <;> exact h) (fun QL HQ1 HQ2 => ?_)
            refine held_v 0 (some 32) rfl (by kernel_rfl) (by kernel_rfl) (by kernel_rfl) (by kernel_rfl) (fun c a v w h => HQ2.out c a _ v w h) (by kernel_rfl) (.slice (some ⟨g, 0, none⟩) L L) (fun W h => by kernel_rfl) hH ?_
            try simp only [Act.put, List.setIfInBounds_toArray, List.set_cons_zero, List.set_cons_succ]
            refine held_v 1 (some 33) rfl (by kernel_rfl) (by kernel_rfl) (by kernel_rfl) (by kernel_rfl) (fun c a v w h => HQ2.out c a _ v w h) (by kernel_rfl) (.int .i64 (i : Int)) (fun W h => by kernel_rfl) hH ?_
            try simp only [Act.put, List.setIfInBounds_toArray, List.set_cons_zero, List.set_cons_succ]
            refine held_v 2 (some 34) rfl (by kernel_rfl) (by kernel_rfl) (by kernel_rfl) (by kernel_rfl) (fun c a v w h => HQ2.out c a _ v w h) (by kernel_rfl) (.int .i64 (k : Int)) (fun W h => by kernel_rfl) hH ?_
            try simp only [Act.put, List.setIfInBounds_toArray, List.set_cons_zero, List.set_cons_succ]
            refine held_v 3 (some 35) rfl (by kernel_rfl) (by kernel_rfl) (by kernel_rfl) (by kernel_rfl) (fun c a v w h => HQ2.out c a _ v w h) (by kernel_rfl) (.int .i64 (j : Int)) (fun W h => by have p := HIK.out; have p2 := HJW.out; go_simp) hH ?_
            try simp only [Act.put, List.setIfInBounds_toArray, List.set_cons_zero, List.set_cons_succ]
            refine held_v 4 (some 36) rfl (by kernel_rfl) (by kernel_rfl) (by kernel_rfl) (by kernel_rfl) (fun c a v w h => HQ2.out c a _ v w h) (by kernel_rfl) (.pointer (some ⟨g, j, none⟩)) (fun W h => by have p := HJL.out; go_simp) hH ?_
            try simp only [Act.put, List.setIfInBounds_toArray, List.set_cons_zero, List.set_cons_succ]
            refine held_v 5 (some 37) rfl (by kernel_rfl) (by kernel_rfl) (by kernel_rfl) (by kernel_rfl) (fun c a v w h => HQ2.out c a _ v w h) (by kernel_rfl) (.int .u32 o) (fun W h => by have p := HOC.out W h; go_simp) hH ?_
            try simp only [Act.put, List.setIfInBounds_toArray, List.set_cons_zero, List.set_cons_succ]
            refine held_v 6 (some 38) rfl (by kernel_rfl) (by kernel_rfl) (by kernel_rfl) (by kernel_rfl) (fun c a v w h => HQ2.out c a _ v w h) (by kernel_rfl) (.int .u64 o) (fun W h => by have p := HOW.out; go_simp) hH ?_
            try simp only [Act.put, List.setIfInBounds_toArray, List.set_cons_zero, List.set_cons_succ]
            refine held_v 7 (some 39) rfl (by kernel_rfl) (by kernel_rfl) (by kernel_rfl) (by kernel_rfl) (fun c a v w h => HQ2.out c a _ v w h) (by kernel_rfl) (.slice (some ⟨b, off, none⟩) n c) (fun W h => by kernel_rfl) hH ?_
            try simp only [Act.put, List.setIfInBounds_toArray, List.set_cons_zero, List.set_cons_succ]
            refine held_v 8 (some 40) rfl (by kernel_rfl) (by kernel_rfl) (by kernel_rfl) (by kernel_rfl) (fun c a v w h => HQ2.out c a _ v w h) (by kernel_rfl) (.int .i64 (i : Int)) (fun W h => by kernel_rfl) hH ?_
            try simp only [Act.put, List.setIfInBounds_toArray, List.set_cons_zero, List.set_cons_succ]
            refine held_v 9 (some 41) rfl (by kernel_rfl) (by kernel_rfl) (by kernel_rfl) (by kernel_rfl) (fun c a v w h => HQ2.out c a _ v w h) (by kernel_rfl) (.pointer (some ⟨b, off + i, none⟩)) (fun W h => by have p := HIN.out; go_simp) hH ?_
            try simp only [Act.put, List.setIfInBounds_toArray, List.set_cons_zero, List.set_cons_succ]
            refine held_v 10 (some 42) rfl (by kernel_rfl) (by kernel_rfl) (by kernel_rfl) (by kernel_rfl) (fun c a v w h => HQ2.out c a _ v w h) (by kernel_rfl) (.int .u32 x) (fun W h => by have p := HXC.out W h; go_simp) hH ?_
            try simp only [Act.put, List.setIfInBounds_toArray, List.set_cons_zero, List.set_cons_succ]
            refine held_v 11 (some 43) rfl (by kernel_rfl) (by kernel_rfl) (by kernel_rfl) (by kernel_rfl) (fun c a v w h => HQ2.out c a _ v w h) (by kernel_rfl) (.int .u64 x) (fun W h => by have p := HXW.out; go_simp) hH ?_
            try simp only [Act.put, List.setIfInBounds_toArray, List.set_cons_zero, List.set_cons_succ]
            refine held_v 12 (some 44) rfl (by kernel_rfl) (by kernel_rfl) (by kernel_rfl) (by kernel_rfl) (fun c a v w h => HQ2.out c a _ v w h) (by kernel_rfl) (.slice B m d) (fun W h => by kernel_rfl) hH ?_
            try simp only [Act.put, List.setIfInBounds_toArray, List.set_cons_zero, List.set_cons_succ]
            refine held_v 13 (some 45) rfl (by kernel_rfl) (by kernel_rfl) (by kernel_rfl) (by kernel_rfl) (fun c a v w h => HQ2.out c a _ v w h) (by kernel_rfl) (.int .i64 (k : Int)) (fun W h => by kernel_rfl) hH ?_
            try simp only [Act.put, List.setIfInBounds_toArray, List.set_cons_zero, List.set_cons_succ]
            refine held_v 17 (some 49) rfl (by kernel_rfl) (by kernel_rfl) (by kernel_rfl) (by kernel_rfl) (fun c a v w h => HQ2.out c a _ v w h) (by kernel_rfl) (.int .u64 (r : Int)) (fun W h => by kernel_rfl) hH ?_
            try simp only [Act.put, List.setIfInBounds_toArray, List.set_cons_zero, List.set_cons_succ]
            refine wpAnyH_ready (rs := [14]) (by kernel_rfl) (by decide) ?_
            refine AllReadyH.cons rfl (fun K hK => ?_) AllReadyH.nil
            refine step_call (some 46) (by kernel_rfl) (by kernel_rfl) _ _ (by kernel_rfl) _ (HLB1.out _ (HRB.out.below (NatS.bel hH)).fit) ?_
            rintro e _ ⟨rfl, rfl⟩
            refine ⟨_, rfl, ?_⟩
            refine hK.out _ _ hH (fun _ => ?_)
            clear hK K
            try simp only [Act.put, List.setIfInBounds_toArray, List.set_cons_zero, List.set_cons_succ]
            refine held_v 15 (some 47) rfl (by kernel_rfl) (by kernel_rfl) (by kernel_rfl) (by kernel_rfl) (fun c a v w h => HQ2.out c a _ v w h) (by kernel_rfl) (.int .u64 xy) (fun W h => by have p := HXY.out; have p2 := HXYW.out; go_simp) hH ?_
            try simp only [Act.put, List.setIfInBounds_toArray, List.set_cons_zero, List.set_cons_succ]
            refine held_v 16 (some 48) rfl (by kernel_rfl) (by kernel_rfl) (by kernel_rfl) (by kernel_rfl) (fun c a v w h => HQ2.out c a _ v w h) (by kernel_rfl) (.int .u64 (o + xy)) (fun W h => by have p := HOXW.out; go_simp) hH ?_
            try simp only [Act.put, List.setIfInBounds_toArray, List.set_cons_zero, List.set_cons_succ]
            refine held_v 18 (some 50) rfl (by kernel_rfl) (by kernel_rfl) (by kernel_rfl) (by kernel_rfl) (fun c a v w h => HQ2.out c a _ v w h) (by kernel_rfl) (.int .u64 (s : Int)) (fun W h => by have p := HSI.out; have p2 := HSW.out; go_simp) hH ?_
            try simp only [Act.put, List.setIfInBounds_toArray, List.set_cons_zero, List.set_cons_succ]
            refine held_v 19 (some 9) rfl (by kernel_rfl) (by kernel_rfl) (by kernel_rfl) (by kernel_rfl) (fun c a v w h => HQ2.out c a _ v w h) (by kernel_rfl) (.int .u64 (s : Int)) (fun W h => by kernel_rfl) hH ?_
            try simp only [Act.put, List.setIfInBounds_toArray, List.set_cons_zero, List.set_cons_succ]
            refine wpAnyH_done (by kernel_rfl) ?_ _
            refine HQ1.out _ _ ?_
            clear HQ1 HQ2
            have HH := Lib.hid hH
            have e1 := HIK.out
            have e2 := HPW.out
            have e3 : IntKind.u64.wrap (q : Int) = (q : Int) := by have := HQ1.out; rw [IntKind.wrap_u64]; omega
            go_wp2_with (first
              | (with_reducible refine at_any ?_; refine at_store 60 rfl ?_; refine wpList_store_cell rfl 45 (.tmp 60) (.tmp 57) rfl g j rfl 45 (intsA .u32 out) (NatS.blk HH.out) (.int .u32 (p : Int)) rfl HJS.out size_u32s rfl rfl ?_; intro w90 hk90 ho90; have HF9 := Lib.hid (NatS.set HH.out hk90.out ho90); clear hk90 ho90))
            go_roundw
            case rel => exact ⟨k + 1, q, _, HK2.out, HK3.out, HQ1.out, rfl, by go_num, HL2.out, HLM2.out, HV2.out, HZ2.out, HF9.out⟩
            case measure => have := HK2.out; simp [intOf]; omega
        · obtain rfl : r = 0 := by omega
          have hVt := hval
          rw [HDY.out k (by omega), Nat.mul_zero, Nat.zero_add, Nat.mul_zero, Nat.add_zero] at hVt
          have HVT := Lib.hid (hVt.trans HVV.out)
          have HOL2 := Lib.hid hol
          have HLO2 := Lib.hid hlo
          have HN2 := Lib.hid hns
          have h1 : (m : Int) ≤ (k : Int) := by omega
          clear hk hkr hr1 hol hlo hval hzt hns hgo hVt
          go_wp2
          go_roundw
          case rel => exact ⟨i + 1, _, HI1.out, by go_num, HOL2.out, HLO2.out, HVT.out, HN2.out⟩
          case measure => have := HI1.out; simp [intOf]; omega
    · obtain rfl : i = n := by omega
      rw [htk] at hval
      have hrd7 := hns.rd
      have htr := r10trim_c out0 (some ⟨g, 0, none⟩) out0.length L (by unfold maxLen; omega) (by omega) wr hrd7
      have hrt := rd_trim hrd7
      have htl := trimL_len out0
      rw [trimL_eq hlo, hval] at htr hrt htl
      rw [hol] at htr htl
      have HTR := Lib.hid htr
      have HRT := Lib.hid hrt
      have HTL := Lib.hid htl
      have HBL := Lib.hid hns.bel
      have HML : Hid (L ≤ maxLen) := Lib.hid (by unfold maxLen; omega)
      clear htr hrt htl hrd7 hval hlo hol hns
      go_wp2_with (first
        | (go_at_call 40; (with_reducible refine HTR.out.mono ?_); rintro e _ ⟨rfl, rfl⟩))
      go_ret
      exact ⟨_, _, rfl, HTL.out, HML.out, HRT.out, HBL.out⟩
end Go.Proofs.YtoimepmignlmkaaDoor

/-
  Of all tapes each place leads by just as many as its stake says, and nobody by just the others; of up to 6 stakes up to 4, and tapes of up to 12 bits.
  Conditions: the program's table of constants reads, when the call begins, as its text lays it (the card ties that).
-/
import Derived.Test.YtomkidgmpbjgeaaDoorGe
import Derived.ShutString
import Derived.Test.YtomkidgmpbjgeaaDoorTie
import Derived.Test.YtomkidgmpbjgeaaDoorCards
import Derived.SevenTiedAt
import Derived.ChangeOld
namespace Go.Proofs.YtomkidgmpbjgeaaDoor.pickCounts
open Go.ChangeShapes Go.WideShapes Go.ChangeAt Go.RowKit
set_option linter.unusedVariables false
set_option linter.unusedSimpArgs false
set_option maxRecDepth 100000

theorem own : ownKnob Tryd.prog.godebug = none := by kernel_rfl
theorem laidOut : laidOutB Tryd.prog = true := by kernel_rfl

theorem rd_on {w w1 : World} {A : Option Addr} {n : Nat} {l : List Int} (hr : Rd .u64 w w.heap.size A n l) (hb : Below w.heap.size w w1) : Rd .u64 w1 w1.heap.size A n l := (hr.below hb).mono hb.size
theorem own_non (w : World) (base : Nat) (e : TypeId) (k : IntKind) : OwnI w base e k (.slice none 0 0) [] := ⟨rfl, .inl ⟨rfl, rfl⟩⟩
theorem modK_sum4 : ∀ l : List Int, sumL (modK 5 l) ≤ 4 * (l.length : Int)
  | [] => by simp [modK, sumL]
  | x :: l => by
    have ih := modK_sum4 l
    show x % 5 + sumL (modK 5 l) ≤ 4 * ((l.length + 1 : Nat) : Int)
    have := Int.emod_lt_of_pos x (show (0 : Int) < 5 by omega)
    omega
theorem modK_pre5 (l : List Int) : ∀ i : Nat, i ≤ l.length → 0 ≤ sumL ((modK 5 l).take i) ∧ sumL ((modK 5 l).take i) ≤ 5 * (i : Int)
  | 0, _ => by simp [sumL]
  | i + 1, h => by
    have ih := modK_pre5 l i (by omega)
    have h1 := modK_at (d := 5) (l := l) (i := i) (by omega)
    rw [sumL_take (by rw [modK_len]; omega), h1]
    omega
theorem Fx.kr0 {B : Nat} {R : World → Prop} {l : List Fact} {w : World} (h : Fx (.kept B R :: l) w) : ∀ w2, Below B w w2 → R w2 := h.1.1
theorem Fx.kr1 {B : Nat} {R : World → Prop} {l : List Fact} {w : World} {f0 : Fact} (h : Fx (f0 :: .kept B R :: l) w) : ∀ w2, Below B w w2 → R w2 := h.2.1.1
theorem Fx.kr2 {B : Nat} {R : World → Prop} {l : List Fact} {w : World} {f0 f1 : Fact} (h : Fx (f0 :: f1 :: .kept B R :: l) w) : ∀ w2, Below B w w2 → R w2 := h.2.2.1.1
theorem Fx.kr3 {B : Nat} {R : World → Prop} {l : List Fact} {w : World} {f0 f1 f2 : Fact} (h : Fx (f0 :: f1 :: f2 :: .kept B R :: l) w) : ∀ w2, Below B w w2 → R w2 := h.2.2.2.1.1
theorem Fx.kr4 {B : Nat} {R : World → Prop} {l : List Fact} {w : World} {f0 f1 f2 f3 : Fact} (h : Fx (f0 :: f1 :: f2 :: f3 :: .kept B R :: l) w) : ∀ w2, Below B w w2 → R w2 := h.2.2.2.2.1.1
theorem Fx.kr5 {B : Nat} {R : World → Prop} {l : List Fact} {w : World} {f0 f1 f2 f3 f4 : Fact} (h : Fx (f0 :: f1 :: f2 :: f3 :: f4 :: .kept B R :: l) w) : ∀ w2, Below B w w2 → R w2 := h.2.2.2.2.2.1.1
theorem Fx.kr6 {B : Nat} {R : World → Prop} {l : List Fact} {w : World} {f0 f1 f2 f3 f4 f5 : Fact} (h : Fx (f0 :: f1 :: f2 :: f3 :: f4 :: f5 :: .kept B R :: l) w) : ∀ w2, Below B w w2 → R w2 := h.2.2.2.2.2.2.1.1
theorem Fx.kr7 {B : Nat} {R : World → Prop} {l : List Fact} {w : World} {f0 f1 f2 f3 f4 f5 f6 : Fact} (h : Fx (f0 :: f1 :: f2 :: f3 :: f4 :: f5 :: f6 :: .kept B R :: l) w) : ∀ w2, Below B w w2 → R w2 := h.2.2.2.2.2.2.2.1.1
theorem Fx.kr8 {B : Nat} {R : World → Prop} {l : List Fact} {w : World} {f0 f1 f2 f3 f4 f5 f6 f7 : Fact} (h : Fx (f0 :: f1 :: f2 :: f3 :: f4 :: f5 :: f6 :: f7 :: .kept B R :: l) w) : ∀ w2, Below B w w2 → R w2 := h.2.2.2.2.2.2.2.2.1.1
theorem Fx.kr9 {B : Nat} {R : World → Prop} {l : List Fact} {w : World} {f0 f1 f2 f3 f4 f5 f6 f7 f8 : Fact} (h : Fx (f0 :: f1 :: f2 :: f3 :: f4 :: f5 :: f6 :: f7 :: f8 :: .kept B R :: l) w) : ∀ w2, Below B w w2 → R w2 := h.2.2.2.2.2.2.2.2.2.1.1
theorem Fx.kr10 {B : Nat} {R : World → Prop} {l : List Fact} {w : World} {f0 f1 f2 f3 f4 f5 f6 f7 f8 f9 : Fact} (h : Fx (f0 :: f1 :: f2 :: f3 :: f4 :: f5 :: f6 :: f7 :: f8 :: f9 :: .kept B R :: l) w) : ∀ w2, Below B w w2 → R w2 := h.2.2.2.2.2.2.2.2.2.2.1.1
theorem Fx.kr11 {B : Nat} {R : World → Prop} {l : List Fact} {w : World} {f0 f1 f2 f3 f4 f5 f6 f7 f8 f9 f10 : Fact} (h : Fx (f0 :: f1 :: f2 :: f3 :: f4 :: f5 :: f6 :: f7 :: f8 :: f9 :: f10 :: .kept B R :: l) w) : ∀ w2, Below B w w2 → R w2 := h.2.2.2.2.2.2.2.2.2.2.2.1.1
theorem Fx.kr12 {B : Nat} {R : World → Prop} {l : List Fact} {w : World} {f0 f1 f2 f3 f4 f5 f6 f7 f8 f9 f10 f11 : Fact} (h : Fx (f0 :: f1 :: f2 :: f3 :: f4 :: f5 :: f6 :: f7 :: f8 :: f9 :: f10 :: f11 :: .kept B R :: l) w) : ∀ w2, Below B w w2 → R w2 := h.2.2.2.2.2.2.2.2.2.2.2.2.1.1
theorem need144 : ∀ c, c < 144 → needN ((c + 1 : Nat) : Int) ≤ 8 ∧ c + 1 ≤ 2 ^ needN ((c + 1 : Nat) : Int) := by decide +kernel
theorem draw_num (x k b t : Nat) (hk : needN (b : Int) = k) (hk4 : k ≤ 64) (hb1 : 1 ≤ b) (hb2 : b ≤ 144) (t1 : 1 ≤ t) (t4 : t ≤ 64) (hx : x < (2 ^ k) ^ t) : DrawsAs (k * t) (hits (2 ^ k) b t x) (drawR (numT x (k * t)) (b : Int) (t : Int)) := by
  have hr : rightS (numT x (k * t)) = true := (takeE_ok.1 (numT_take x (k * t) 0 0 (by omega) (by omega)).1).1
  have hB : drawB (numT x (k * t)) (b : Int) (t : Int) = true := by
    unfold drawB
    rw [hr, Bool.true_and]
    exact decide_eq_true ⟨by omega, by omega, by omega, by omega⟩
  unfold drawR
  rw [if_pos hB, hk, Int.toNat_natCast]
  have h := numT_draw x k b t hk4 t (Nat.le_refl _)
  rw [Nat.mod_eq_of_lt hx, Nat.sub_self, Nat.mul_zero] at h
  exact h
theorem draws_some {bits v : Nat} {h : Option Nat} {r : Int × Src × Int} (hd : DrawsAs bits h r) (e : h = some v) : r.1 = (v : Int) ∧ r.2.2 = 0 ∧ r.2.1.at_ ≤ (bits : Int) := by subst e; exact hd
theorem draws_none {bits : Nat} {h : Option Nat} {r : Int × Src × Int} (hd : DrawsAs bits h r) (e : h = none) : r.2.2 = 9 ∧ r.2.1.at_ = (bits : Int) := by subst e; exact hd
theorem pow_in (x y n : Nat) (h : x ≤ y) (hy : 1 ≤ y) (i : Nat) (hi : i ≤ n) : x ^ i ≤ y ^ n := Nat.le_trans (Nat.pow_le_pow_left h i) (Nat.pow_le_pow_right hy hi)
set_option maxHeartbeats 32000000 in
theorem walk (a0 : Option Addr) (n c : Nat) (zs : List Int) (a1 : Int) (w : World) (hrd : Rd .u64 w w.heap.size a0 n zs) (lc : n ≤ c) (cm : c ≤ maxLen) (hw : ∀ z ∈ zs, (Lit.int .u64 z).wf = true) (w1 : (Lit.int .u8 a1).wf = true) (hkst : Kst w) :
    Calls Tryd.prog 3 #[.slice a0 n c, .int .u8 a1] w fun e w' => e = .returned (.bool true) ∧ Below w.heap.size w w' := by
  obtain ⟨ti, hti, hz0, hz1, hzb⟩ := info_parts info_u64d
  have HKS := Lib.hid hkst
  have HR := Lib.hid hrd
  have hlen := hrd.len
  have hnm : (n : Int) ≤ 9223372036854775807 := by unfold maxLen at cm; omega
  have m0 : 0 ≤ a1 := (bounds_u8 w1).1
  have m1 : a1 < 256 := by have := (bounds_u8 w1).2; omega
  by_cases hg : 6 < n
  · have hg2 : (6 : Int) < (n : Int) := by omega
    clear hrd hw hg hkst w1
    go_enter Tryd.func3, Tryd.ntmps3
    go_wp2_with (go_at_call 5; (with_reducible refine (alive15_c _ HKS.out).mono ?_); rintro e w1 ⟨rfl, hb1⟩; have HB1 := Lib.hid hb1; have HR1A := Lib.hid (rd_on HR.out hb1); clear hb1)
    go_ret
    exact ⟨rfl, HB1.out⟩
  have hg2 : (n : Int) ≤ 6 := by omega
  have HZ : Hid (∀ k, k < n → 0 ≤ zs.getD k 0 ∧ zs.getD k 0 < 18446744073709551616) := Lib.hid (fun k h => by
    obtain ⟨h1, h2⟩ := bounds_u64 (hw _ (getD_in (l := zs) (k := k) (by omega)))
    omega)
  have HPR := Lib.hid (fun i (h : i ≤ n) => modK_pre5 zs i (by omega))
  have HNX1 : Hid (∀ i, i < n → sumL ((modK 5 zs).take (i + 1)) = sumL ((modK 5 zs).take i) + zs.getD i 0 % 5) := Lib.hid (fun i h => by rw [sumL_take (by rw [modK_len]; omega), modK_at (by omega)])
  have HTK := Lib.hid (fun i (h : i < n) => modK_take (d := 5) (l := zs) (i := i) (by omega))
  have hS : ∀ z ∈ modK 5 zs, 0 ≤ z ∧ z < 5 := modK_in (by omega)
  have hS24 : sumL (modK 5 zs) ≤ 24 := by
    have := modK_sum4 zs
    omega
  have hlS : (modK 5 zs).length = n := (modK_len 5 zs).trans hlen
  obtain ⟨S, hSS⟩ : ∃ S, modK 5 zs = S := ⟨_, rfl⟩
  rw [hSS] at HPR HNX1 HTK hS hlS hS24
  have HSA : Hid (sumL (S.take n) = sumL S) := Lib.hid (by rw [← hlS, List.take_length])
  have hSU : ∀ z ∈ S, z < 18446744073709551616 := fun z h => by have := (hS z h).2; omega
  have HS0 : Hid (∀ z ∈ S, 0 ≤ z) := Lib.hid (fun z h => (hS z h).1)
  have HSG : Hid (∀ i, i < n → 0 ≤ S.getD i 0 ∧ S.getD i 0 < 5) := Lib.hid (fun i h => hS _ (getD_in (by omega)))
  have HLS := Lib.hid hlS
  have hBB : ∀ m : Nat, m ≤ 6 → ∀ tt : Nat, sumL S = (tt : Int) → m * tt ≤ 144 := fun m hm tt h => by
    have h1 : tt ≤ 24 := by have := hS24; omega
    exact Nat.mul_le_mul hm h1
  have HLEN : Hid (∀ i, i ≤ n → (S.take i).length = i) := Lib.hid (fun i h => by rw [List.length_take]; omega)
  have htm : a1.tmod 2 = a1 % 2 := Int.tmod_eq_emod_of_nonneg m0
  obtain ⟨q, hq⟩ : ∃ q, a1 % 2 = q := ⟨_, rfl⟩
  have q0 : 0 ≤ q := by rw [← hq]; exact Int.emod_nonneg _ (by omega)
  have q1 : q < 2 := by rw [← hq]; exact Int.emod_lt_of_pos _ (by omega)
  rw [hq] at htm
  obtain ⟨t, ht⟩ : ∃ t : Nat, 1 + q = (t : Int) := ⟨(1 + q).toNat, by omega⟩
  have ht1 : 1 ≤ t := by omega
  have ht3 : t ≤ 2 := by omega
  clear hrd hw hSS hS hlS lc cm hlen hq w1 hkst hg
  go_enter Tryd.func3, Tryd.ntmps3
  go_wp2_with (go_at_call 5; (with_reducible refine (alive15_c _ HKS.out).mono ?_); rintro e w1 ⟨rfl, hb1⟩; have HB1 := Lib.hid hb1; have HR1A := Lib.hid (rd_on HR.out hb1); clear hb1)
  go_loopw [5, 6, 7] (fun v tt ii wr => ∃ j : Nat, j ≤ n ∧ ii = .int .i64 (j : Int) ∧ tt = .int .u64 (sumL (S.take j)) ∧ OwnI wr w1.heap.size 24 .u64 v (S.take j) ∧ Below w1.heap.size w1 wr) (fun _ _ ii _ => n - (intOf ii).toNat)
  case atStart => exact ⟨0, by omega, rfl, rfl, own_non _ _ _ _, Below.refl _ _⟩
  case round =>
    obtain ⟨j, hj, rfl, rfl, hown, hb⟩ := hrel
    obtain ⟨A5, c5, rfl, hl5, hm5⟩ := hown.form
    rw [HLEN.out j hj] at hown hl5 ⊢
    by_cases hlt : j < n
    · have hlt2 : (j : Int) < (n : Int) := by omega
      obtain ⟨g, off, ha0, -, hc⟩ := (rd_on HR1A.out hb).at_ (by omega)
      subst ha0
      have hck := hc j (by omega)
      have htk := HTK.out j hlt
      have hzk := HZ.out j hlt
      have hnx := HNX1.out j hlt
      have hpr := HPR.out j hj
      obtain ⟨z, hz⟩ : ∃ z, zs.getD j 0 = z := ⟨_, rfl⟩
      rw [hz] at hck htk hzk hnx
      obtain ⟨z00, z01⟩ := hzk
      have htz : z.tmod 5 = z % 5 := Int.tmod_eq_emod_of_nonneg z00
      obtain ⟨y, hy⟩ : ∃ y, z % 5 = y := ⟨_, rfl⟩
      have y0 : 0 ≤ y := by rw [← hy]; exact Int.emod_nonneg _ (by omega)
      have y1 : y < 5 := by rw [← hy]; exact Int.emod_lt_of_pos _ (by omega)
      rw [hy] at htz htk hnx
      obtain ⟨p, hp⟩ : ∃ p, sumL (S.take j) = p := ⟨_, rfl⟩
      rw [hp] at hnx hpr ⊢
      have HNP := Lib.hid hnx
      have p0 : 0 ≤ p := hpr.1
      have p1 : p ≤ 30 := by have := hpr.2; omega
      have HN2 := Lib.hid htk.symm
      have HON := Lib.hid hown
      have HBN := Lib.hid hb
      have HLJ := Lib.hid (HLEN.out j hj)
      have hj40 : j ≤ 6 := by omega
      have HCA : Hid (∀ W, Below w1.heap.size w1 W → W.cell? ⟨g, off + j, none⟩ = some (.int .u64 z)) := Lib.hid (fun W h => by
        obtain ⟨g', off', e1, _, e2⟩ := (rd_on HR1A.out h).at_ (by omega)
        injection e1 with e1
        injection e1 with e1 e3
        subst e1 e3
        rw [← hz]
        exact e2 j (by omega))
      clear hc htk hz hy hown hb hnx hpr hp
      go_wp2_with (first
        | (at_builtin; refine wpList_append_ints _ rfl (.tmp 34) (.tmp 40) 22 rfl w1.heap.size 24 ti _ 8 .u64 Tryd.underlying22 hti hz0 hz1 hzb rfl _ (S.take j) rfl (HON.out.alloc _) (wr.heap.size + 1) (some ⟨wr.heap.size, 0, none⟩) 1 1 [y] rfl (rd_one wr 24 .u64 y) (by rw [HLJ.out]; simp only [maxLen]; omega) (by rw [HLJ.out]; omega) (by have := HBN.out.size; simp; omega) ?_; intro v6 w6 hown6 hg6 hat6; have hb6 : Below w1.heap.size w1 w6 := (HON.out.alloc _).below_ (HBN.out.alloc HBN.out.size _) (by have := HBN.out.size; simp; omega) hg6; rw [HN2.out] at hown6; have HO6 := Lib.hid hown6; have HB6 := Lib.hid hb6; have hck6 := HCA.out _ hb6; clear hown6 hg6 hat6 hb6))
      go_roundw
      case rel => exact ⟨j + 1, by omega, by go_num, by rw [HNP.out], HO6.out, HB6.out⟩
      case measure => simp [intOf]; omega
    · obtain rfl : j = n := by omega
      have HRS := hown.rd (HLEN.out _ (Nat.le_refl _))
      rw [show S.take j = S from List.take_of_length_le (by rw [HLS.out]; exact Nat.le_refl _)] at HRS
      have hsum := HPR.out j (Nat.le_refl _)
      rw [HSA.out] at hsum ⊢
      obtain ⟨n, hn⟩ : ∃ n, n = j := ⟨_, rfl⟩
      subst hn
      obtain ⟨w2, hw2⟩ : ∃ w2, w2 = wr := ⟨_, rfl⟩
      subst hw2
      have G0 : Hid (Fx [.rdb .u64 w2.heap.size A5 n S, .bel w] w2) := Lib.hid ⟨⟨HRS, Nat.le_refl _⟩, HB1.out.trans (hb.mono HB1.out.size), trivial⟩
      obtain ⟨tt, hbs⟩ := Int.eq_ofNat_of_zero_le hsum.1
      have htt30 : tt ≤ 30 := by have := hsum.2; omega
      have HBS := Lib.hid hbs
      rw [hbs]
      clear hown hb hl5 hlt hj HRS HTK HNX1 HPR HZ HR HR1A HB1 HSA hsum hbs
      by_cases hbz : tt = 0
      · subst hbz
        go_wp2
        go_ret
        exact ⟨rfl, Fx.e1 G0.out⟩
      have hn1 : 1 ≤ n := by
        rcases Nat.eq_zero_or_pos n with h0 | h0
        · have h1 := HLS.out
          rw [h0] at h1
          have h2 := HBS.out
          rw [List.length_eq_zero_iff.1 h1] at h2
          have h3 : (0 : Int) = (tt : Int) := h2
          omega
        · exact h0
      obtain ⟨b, hbt⟩ : ∃ b, n * tt = b := ⟨_, rfl⟩
      have hbI : (n : Int) * (tt : Int) = (b : Int) := by rw [← hbt]; push_cast; rfl
      have hn6 : n ≤ 6 := by omega
      have hb180 : b ≤ 144 := by rw [← hbt]; exact hBB n hn6 tt HBS.out
      have hb1 : 1 ≤ b := by rw [← hbt]; exact Nat.mul_pos hn1 (by omega)
      have htt1 : (tt : Int) ≤ 30 := by omega
      have hb33 : (b : Int) ≤ 144 := by omega
      have hb34 : ((tt : Int) == 0) = false := by rw [beq_eq_false_iff_ne]; omega
      have hb35 : (1 : Int) ≤ (b : Int) := by omega
      obtain ⟨k4, hbQ⟩ := need144 (b - 1) (by omega)
      rw [show b - 1 + 1 = b by omega] at k4 hbQ
      have hn := fun W => r8need_c (b : Int) (by omega) (by omega) W
      obtain ⟨k, hk⟩ : ∃ k, needN (b : Int) = k := ⟨_, rfl⟩
      rw [hk] at k4 hbQ hn
      obtain ⟨M, hM⟩ : ∃ M, k * t = M := ⟨_, rfl⟩
      have hkt : (k : Int) * (t : Int) = (M : Int) := by rw [← hM]; push_cast; rfl
      have hM15 : M ≤ 16 := by rw [← hM]; exact Nat.mul_le_mul k4 ht3
      have HN := Lib.hid hn
      have kk1 : (k : Int) ≤ 8 := by omega
      have mm1 : (M : Int) ≤ 16 := by omega
      by_cases hbig : 12 < M
      · have mm2 : (12 : Int) < (M : Int) := by omega
        clear hn hk hM hM15 hbig k4 hbQ hb1 hbz HBS HSG HS0 HLS HLEN ht1 ht3 htt30 hbt hn1 hn6 hb180 hBB hS24
        go_wp2_with (go_at_call 6; (with_reducible refine (HN.out _).mono ?_); rintro e _ ⟨rfl, rfl⟩)
        go_ret
        exact ⟨rfl, Fx.e1 G0.out⟩
      have hsm : M ≤ 12 := by omega
      have mm2 : (M : Int) ≤ 12 := by omega
      have hQ32 : 2 ^ k ≤ 256 := Nat.pow_le_pow_right (n := 2) (by omega) k4
      have hN1 : 2 ^ M = (2 ^ k) ^ t := by rw [← hM, Nat.pow_mul]
      have hN2 : 2 ^ M ≤ 4096 := Nat.pow_le_pow_right (n := 2) (by omega) hsm
      have hP2 := fun W => r8pow_c 2 M (fun i hi => Nat.lt_of_le_of_lt (pow_in 2 2 12 (Nat.le_refl _) (by omega) i (by omega)) (by decide)) (by omega) W
      have hPk := fun W => r8pow_c 2 k (fun i hi => Nat.lt_of_le_of_lt (pow_in 2 2 12 (Nat.le_refl _) (by omega) i (by omega)) (by decide)) (by omega) W
      have hPl := fun W => r8pow_c (2 ^ k - b) t (fun i hi => Nat.lt_of_le_of_lt (pow_in (2 ^ k - b) 256 2 (by omega) (by omega) i (by omega)) (by decide)) (by omega) W
      rw [show ((2 : Nat) : Int) = 2 from rfl] at hP2 hPk
      have hDr := fun x (hx : x < (2 ^ k) ^ t) => draw_num x k b t hk (by omega) hb1 (by omega) ht1 (by omega) hx
      have hLost := cnt_lost (2 ^ k) b t
      have hEven := fun v (hv : v < b) => cnt_even (2 ^ k) b v hv hbQ t
      rw [hN1] at hN2 hP2
      rw [hM] at hDr
      clear hN1 hk
      obtain ⟨Q, hQ⟩ : ∃ Q, 2 ^ k = Q := ⟨_, rfl⟩
      rw [hQ] at hQ32 hN2 hP2 hPk hPl hDr hLost hEven hbQ
      clear hQ
      obtain ⟨N, hN⟩ : ∃ N, Q ^ t = N := ⟨_, rfl⟩
      rw [hN] at hN2 hP2 hLost
      have hDr2 : ∀ x, x < N → DrawsAs M (hits Q b t x) (drawR (numT x M) (b : Int) (t : Int)) := fun x hx => hDr x (by rw [hN]; exact hx)
      have hQb : (Q : Int) - (b : Int) = ((Q - b : Nat) : Int) := by omega
      obtain ⟨L, hL⟩ : ∃ L, (Q - b) ^ t = L := ⟨_, rfl⟩
      obtain ⟨D, hD⟩ : ∃ D, Q - b = D := ⟨_, rfl⟩
      have hEv2 : ∀ v, v < b → cnt (fun y => hits Q b t y == some v) N * b + L = N := fun v hv => by have h := hEven v hv; rw [hN, hL] at h; exact h
      rw [hL] at hPl hLost
      rw [hD] at hPl hQb
      have hD32 : D ≤ 256 := by omega
      have hLost2 : noneL Q b t N = L := hLost
      have hLN : L ≤ N := by have := noneL_le Q b t N; omega
      have hT0 : tbE S = 0 := tbE_iff.2 ⟨by rw [HLS.out]; omega, by rw [HBS.out]; omega, by rw [HBS.out]; omega, by rw [HLS.out, HBS.out]; omega⟩
      obtain ⟨hlC, hR, hC0, -⟩ := tb_right HS0.out hT0
      have hTT := (tb_abi HS0.out hT0).1
      rw [HBS.out] at hTT
      have hPO := (tb_in HS0.out).2.2.2 (by rw [HLS.out]; omega)
      have hLC := fun i (hi : i < n) => pik_count HS0.out hT0 HBS.out (by rw [HLS.out]; exact hbt) hEv2 (i := i) (by rw [HLS.out]; exact hi)
      have htr := fun A c W h => calls_tab (r14build_c S (fun z hz => ⟨HS0.out z hz, hSU z hz⟩) A n c (by omega) W h) hTT (Eq.refl (tbC S)) hT0 (hlC.trans HLS.out)
      rw [HLS.out] at hlC
      rw [hTT] at hR hLC
      obtain ⟨ts, hts⟩ : ∃ x, tbC S = x := ⟨_, rfl⟩
      rw [hts] at htr hlC hR hPO hLC
      have hZ : tabZ (tt : Int) ts = (b : Int) := by unfold tabZ; rw [if_pos hR, hlC]; exact hbI
      have hld := fun AF c (hc : n ≤ c) (hm : c ≤ maxLen) x A c0 h1 h2 W h3 h4 h5 => q15draw_c (tt : Int) (by omega) (by omega) ts hPO AF n c (by omega) hc hm (numT x M) (numT_ok x M (by omega)) (t : Int) (by omega) (by omega) A c0 h1 h2 W h3 h4 h5
      have hled := fun x => pikT_go (numT x M) (t : Int) hR
      rw [hZ] at hled
      have HOW := Lib.hid (fun (v : Nat) (hv : v < b) => ow_in hR (Int.natCast_nonneg v) (by rw [hlC, hbI]; omega))
      have HLT := Lib.hid hlC
      have HV := Lib.hid (fun x v h => hits_lt Q b t x v h)
      have HDR := Lib.hid hDr2
      have HLC := Lib.hid hLC
      have HLO := Lib.hid hLost2
      have HP2 := Lib.hid hP2
      have HPK := Lib.hid hPk
      have HPL := Lib.hid hPl
      have HTR := Lib.hid htr
      have HLD := Lib.hid hld
      have HLED := Lib.hid hled
      have HZ0 := Lib.hid zero_src
      have HZL := Lib.hid (show Src.zero.seed.length = 32 from rfl)
      clear hDr hDr2 hEven hEv2 hLost hLost2 hP2 hPk hPl hn htr hld hled hN hL hD hLC hM hbz hbQ hbig k4 hM15 htt30 hbt hn1 hn6 hb180 hBB hS24 hT0 hlC hR hC0 hTT hPO hts hZ hSU
      have hmk : ∀ W, (Instr.makeSlice 22 (.int .i64 (n : Int)) (.int .i64 (n : Int))).run Tryd.prog W = .ok (.slice (some ⟨W.heap.size, 0, none⟩) n n) (W.alloc (.cells (intsA .u64 (List.replicate n 0)) 24)) := fun W => run_make_ints (P := Tryd.prog) 22 24 ti .u64 Tryd.underlying22 hti hz0 hz1 .i64 .i64 n (by rw [hzb]; omega) (by omega) W
      go_wp2_with (first
        | (go_at_call 6; (with_reducible refine (HN.out _).mono ?_); rintro e _ ⟨rfl, rfl⟩)
        | (go_at_call 7; (with_reducible refine (HTR.out _ _ _ (Fx.r0 G0.out)).mono ?_); rintro e w101 ⟨A102, c103, rfl, hrw101, hlw101, hmw101, hbw101⟩; have lc103 := Lib.hid hlw101; have mc103 := Lib.hid hmw101; have G104 := Lib.hid (Fx.addP G0.out hbw101 hrw101); clear G0; have HW2 := Lib.hid (Below.size hbw101); clear hrw101 hbw101 hlw101 hmw101)
        | (with_reducible refine at_any ?_; refine at_dst 11 rfl ?_; refine wpList_alloc_any rfl 28 rfl #[.int .u64 0, .slice none 0 0] zero_tabL ?_; intro w105 hkw105 hsw105 hbw105; have U106 := Lib.hid (Fx.under_new G104.out rfl); have G107 := Lib.hid (Fx.newB G104.out hkw105.out hbw105); clear G104; clear hkw105 hsw105 hbw105)
        | (with_reducible refine at_any ?_; refine at_store 11 rfl ?_; refine wpList_store_any rfl 28 (.tmp 11) (.tmp 69) rfl w101.heap.size rfl 28 #[.int .u64 0, .slice none 0 0] (#[.int .u64 (tt : Int), .slice A102 n c103]) (Fx.b0 G107.out) rfl (sameT2 _ _ _ _) (sizedT _ _) (onesT _ _ _ _) ?_; intro w108 hkw108 hsw108 hbw108 how108; have G109 := Lib.hid (Fx.put1B G107.out U106.out hkw108.out hsw108.out hbw108 how108); clear G107; clear hkw108 hsw108 hbw108 how108))
      clear hmk
      obtain ⟨gf, hgf⟩ : ∃ g, w101.heap.size = g := ⟨_, rfl⟩
      obtain ⟨go, hgo⟩ : ∃ g, w108.heap.size = g := ⟨_, rfl⟩
      have hnew : Fx [.blk w108.heap.size 24 (intsA .u64 (List.replicate n 0)), .blk w101.heap.size 28 #[.int .u64 (tt : Int), .slice A102 n c103], .kept w101.heap.size (fun W => RdPr .u64 .i64 W W.heap.size A102 n ts), .rdb .u64 w2.heap.size A5 n S, .bel w] (w108.alloc (.cells (intsA .u64 (List.replicate n 0)) 24)) := Fx.newB G109.out (Blk.new _ _ _) ((Below.refl _ _).alloc (Nat.le_refl _) _)
      have hlo : gf < go ∧ w.heap.size ≤ go ∧ gf ≤ go ∧ w2.heap.size ≤ go := by
        have a1 := Blk.lt (Fx.b0 G109.out)
        have a2 := Below.size (Fx.e3 G109.out)
        have a3 := HW2.out
        rw [hgf, hgo] at a1
        rw [hgo] at a2
        exact ⟨a1, a2, Nat.le_of_lt a1, by rw [hgf] at a3; omega⟩
      rw [hgf, hgo] at hnew
      rw [hgf, hgo]
      have HLOW := Lib.hid hlo
      obtain ⟨w3, hw3⟩ : ∃ w3, w108.alloc (.cells (intsA .u64 (List.replicate n 0)) 24) = w3 := ⟨_, rfl⟩
      rw [hw3] at hnew ⊢
      rw [← HLT.out, ← pikL_zero (tt : Int) ts Q b t, HLT.out] at hnew
      have HNEW := Lib.hid hnew
      clear hnew hw3 hgf hgo hlo G109 HTR HW2
      have nn0 : noneL Q b t 0 = 0 := rfl
      go_loopw [14, 15] (fun nn xx wr => ∃ x : Nat, x ≤ N ∧ nn = .int .u64 ((noneL Q b t x : Nat) : Int) ∧ xx = .int .u64 (x : Int) ∧ Fx [.blk go 24 (intsA .u64 (pikL (tt : Int) ts Q b t x)), .blk gf 28 #[.int .u64 (tt : Int), .slice A102 n c103], .kept gf (fun W => RdPr .u64 .i64 W W.heap.size A102 n ts), .rdb .u64 w2.heap.size A5 n S, .bel w] wr) (fun _ xx _ => N - (intOf xx).toNat)
      case atStart => exact ⟨0, by omega, rfl, rfl, HNEW.out⟩
      case round =>
        clear HNEW nn0
        obtain ⟨x, hx, rfl, rfl, hrel⟩ := hrel
        have HG := Lib.hid hrel
        clear hrel
        by_cases hlt : x < N
        · have hD := HDR.out x hlt
          have okS := numT_ok x M (by omega)
          have hle := HLED.out x
          have hB : ∀ W, Calls Tryd.prog 10 #[.int .u64 (x : Int), .int .i64 (M : Int)] W (RetSl W (bytesB x M M)) := fun W => r8bytes_c x M (by omega) (by omega) W
          have hZl := bytesB_len x M M
          have hT : ∀ A c W, Rd .u8 W W.heap.size A (bytesB x M M).length (bytesB x M M) → (bytesB x M M).length ≤ c → Calls Tryd.prog 9 #[.slice A (bytesB x M M).length c, .int .u64 (M : Int)] W (fun e w' => ∃ A' c', e = .returned (.tuple #[.agg (srcV (numT x M) A' c'), .int .i64 0]) ∧ Rd .u8 w' w'.heap.size A' (bytesB x M M).length (bytesB x M M) ∧ (bytesB x M M).length ≤ c' ∧ c' ≤ maxLen ∧ Below W.heap.size W w') := fun A c W h1 h2 => by
            refine (rstape_c (bytesB x M M) (by omega) (M : Int) (by omega) (by omega) A _ c W h1 h2).mono fun _ _ h => ?_
            unfold RetTape at h
            rw [if_pos (by omega)] at h
            exact h
          have okX := (pikT_in (tt : Int) ts (numT x M) (t : Int) okS).1
          have hL9 := fun AF c hc hm => HLD.out AF c hc hm x
          rw [hle] at okX
          unfold RetLead at hL9
          rw [hle] at hL9
          have hgo : (drawR (numT x M) (b : Int) (t : Int)).2.2 = 0 → pikGo (tt : Int) ts (drawR (numT x M) (b : Int) (t : Int)) = (owV (tt : Int) ts (drawR (numT x M) (b : Int) (t : Int)).1, (drawR (numT x M) (b : Int) (t : Int)).2.1, 0) := fun h => if_pos h
          have hgn : (drawR (numT x M) (b : Int) (t : Int)).2.2 ≠ 0 → pikGo (tt : Int) ts (drawR (numT x M) (b : Int) (t : Int)) = (0, (drawR (numT x M) (b : Int) (t : Int)).2.1, (drawR (numT x M) (b : Int) (t : Int)).2.2) := fun h => if_neg h
          have hLS := okS.sl
          have hcs : ∀ (W : World) (g : Nat) A c (h : Blk W g 37 (srcV (numT x M) A c)), W.cell? ⟨g, 2, none⟩ = some (.int .u64 (M : Int)) := fun W g A c h => (h.cell 2).trans (srcV_bits (numT x M) A c)
          have htl : (numT x M).tape = bytesB x M M := rfl
          rw [htl] at hL9
          clear hle htl
          cases hh : hits Q b t x with
          | none =>
            obtain ⟨he9, hat⟩ := draws_none hD hh
            have e1 := hgn (by rw [he9]; decide)
            rw [he9] at e1
            rw [e1] at okX hL9
            dsimp only at okX hL9
            obtain ⟨X, hX⟩ : ∃ X, (drawR (numT x M) (b : Int) (t : Int)).2.1 = X := ⟨_, rfl⟩
            rw [hX] at okX hL9 hat
            have hcx : ∀ (W : World) (g : Nat) A c (h : Blk W g 37 (srcV X A c)), W.cell? ⟨g, 36, none⟩ = some (.int .u64 (M : Int)) := fun W g A c h => by rw [(h.cell 36).trans (srcV_at X okX.sl A c), hat]
            have hgm := pikL_miss (tt : Int) ts Q b t x hh
            have HNM := Lib.hid (noneL_miss Q b t x hh)
            obtain ⟨G, hG⟩ : ∃ G, pikL (tt : Int) ts Q b t x = G := ⟨_, rfl⟩
            rw [hG] at HG hgm
            have HNX : Hid (∀ W, Blk W go 24 (intsA .u64 G) → Blk W gf 28 #[.int .u64 (tt : Int), .slice A102 n c103] → (∀ W2, Below gf W W2 → RdPr .u64 .i64 W2 W2.heap.size A102 n ts) → Rd .u64 W w2.heap.size A5 n S → Below w.heap.size w W → gf ≤ W.heap.size → Fx [.blk go 24 (intsA .u64 (pikL (tt : Int) ts Q b t (x + 1))), .blk gf 28 #[.int .u64 (tt : Int), .slice A102 n c103], .kept gf (fun W => RdPr .u64 .i64 W W.heap.size A102 n ts), .rdb .u64 w2.heap.size A5 n S, .bel w] W) := Lib.hid (fun W h1 h2 h3 h4 h5 h6 => by rw [hgm]; exact ⟨h1, h2, ⟨h3, h6⟩, ⟨h4, Nat.le_trans HLOW.out.2.2.2 (Nat.le_of_lt h1.lt)⟩, h5, trivial⟩)
            have hnl := noneL_le Q b t x
            obtain ⟨Y, hY⟩ : ∃ Y, noneL Q b t x = Y := ⟨_, rfl⟩
            rw [hY] at HNM hnl ⊢
            obtain ⟨Z, hZ⟩ : ∃ Z, bytesB x M M = Z := ⟨_, rfl⟩
            obtain ⟨S0, hS0⟩ : ∃ S, numT x M = S := ⟨_, rfl⟩
            rw [hZ] at hB hT hL9 hZl
            rw [hS0] at hT hL9 hcs hLS
            have HBY := Lib.hid hB
            have HTP := Lib.hid hT
            have HQ := Lib.hid hL9
            have HCS := Lib.hid hcs
            have HCX := Lib.hid hcx
            have HLS0 := Lib.hid hLS
            have HLX := Lib.hid okX.sl
            have hY1 : (Y : Int) ≤ 4096 := by omega
            have hx1 : (x : Int) < 4096 := by omega
            have hx2 : (x : Int) < (N : Int) := by omega
            clear hB hT hL9 hcs hcx hLS hD okS okX hX hgm hG hY hZ hS0 hh he9 hat e1 hgo hgn hZl hnl hlt
            have G9 := HG
            clear HG
            go_wp2_with (first
            | (go_at_call 8; (with_reducible refine (HP2.out _).mono ?_); rintro e _ ⟨rfl, rfl⟩)
              | (go_at_call 10; (with_reducible refine (HBY.out _).mono ?_); rintro e w301 ⟨A302, c303, rfl, hlw301, hmw301, hrw301, hbw301⟩; have lc303 := Lib.hid hlw301; have mc303 := Lib.hid hmw301; have G304 := Lib.hid (Fx.addR G9.out hbw301 hrw301); clear G9; clear hrw301 hbw301 hlw301 hmw301)
              | (go_at_call 9; (with_reducible refine (HTP.out A302 c303 _ (Fx.r0 G304.out) lc303.out).mono ?_); rintro e w305 ⟨A306, c307, rfl, hrw305, hlw305, hmw305, hbw305⟩; have lc307 := Lib.hid hlw305; have mc307 := Lib.hid hmw305; have G308 := Lib.hid (Fx.addR G304.out hbw305 hrw305); clear G304; clear hrw305 hbw305 hlw305 hmw305)
              | (with_reducible refine at_any ?_; refine at_dst 16 rfl ?_; refine wpList_alloc_any rfl 37 rfl (srcV Src.zero none 0) HZ0.out ?_; intro w309 hkw309 hsw309 hbw309; have U310 := Lib.hid (Fx.under_new G308.out rfl); have G311 := Lib.hid (Fx.newB G308.out hkw309.out hbw309); clear G308; clear hkw309 hsw309 hbw309)
              | (with_reducible refine at_any ?_; refine at_store 16 rfl ?_; refine wpList_store_any rfl 37 (.tmp 16) (.tmp 93) rfl w305.heap.size rfl 37 (srcV Src.zero none 0) (srcV S0 A306 c307) (Fx.b0 G311.out) rfl (srcV_same _ S0 HZL.out HLS0.out _ _ _ _) (sizedS S0 HLS0.out _ _) (srcV_ones _ _ _) ?_; intro w312 hkw312 hsw312 hbw312 how312; have G313 := Lib.hid (Fx.put1B G311.out U310.out hkw312.out hsw312.out hbw312 how312); clear G311; clear hkw312 hsw312 hbw312 how312)
              | (with_reducible refine at_any ?_; refine at_dst 96 rfl ?_; refine wpList_load_tab (by kernel_rfl) (.tmp 11) rfl gf rfl 28 (.int .u64 (tt : Int)) (.slice A102 n c103) (Fx.b4 G313.out) ?_)
              | (with_reducible refine at_any ?_; refine at_dst 97 rfl ?_; refine wpList_load_blk rfl 37 (.tmp 16) rfl w305.heap.size rfl 37 (srcV S0 A306 c307) (Fx.b0 G313.out) _ Tryd.underlying37 rfl (sizedS S0 HLS0.out _ _) ?_)
              | (go_at_call 11; (with_reducible refine (HQ.out _ _ lc103.out mc103.out A306 c307 lc307.out mc307.out _ (Fx.k5 G313.out) (Fx.r1 G313.out) (HKS.out.below (Fx.e7 G313.out))).mono ?_); rintro e w314 ⟨A315, c316, rfl, hrw314, hlw314, hmw314, _, hbw314⟩; have lc316 := Lib.hid hlw314; have mc316 := Lib.hid hmw314; have G317 := Lib.hid (Fx.addR G313.out hbw314 hrw314); clear G313; clear hrw314 hbw314 hlw314 hmw314)
              | (with_reducible refine at_any ?_; refine at_dst 19 rfl ?_; refine wpList_alloc_any rfl 37 rfl (srcV Src.zero none 0) HZ0.out ?_; intro w318 hkw318 hsw318 hbw318; have U319 := Lib.hid (Fx.under_new G317.out rfl); have G320 := Lib.hid (Fx.newB G317.out hkw318.out hbw318); clear G317; clear hkw318 hsw318 hbw318)
              | (with_reducible refine at_any ?_; refine at_store 19 rfl ?_; refine wpList_store_any rfl 37 (.tmp 19) (.tmp 101) rfl w314.heap.size rfl 37 (srcV Src.zero none 0) (srcV X A315 c316) (Fx.b0 G320.out) rfl (srcV_same _ X HZL.out HLX.out _ _ _ _) (sizedS X HLX.out _ _) (srcV_ones _ _ _) ?_; intro w321 hkw321 hsw321 hbw321 how321; have G322 := Lib.hid (Fx.put1B G320.out U319.out hkw321.out hsw321.out hbw321 how321); clear G320; clear hkw321 hsw321 hbw321 how321; have cx := HCX.out _ _ _ _ (Fx.b0 G322.out); have cs := HCS.out _ _ _ _ (Fx.b2 G322.out)))
            go_roundw
            case rel => exact ⟨x + 1, by omega, by rw [HNM.out]; go_num, by go_num, (HNX.out _ (Fx.b5 G322.out) (Fx.b6 G322.out) (Fx.kr7 G322.out) (Fx.q8 G322.out) (Fx.e9 G322.out) (Nat.le_of_lt (Blk.lt (Fx.b6 G322.out))))⟩
            case measure => simp [intOf]; omega
          | some v =>
            obtain ⟨hev, he0, hat⟩ := draws_some hD hh
            have hvb := HV.out x v hh
            obtain ⟨o, ho1, ho2, ho3⟩ := HOW.out v hvb
            have e1 := hgo he0
            rw [hev, ho2] at e1
            rw [e1] at okX hL9
            dsimp only at okX hL9
            obtain ⟨X, hX⟩ : ∃ X, (drawR (numT x M) (b : Int) (t : Int)).2.1 = X := ⟨_, rfl⟩
            rw [hX] at okX hL9 hat
            have hcx : ∀ (W : World) (g : Nat) A c (h : Blk W g 37 (srcV X A c)), W.cell? ⟨g, 36, none⟩ = some (.int .u64 X.at_) := fun W g A c h => (h.cell 36).trans (srcV_at X okX.sl A c)
            have hXa := okX.a0
            have hgm := pikL_hit (tt : Int) ts Q b t x v o hh ho1 ho2
            have hga := pikL_at (T := (tt : Int)) Q b t x ho1
            have hgl := pikL_len (tt : Int) ts Q b t x
            have HNM := Lib.hid (noneL_hit Q b t x v hh)
            have hcl := pikC_le (tt : Int) ts Q b t o x
            obtain ⟨C, hC⟩ : ∃ C, pikC (tt : Int) ts Q b t o x = C := ⟨_, rfl⟩
            rw [hC] at hga hcl
            rw [hga] at hgm
            obtain ⟨cc, hcc⟩ : ∃ c : Int, (C : Int) = c := ⟨_, rfl⟩
            rw [hcc] at hgm hga
            have cc0 : 0 ≤ cc := by omega
            have cc1 : cc ≤ 4096 := by omega
            have HGV : Hid (∀ W, Blk W go 24 (intsA .u64 (pikL (tt : Int) ts Q b t x)) → W.cell? ⟨go, o, none⟩ = some (.int .u64 cc)) := Lib.hid (fun W h => by rw [h.cell, intsA_at _ _ _ (by rw [hgl]; exact ho1), hga])
            have HSZ : Hid (o < (intsA .u64 (pikL (tt : Int) ts Q b t x)).size) := Lib.hid (by rw [intsA_size, hgl]; exact ho1)
            have hon : o < n := by rw [HLT.out] at ho1; exact ho1
            obtain ⟨G, hG⟩ : ∃ G, pikL (tt : Int) ts Q b t x = G := ⟨_, rfl⟩
            rw [hG] at HG hgm HGV HSZ
            have HNX : Hid (∀ W W', Blk W go 24 (intsA .u64 G) → Blk W gf 28 #[.int .u64 (tt : Int), .slice A102 n c103] → (∀ W2, Below gf W W2 → RdPr .u64 .i64 W2 W2.heap.size A102 n ts) → Rd .u64 W w2.heap.size A5 n S → Below w.heap.size w W → Blk W' go 24 ((intsA .u64 G).setIfInBounds o (.int .u64 (cc + 1))) → W'.heap.size = W.heap.size → (∀ B, B ≤ go → Below B W W') → (∀ j, j ≠ go → W'.heap[j]? = W.heap[j]?) → Fx [.blk go 24 (intsA .u64 (pikL (tt : Int) ts Q b t (x + 1))), .blk gf 28 #[.int .u64 (tt : Int), .slice A102 n c103], .kept gf (fun W => RdPr .u64 .i64 W W.heap.size A102 n ts), .rdb .u64 w2.heap.size A5 n S, .bel w] W') := Lib.hid (fun W W' h1 h2 h3 h4 h5 h6 h7 h8 h9 => by
              rw [← hgm, ← intsA_put]
              exact ⟨h6, h2.other h9 (Nat.ne_of_lt HLOW.out.1), ⟨fun W2 hb => h3 W2 ((h8 _ HLOW.out.2.2.1).trans hb), by rw [h7]; exact Nat.le_of_lt h2.lt⟩, ⟨h4.below (h8 _ HLOW.out.2.2.2), by rw [h7]; exact Nat.le_trans HLOW.out.2.2.2 (Nat.le_of_lt h1.lt)⟩, h5.trans (h8 _ HLOW.out.2.1), trivial⟩)
            have hnl := noneL_le Q b t x
            obtain ⟨Y, hY⟩ : ∃ Y, noneL Q b t x = Y := ⟨_, rfl⟩
            rw [hY] at HNM hnl ⊢
            obtain ⟨Z, hZ⟩ : ∃ Z, bytesB x M M = Z := ⟨_, rfl⟩
            obtain ⟨S0, hS0⟩ : ∃ S, numT x M = S := ⟨_, rfl⟩
            obtain ⟨xa, hxa⟩ : ∃ y, X.at_ = y := ⟨_, rfl⟩
            rw [hZ] at hB hT hL9 hZl
            rw [hS0] at hT hL9 hcs hLS
            rw [hxa] at hcx hat hXa
            have HBY := Lib.hid hB
            have HTP := Lib.hid hT
            have HQ := Lib.hid hL9
            have HCS := Lib.hid hcs
            have HCX := Lib.hid hcx
            have HLS0 := Lib.hid hLS
            have HLX := Lib.hid okX.sl
            have hY1 : (Y : Int) ≤ 4096 := by omega
            have hx1 : (x : Int) < 4096 := by omega
            have hx2 : (x : Int) < (N : Int) := by omega
            have hon2 : (o : Int) < (n : Int) := by omega
            have ho0 : (0 : Int) ≤ (o : Int) := by omega
            have nxa : ¬ ((M : Int) < xa) := by omega
            clear hB hT hL9 hcs hcx hLS hD okS okX hX hgm hG hY hZ hS0 hh hev he0 hat e1 hgo hgn hZl hnl hlt hvb ho1 ho2 ho3 hga hgl hcl hC hcc hxa
            have G9 := HG
            clear HG
            go_wp2_with (first
            | (go_at_call 8; (with_reducible refine (HP2.out _).mono ?_); rintro e _ ⟨rfl, rfl⟩)
              | (go_at_call 10; (with_reducible refine (HBY.out _).mono ?_); rintro e w301 ⟨A302, c303, rfl, hlw301, hmw301, hrw301, hbw301⟩; have lc303 := Lib.hid hlw301; have mc303 := Lib.hid hmw301; have G304 := Lib.hid (Fx.addR G9.out hbw301 hrw301); clear G9; clear hrw301 hbw301 hlw301 hmw301)
              | (go_at_call 9; (with_reducible refine (HTP.out A302 c303 _ (Fx.r0 G304.out) lc303.out).mono ?_); rintro e w305 ⟨A306, c307, rfl, hrw305, hlw305, hmw305, hbw305⟩; have lc307 := Lib.hid hlw305; have mc307 := Lib.hid hmw305; have G308 := Lib.hid (Fx.addR G304.out hbw305 hrw305); clear G304; clear hrw305 hbw305 hlw305 hmw305)
              | (with_reducible refine at_any ?_; refine at_dst 16 rfl ?_; refine wpList_alloc_any rfl 37 rfl (srcV Src.zero none 0) HZ0.out ?_; intro w309 hkw309 hsw309 hbw309; have U310 := Lib.hid (Fx.under_new G308.out rfl); have G311 := Lib.hid (Fx.newB G308.out hkw309.out hbw309); clear G308; clear hkw309 hsw309 hbw309)
              | (with_reducible refine at_any ?_; refine at_store 16 rfl ?_; refine wpList_store_any rfl 37 (.tmp 16) (.tmp 93) rfl w305.heap.size rfl 37 (srcV Src.zero none 0) (srcV S0 A306 c307) (Fx.b0 G311.out) rfl (srcV_same _ S0 HZL.out HLS0.out _ _ _ _) (sizedS S0 HLS0.out _ _) (srcV_ones _ _ _) ?_; intro w312 hkw312 hsw312 hbw312 how312; have G313 := Lib.hid (Fx.put1B G311.out U310.out hkw312.out hsw312.out hbw312 how312); clear G311; clear hkw312 hsw312 hbw312 how312)
              | (with_reducible refine at_any ?_; refine at_dst 96 rfl ?_; refine wpList_load_tab (by kernel_rfl) (.tmp 11) rfl gf rfl 28 (.int .u64 (tt : Int)) (.slice A102 n c103) (Fx.b4 G313.out) ?_)
              | (with_reducible refine at_any ?_; refine at_dst 97 rfl ?_; refine wpList_load_blk rfl 37 (.tmp 16) rfl w305.heap.size rfl 37 (srcV S0 A306 c307) (Fx.b0 G313.out) _ Tryd.underlying37 rfl (sizedS S0 HLS0.out _ _) ?_)
              | (go_at_call 11; (with_reducible refine (HQ.out _ _ lc103.out mc103.out A306 c307 lc307.out mc307.out _ (Fx.k5 G313.out) (Fx.r1 G313.out) (HKS.out.below (Fx.e7 G313.out))).mono ?_); rintro e w314 ⟨A315, c316, rfl, hrw314, hlw314, hmw314, _, hbw314⟩; have lc316 := Lib.hid hlw314; have mc316 := Lib.hid hmw314; have G317 := Lib.hid (Fx.addR G313.out hbw314 hrw314); clear G313; clear hrw314 hbw314 hlw314 hmw314)
              | (with_reducible refine at_any ?_; refine at_dst 19 rfl ?_; refine wpList_alloc_any rfl 37 rfl (srcV Src.zero none 0) HZ0.out ?_; intro w318 hkw318 hsw318 hbw318; have U319 := Lib.hid (Fx.under_new G317.out rfl); have G320 := Lib.hid (Fx.newB G317.out hkw318.out hbw318); clear G317; clear hkw318 hsw318 hbw318)
              | (with_reducible refine at_any ?_; refine at_store 19 rfl ?_; refine wpList_store_any rfl 37 (.tmp 19) (.tmp 101) rfl w314.heap.size rfl 37 (srcV Src.zero none 0) (srcV X A315 c316) (Fx.b0 G320.out) rfl (srcV_same _ X HZL.out HLX.out _ _ _ _) (sizedS X HLX.out _ _) (srcV_ones _ _ _) ?_; intro w321 hkw321 hsw321 hbw321 how321; have G322 := Lib.hid (Fx.put1B G320.out U319.out hkw321.out hsw321.out hbw321 how321); clear G320; clear hkw321 hsw321 hbw321 how321; have cx := HCX.out _ _ _ _ (Fx.b0 G322.out); have cs := HCS.out _ _ _ _ (Fx.b2 G322.out); have cg := HGV.out _ (Fx.b5 G322.out))
              | (with_reducible refine at_any ?_; refine at_store 125 rfl ?_; refine wpList_store_cell_any rfl 24 (.tmp 125) (.tmp 124) rfl go o rfl 24 (intsA .u64 G) (Fx.b5 G322.out) (.int .u64 (cc + 1)) rfl HSZ.out size_u64l rfl rfl ?_; intro w90 hk90 hs90 hb90 ho90; have HF9 := Lib.hid (HNX.out _ _ (Fx.b5 G322.out) (Fx.b6 G322.out) (Fx.kr7 G322.out) (Fx.q8 G322.out) (Fx.e9 G322.out) hk90.out hs90.out hb90 ho90); clear hk90 hs90 hb90 ho90))
            go_roundw
            case rel => exact ⟨x + 1, by omega, by rw [HNM.out], by go_num, HF9.out⟩
            case measure => simp [intOf]; omega
        · obtain rfl : x = N := by omega
          have hgl := pikL_len (tt : Int) ts Q b t x
          have HGA := Lib.hid (fun i (hi : i < ts.length) => pikL_at (T := (tt : Int)) Q b t x hi)
          have hlo := HLO.out
          obtain ⟨G, hG⟩ : ∃ G, pikL (tt : Int) ts Q b t x = G := ⟨_, rfl⟩
          rw [hG] at HG HGA hgl
          obtain ⟨Y, hY⟩ : ∃ Y, noneL Q b t x = Y := ⟨_, rfl⟩
          rw [hY] at hlo ⊢
          subst hlo
          have hx1 : (x : Int) ≤ 4096 := by omega
          have hY1 : (Y : Int) ≤ (x : Int) := by omega
          have HGLN : Hid (G.length = n) := Lib.hid (by rw [hgl]; exact HLT.out)
          have HF0 := HG
          clear HG hG hY HLO HDR HV hlt hgl hx HLD HLED HZ0 HZL HKS
          go_wp2_with (first
            | (go_at_call 8; (with_reducible refine (HP2.out _).mono ?_); rintro e _ ⟨rfl, rfl⟩)
            | (go_at_call 8; (with_reducible refine (HPK.out _).mono ?_); rintro e _ ⟨rfl, rfl⟩)
            | (go_at_call 8; (with_reducible refine (HPL.out _).mono ?_); rintro e _ ⟨rfl, rfl⟩))
          obtain ⟨wo, hwo⟩ : ∃ wo : World, wo = wr := ⟨_, rfl⟩
          subst hwo
          go_loopw [22] (fun ii wr => ∃ i : Nat, i ≤ n ∧ ii = .int .i64 (i : Int) ∧ Fx [.blk go 24 (intsA .u64 (G)), .blk gf 28 #[.int .u64 (tt : Int), .slice A102 n c103], .kept gf (fun W => RdPr .u64 .i64 W W.heap.size A102 n ts), .rdb .u64 w2.heap.size A5 n S, .bel w] wr) (fun ii _ => n - (intOf ii).toNat)
          case atStart => exact ⟨0, by omega, rfl, HF0.out⟩
          case round =>
            clear HF0
            obtain ⟨i, hi, rfl, hrel⟩ := hrel
            by_cases hib : i < n
            · have hat := intsA_at .u64 G i (by have := HGLN.out; omega)
              rw [HGA.out i (by rw [HLT.out]; exact hib)] at hat
              have he := HLC.out i hib
              rw [show cnt (fun y => pickB (pikP (tt : Int) ts i) (hits Q b t y)) x = pikC (tt : Int) ts Q b t i x from rfl] at he
              have hsg := HSG.out i hib
              have hcl := pikC_le (tt : Int) ts Q b t i x
              obtain ⟨g5, off5, hA5, -, hc5⟩ := (Fx.r3 hrel).at_ (show 0 < n by omega)
              have HC5 : Hid (∀ W, Rd .u64 W W.heap.size A5 n S → W.cell? ⟨g5, off5 + i, none⟩ = some (.int .u64 (S.getD i 0))) := Lib.hid (fun W h => by obtain ⟨g, off, e1, _, e2⟩ := h.at_ (by omega); rw [hA5] at e1; injection e1 with e1; injection e1 with e1 e3; subst e1 e3; exact e2 i hib)
              obtain ⟨C, hC⟩ : ∃ C, pikC (tt : Int) ts Q b t i x = C := ⟨_, rfl⟩
              obtain ⟨y, hy⟩ : ∃ y, S.getD i 0 = y := ⟨_, rfl⟩
              rw [hC] at hat he hcl
              rw [hy] at he hsg HC5
              obtain ⟨d, hd⟩ : ∃ d, (x : Int) - (Y : Int) = d := ⟨_, rfl⟩
              obtain ⟨r, hr⟩ : ∃ r, y * d = r := ⟨_, rfl⟩
              rw [hd, hr] at he
              obtain ⟨cc, hcc⟩ : ∃ cc : Int, (C : Int) = cc := ⟨_, rfl⟩
              rw [hcc] at hat he
              have hr0 : 0 ≤ r := by rw [← hr]; exact Int.mul_nonneg hsg.1 (by omega)
              have hr1 : r < 18446744073709551616 := by
                have h1 : y * d ≤ 5 * d := Int.mul_le_mul_of_nonneg_right (by omega) (by omega)
                omega
              have hi1 : (i : Int) < (n : Int) := by omega
              have hi0 : (0 : Int) ≤ (i : Int) := by omega
              have HF1 := Lib.hid hrel
              subst hA5
              have HCC := Lib.hid (fun (W : World) (h : (Fx [.blk go 24 (intsA .u64 (G)), .blk gf 28 #[.int .u64 (tt : Int), .slice A102 n c103], .kept gf (fun W => RdPr .u64 .i64 W W.heap.size A102 n ts), .rdb .u64 w2.heap.size (some ⟨g5, off5, none⟩) n S, .bel w]) W) => ((Fx.b0 h).cell i).trans hat)
              have HCY := Lib.hid (fun (W : World) (h : (Fx [.blk go 24 (intsA .u64 (G)), .blk gf 28 #[.int .u64 (tt : Int), .slice A102 n c103], .kept gf (fun W => RdPr .u64 .i64 W W.heap.size A102 n ts), .rdb .u64 w2.heap.size (some ⟨g5, off5, none⟩) n S, .bel w]) W) => HC5.out W (Fx.r3 h))
              have HKT := Lib.hid hkt
              have HM1 := Lib.hid he
              have HM2 := Lib.hid hr
              have HS1 := Lib.hid hd
              have HSU := Lib.hid (show IntKind.u64.wrap d = d by rw [IntKind.wrap_u64]; omega)
              have HU1 := Lib.hid (show IntKind.u64.wrap r = r by rw [IntKind.wrap_u64]; omega)
              have HI2 := Lib.hid hi1
              have HI3 := Lib.hid hi0
              have HMW := Lib.hid (show IntKind.i64.wrap (M : Int) = (M : Int) by rw [IntKind.wrap_i64]; omega)
              have HRR : Hid ((r != r) = false) := Lib.hid (by simp)
              clear hrel hC hr hcc he hat hsg hcl hc5 hy hd hr0 hr1 HC5
              go_wp2
              refine wp_region_held_drew (S := (Fx [.blk go 24 (intsA .u64 (G)), .blk gf 28 #[.int .u64 (tt : Int), .slice A102 n c103], .kept gf (fun W => RdPr .u64 .i64 W W.heap.size A102 n ts), .rdb .u64 w2.heap.size (some ⟨g5, off5, none⟩) n S, .bel w])) (by kernel_rfl) (Fx.drew HF1.out) (fun hH => ?_)
              refine wpAnyH_letter #[false, false, false, false, false, false, false, false, false, false, false, false, false, false, false, false, false, false] (by kernel_rfl) (fun _ _ d _ _ h => by cases d <;> exact h) (fun QL HQ1 HQ2 => ?_)
              refine held_v 0 (some 144) rfl (by kernel_rfl) (by kernel_rfl) (by kernel_rfl) (by kernel_rfl) (fun c a v w h => HQ2.out c a _ v w h) (by kernel_rfl) (.slice (some ⟨go, 0, none⟩) n n) (fun W h => by kernel_rfl) hH ?_
              try simp only [Act.put, List.setIfInBounds_toArray, List.set_cons_zero, List.set_cons_succ]
              refine held_v 1 (some 145) rfl (by kernel_rfl) (by kernel_rfl) (by kernel_rfl) (by kernel_rfl) (fun c a v w h => HQ2.out c a _ v w h) (by kernel_rfl) (.int .i64 (i : Int)) (fun W h => by kernel_rfl) hH ?_
              try simp only [Act.put, List.setIfInBounds_toArray, List.set_cons_zero, List.set_cons_succ]
              refine held_v 2 (some 146) rfl (by kernel_rfl) (by kernel_rfl) (by kernel_rfl) (by kernel_rfl) (fun c a v w h => HQ2.out c a _ v w h) (by kernel_rfl) (.pointer (some ⟨go, i, none⟩)) (fun W h => by have p := HI2.out; have p2 := HI3.out; go_simp) hH ?_
              try simp only [Act.put, List.setIfInBounds_toArray, List.set_cons_zero, List.set_cons_succ]
              refine held_v 3 (some 147) rfl (by kernel_rfl) (by kernel_rfl) (by kernel_rfl) (by kernel_rfl) (fun c a v w h => HQ2.out c a _ v w h) (by kernel_rfl) (.int .u64 cc) (fun W h => by have p := HCC.out W h; go_simp) hH ?_
              try simp only [Act.put, List.setIfInBounds_toArray, List.set_cons_zero, List.set_cons_succ]
              refine held_v 4 (some 148) rfl (by kernel_rfl) (by kernel_rfl) (by kernel_rfl) (by kernel_rfl) (fun c a v w h => HQ2.out c a _ v w h) (by kernel_rfl) (.int .u64 (tt : Int)) (fun W h => by kernel_rfl) hH ?_
              try simp only [Act.put, List.setIfInBounds_toArray, List.set_cons_zero, List.set_cons_succ]
              refine held_v 5 (some 149) rfl (by kernel_rfl) (by kernel_rfl) (by kernel_rfl) (by kernel_rfl) (fun c a v w h => HQ2.out c a _ v w h) (by kernel_rfl) (.int .u64 r) (fun W h => by have p := HM1.out; have p2 := HU1.out; go_simp) hH ?_
              try simp only [Act.put, List.setIfInBounds_toArray, List.set_cons_zero, List.set_cons_succ]
              refine held_v 6 (some 150) rfl (by kernel_rfl) (by kernel_rfl) (by kernel_rfl) (by kernel_rfl) (fun c a v w h => HQ2.out c a _ v w h) (by kernel_rfl) (.slice (some ⟨g5, off5, none⟩) n c5) (fun W h => by kernel_rfl) hH ?_
              try simp only [Act.put, List.setIfInBounds_toArray, List.set_cons_zero, List.set_cons_succ]
              refine held_v 7 (some 151) rfl (by kernel_rfl) (by kernel_rfl) (by kernel_rfl) (by kernel_rfl) (fun c a v w h => HQ2.out c a _ v w h) (by kernel_rfl) (.int .i64 (i : Int)) (fun W h => by kernel_rfl) hH ?_
              try simp only [Act.put, List.setIfInBounds_toArray, List.set_cons_zero, List.set_cons_succ]
              refine held_v 8 (some 152) rfl (by kernel_rfl) (by kernel_rfl) (by kernel_rfl) (by kernel_rfl) (fun c a v w h => HQ2.out c a _ v w h) (by kernel_rfl) (.pointer (some ⟨g5, off5 + i, none⟩)) (fun W h => by have p := HI2.out; have p2 := HI3.out; go_simp) hH ?_
              try simp only [Act.put, List.setIfInBounds_toArray, List.set_cons_zero, List.set_cons_succ]
              refine held_v 9 (some 153) rfl (by kernel_rfl) (by kernel_rfl) (by kernel_rfl) (by kernel_rfl) (fun c a v w h => HQ2.out c a _ v w h) (by kernel_rfl) (.int .u64 y) (fun W h => by have p := HCY.out W h; go_simp) hH ?_
              try simp only [Act.put, List.setIfInBounds_toArray, List.set_cons_zero, List.set_cons_succ]
              refine held_v 10 (some 154) rfl (by kernel_rfl) (by kernel_rfl) (by kernel_rfl) (by kernel_rfl) (fun c a v w h => HQ2.out c a _ v w h) (by kernel_rfl) (.int .i64 (k : Int)) (fun W h => by kernel_rfl) hH ?_
              try simp only [Act.put, List.setIfInBounds_toArray, List.set_cons_zero, List.set_cons_succ]
              refine held_v 11 (some 155) rfl (by kernel_rfl) (by kernel_rfl) (by kernel_rfl) (by kernel_rfl) (fun c a v w h => HQ2.out c a _ v w h) (by kernel_rfl) (.int .i64 (t : Int)) (fun W h => by kernel_rfl) hH ?_
              try simp only [Act.put, List.setIfInBounds_toArray, List.set_cons_zero, List.set_cons_succ]
              refine held_v 12 (some 156) rfl (by kernel_rfl) (by kernel_rfl) (by kernel_rfl) (by kernel_rfl) (fun c a v w h => HQ2.out c a _ v w h) (by kernel_rfl) (.int .i64 (M : Int)) (fun W h => by have p := HKT.out; have p2 := HMW.out; go_simp) hH ?_
              try simp only [Act.put, List.setIfInBounds_toArray, List.set_cons_zero, List.set_cons_succ]
              refine held_v 14 (some 158) rfl (by kernel_rfl) (by kernel_rfl) (by kernel_rfl) (by kernel_rfl) (fun c a v w h => HQ2.out c a _ v w h) (by kernel_rfl) (.int .u64 (Y : Int)) (fun W h => by kernel_rfl) hH ?_
              try simp only [Act.put, List.setIfInBounds_toArray, List.set_cons_zero, List.set_cons_succ]
              refine wpAnyH_ready (rs := [13]) (by kernel_rfl) (by decide) ?_
              refine AllReadyH.cons rfl (fun K hK => ?_) AllReadyH.nil
              refine step_call (some 157) (by kernel_rfl) (by kernel_rfl) _ _ (by kernel_rfl) _ (HP2.out _) ?_
              rintro e _ ⟨rfl, rfl⟩
              refine ⟨_, rfl, ?_⟩
              refine hK.out _ _ hH (fun _ => ?_)
              clear hK K
              try simp only [Act.put, List.setIfInBounds_toArray, List.set_cons_zero, List.set_cons_succ]
              refine held_v 15 (some 159) rfl (by kernel_rfl) (by kernel_rfl) (by kernel_rfl) (by kernel_rfl) (fun c a v w h => HQ2.out c a _ v w h) (by kernel_rfl) (.int .u64 d) (fun W h => by have p := HS1.out; have p2 := HSU.out; go_simp) hH ?_
              try simp only [Act.put, List.setIfInBounds_toArray, List.set_cons_zero, List.set_cons_succ]
              refine held_v 16 (some 160) rfl (by kernel_rfl) (by kernel_rfl) (by kernel_rfl) (by kernel_rfl) (fun c a v w h => HQ2.out c a _ v w h) (by kernel_rfl) (.int .u64 r) (fun W h => by have p := HM2.out; have p2 := HU1.out; go_simp) hH ?_
              try simp only [Act.put, List.setIfInBounds_toArray, List.set_cons_zero, List.set_cons_succ]
              refine held_v 17 (some 161) rfl (by kernel_rfl) (by kernel_rfl) (by kernel_rfl) (by kernel_rfl) (fun c a v w h => HQ2.out c a _ v w h) (by kernel_rfl) (.bool false) (fun W h => by have p := HRR.out; go_simp) hH ?_
              try simp only [Act.put, List.setIfInBounds_toArray, List.set_cons_zero, List.set_cons_succ]
              refine wpAnyH_done (by kernel_rfl) ?_ _
              refine HQ1.out _ _ ?_
              clear HQ1 HQ2
              go_wp2
              go_roundw
              case rel => exact ⟨i + 1, by omega, by go_num, hH⟩
              case measure => simp [intOf]; omega
            · obtain rfl : i = n := by omega
              have HF1 := Lib.hid hrel
              clear hrel
              go_wp2
              go_ret
              exact ⟨rfl, Fx.e4 HF1.out⟩


set_option maxRecDepth 100000 in
theorem lifted (os : Os) (started : os.Started) (H : Type) (enc : TypeId × Value → H) :
    ReturnsInHanded {} Tryd.checked os 3 .any (fun w args => (Rows.pickCountsSpec.pre enc Tryd.prog Tryd.f3 [] false w args ∧ laidMetH Tryd.prog laidK w) ∧ sizedMet enc Tryd.prog Tryd.f3 (OpenSpec.ofChange Rows.pickCountsSpec) false w args) (Rows.pickCountsSpec.post enc Tryd.prog Tryd.f3 false true false false) := by
  refine returnsInHanded_of_change_and (C := Tryd.checked) (X := fun w _ => laidMetH Tryd.prog laidK w) (fun _ _ _ hh h => h.of_heap hh) own started (by kernel_rfl) Tryd.func3
    (ChangeSpec.witness_shaped (enc := enc) (C := Tryd.checked) (os := os) (X := fun w _ => laidMetH Tryd.prog laidK w) false (World.doorLaid Tryd.prog 400 os) #[.slice none 0 0, .int .u8 0] 8 rfl (World.shaped_of_RefB (by kernel_rfl) (by kernel_rfl)) (by kernel_rfl) (by kernel_rfl) (by kernel_rfl) (door_met os _)) ?_
  intro W base args ds gs before hval0 hW _ _ hL _
  have hval : ∀ (j : Nat) t v, Tryd.f3.params[j]? = some t → args[j]? = some v → Value.okWide Tryd.prog W .any base t v := hval0
  have hW' := hW
  obtain ⟨p, q, hA0, hV, rfl, hfz, hnd⟩ := hW
  have hA : DataW.TrodAll enc Tryd.prog W 0 (fun _ => true) true Tryd.f3.params.toList args.toList ds p := hA0
  rw [Tryd.params3] at hA hval
  obtain ⟨v0, vs0, d0, ds0, p0, q0, hargs, rfl, rfl, h0, r0⟩ := trodAll_cons hA
  obtain ⟨v1, vs1, d1, ds1, p1, q1, rfl, rfl, rfl, h1, r1⟩ := trodAll_cons r0
  obtain ⟨rfl, rfl, rfl⟩ := trodAll_nil r1
  obtain rfl : args = #[v0, v1] := by cases args; simp_all
  obtain ⟨rfl, rfl⟩ := trodVars_none hV
  obtain ⟨a0, n0, c0, rfl⟩ := okWide_slice Tryd.underlying22 (hval 0 22 v0 rfl rfl)
  have k0 := h0
  have lt0 : ∀ x ∈ p0, x.block < W.heap.size := by obtain ⟨m, hm⟩ := k0; exact DataW.trod_lt m _ _ _ hm
  obtain ⟨z0, rd0, lc0, cm0, w0⟩ := open_rd Tryd.underlying22 Tryd.underlying24 (by kernel_rfl) h0
  obtain ⟨a1, rfl, rfl, rfl, w1⟩ := open_int Tryd.underlying5 (hval 1 5 v1 rfl rfl) h1
  clear hA0 hval0
  refine (walk a0 n0 c0 z0 a1 W rd0 lc0 cm0 w0 w1 (kst_of_laid hL)).mono fun e W' ⟨he, bel⟩ => ?_
  subst he
  exact ⟨_, rfl, _, _, _, [], _, [], hW', trodAll_mk1 (shut_bool Tryd.underlying4 _), (trodAll_cons_mk (Below.trod laidOut (by kernel_rfl) (of_decide_eq_true (by kernel_rfl)) k0 bel lt0) (trodAll_cons_mk (shut_int Tryd.underlying5 w1) trodAll_mk0)), rfl, bel.frame _, fun h => by cases h⟩

theorem over : Rows.pickCountsRow.holds Tryd.pinned (OpenSpec.ofChange Rows.pickCountsSpec) :=
  OpenClaim.holds_of_wide 3 Tryd.f3 rfl rfl rfl rfl rfl rfl rfl ⟨rfl, rfl, rfl, rfl, rfl⟩ rfl rfl rfl rfl rfl (by kernel_rfl) Tryd.func3 (by kernel_rfl)
    (of_decide_eq_true (by kernel_rfl)) (by unfold Func.isWrapper; first | (rw [if_pos (by decide +kernel)]; kernel_rfl) | (rw [if_neg (by decide +kernel)]; exact ⟨rfl, rfl⟩))
    (fun os started H enc _ => lifted os started H enc)

end Go.Proofs.YtomkidgmpbjgeaaDoor.pickCounts
namespace Go.Proofs.YtomkidgmpbjgeaaDoor
theorem pickCounts_holds : Rows.PickCountsCardSaid :=
  Claim7.holds_tied_plain_at .later [] kindsK true _ false
    pickCounts.over (fun _ h => by cases h) (by kernel_rfl) (fun _ h => by cases h) pickCounts_row_tie rfl ⟨rfl, rfl⟩ (by kernel_rfl) rfl
    (fun f fn hf hfn => by
      obtain rfl : f = 3 := Option.some.inj ((show Tryd.prog.funcNamed "drawlot/drawlotlaw15.PickCounts" = some 3 by kernel_rfl).symm.trans hf) |>.symm
      obtain rfl : fn = Tryd.f3 := (Option.some.inj (Tryd.func3.symm.trans hfn)).symm
      exact ⟨by kernel_rfl, fun j t ht => by
        rw [Tryd.params3] at ht
        have hm : t ∈ [22, 5] := by simpa using Array.mem_of_getElem? ht
        have hall : ([22, 5].all fun u => !Tryd.prog.wantsStandIn u) = true := by kernel_rfl
        exact (show Tryd.prog.wantsStandIn t = false by simpa using List.all_eq_true.1 hall t hm)⟩)
    (by kernel_rfl)
#print axioms pickCounts_holds
end Go.Proofs.YtomkidgmpbjgeaaDoor

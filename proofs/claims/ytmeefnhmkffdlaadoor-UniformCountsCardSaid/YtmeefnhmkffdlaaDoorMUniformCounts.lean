/-
  Of all tapes each number below the bound is drawn by just as many as is said, and nothing by just the others; of bounds up to 16, and tapes of up to 12 bits.
  Conditions: the program's table of constants reads, when the call begins, as its text lays it (the card ties that).
-/
import Derived.Test.YtmeefnhmkffdlaaDoorGe
import Derived.ShutString
import Derived.Test.YtmeefnhmkffdlaaDoorTie
import Derived.Test.YtmeefnhmkffdlaaDoorCards
import Derived.SevenTiedAt
import Derived.ChangeOld
namespace Go.Proofs.YtmeefnhmkffdlaaDoor.uniformCounts
open Go.ChangeShapes Go.WideShapes Go.ChangeAt Go.RowKit
set_option linter.unusedVariables false
set_option linter.unusedSimpArgs false
set_option maxRecDepth 100000

theorem own : ownKnob Tryd.prog.godebug = none := by kernel_rfl
theorem laidOut : laidOutB Tryd.prog = true := by kernel_rfl

theorem need16 : ∀ c, c < 16 → needN ((c + 1 : Nat) : Int) ≤ 4 ∧ c + 1 ≤ 2 ^ needN ((c + 1 : Nat) : Int) := by decide +kernel
theorem zero_g16 : ∀ W, (zeroValue 35).run Tryd.prog W = .ok (.agg (intsA .u64 (List.replicate 16 0))) W := (zero_of_info (n := 16) (by kernel_rfl)).1
theorem size_u64s : (Tryd.prog.info? 23).map (·.size) = some 1 := by kernel_rfl
theorem intsA_set (k : IntKind) (zs : List Int) (j : Nat) (z : Int) : (intsA k zs).setIfInBounds j (.int k z) = intsA k (zs.set j z) := by simp [intsA, List.map_set]
/-- How many of the first x tapes draw nothing; how many draw each number. -/
def noneN (Q b t x : Nat) : Nat := cnt (fun y => hits Q b t y == none) x
def hitN (Q b t v x : Nat) : Nat := cnt (fun y => hits Q b t y == some v) x
def gotL (Q b t x : Nat) : List Int := (List.range 16).map (fun v => ((hitN Q b t v x : Nat) : Int))
theorem gotL_len (Q b t x : Nat) : (gotL Q b t x).length = 16 := by simp [gotL]
theorem gotL_at (Q b t x v : Nat) (h : v < 16) : (gotL Q b t x).getD v 0 = ((hitN Q b t v x : Nat) : Int) := by simp [gotL, h]
theorem gotL_zero (Q b t : Nat) : gotL Q b t 0 = List.replicate 16 0 := rfl
theorem noneN_hit (Q b t x v : Nat) (h : hits Q b t x = some v) : noneN Q b t (x + 1) = noneN Q b t x := by
  unfold noneN
  rw [cnt, h]
  simp
theorem noneN_miss (Q b t x : Nat) (h : hits Q b t x = none) : noneN Q b t (x + 1) = noneN Q b t x + 1 := by
  unfold noneN
  rw [cnt, h]
  simp
theorem hitN_step (Q b t x u : Nat) : hitN Q b t u (x + 1) = hitN Q b t u x + if hits Q b t x == some u then 1 else 0 := by
  unfold hitN
  rw [cnt]
theorem gotL_miss (Q b t x : Nat) (h : hits Q b t x = none) : gotL Q b t (x + 1) = gotL Q b t x := by
  unfold gotL
  congr 1
  funext u
  rw [hitN_step, h]
  simp
theorem gotL_hit (Q b t x v : Nat) (h : hits Q b t x = some v) (hv : v < 16) : gotL Q b t (x + 1) = (gotL Q b t x).set v ((hitN Q b t v x : Nat) + 1) := by
  apply List.ext_getElem
  · rw [List.length_set, gotL_len, gotL_len]
  · intro i h1 h2
    rw [gotL_len] at h1
    rw [List.getElem_set]
    simp only [gotL, List.getElem_map, List.getElem_range]
    rw [hitN_step, h]
    by_cases hi : v = i
    · subst hi
      simp
    · rw [if_neg hi, if_neg (by simpa using hi)]
      simp
theorem hitN_le (Q b t v x : Nat) : hitN Q b t v x ≤ x := cnt_le _ _
theorem noneN_le (Q b t x : Nat) : noneN Q b t x ≤ x := cnt_le _ _
/-- What the tape of the number x draws. -/
theorem draw_num (x k b t : Nat) (hk : needN (b : Int) = k) (hk4 : k ≤ 64) (hb1 : 1 ≤ b) (hb2 : b ≤ 16) (t1 : 1 ≤ t) (t4 : t ≤ 64) (hx : x < (2 ^ k) ^ t) : DrawsAs (k * t) (hits (2 ^ k) b t x) (drawR (numT x (k * t)) (b : Int) (t : Int)) := by
  have hr : rightS (numT x (k * t)) = true := (takeE_ok.1 (numT_take x (k * t) 0 0 (by omega) (by omega)).1).1
  have hB : drawB (numT x (k * t)) (b : Int) (t : Int) = true := by
    unfold drawB
    rw [hr, Bool.true_and]
    exact decide_eq_true ⟨by omega, by omega, by omega, by omega⟩
  unfold drawR
  rw [if_pos hB, hk, Int.toNat_natCast]
  have h := numT_draw x k b t hk4 t (Nat.le_refl _)
  rw [Nat.mod_eq_of_lt hx, Nat.sub_self, Nat.mul_zero] at h
  exact h
theorem draws_some {bits v : Nat} {h : Option Nat} {r : Int × Src × Int} (hd : DrawsAs bits h r) (e : h = some v) : r.1 = (v : Int) ∧ r.2.2 = 0 ∧ r.2.1.at_ ≤ (bits : Int) := by subst e; exact hd
theorem draws_none {bits : Nat} {h : Option Nat} {r : Int × Src × Int} (hd : DrawsAs bits h r) (e : h = none) : r.2.2 = 9 ∧ r.2.1.at_ = (bits : Int) := by subst e; exact hd
theorem draw_u {s : Src} {n a : Int} {A : Option Addr} {x e : Int} {X : Src} (hx : drawV s n a = x) (hX : drawT s n a = X) (he : drawE s n a = e) {w w' : World} {en : Ending} (h : RetDraw w s A (drawR s n a) en w') :
    ∃ A' c', en = .returned (.tuple #[.int .u64 x, .agg (srcV X A' c'), .int .i64 e]) ∧ Rd .u8 w' w'.heap.size A' s.tape.length s.tape ∧ s.tape.length ≤ c' ∧ c' ≤ maxLen ∧ Sep w A A' ∧ Below w.heap.size w w' := by
  subst hx hX he
  exact h
theorem pow_in (x y n : Nat) (h : x ≤ y) (hy : 1 ≤ y) (i : Nat) (hi : i ≤ n) : x ^ i ≤ y ^ n := Nat.le_trans (Nat.pow_le_pow_left h i) (Nat.pow_le_pow_right hy hi)
theorem fx_got {w0 w w' : World} {g : Nat} {G : List Int} {v : Nat} {z : Int} (hg : w0.heap.size ≤ g) (hb : Below w0.heap.size w0 w) (hk : Blk w' g 35 ((intsA .u64 G).setIfInBounds v (.int .u64 z))) (ho : Only g w w') : Fx [.blk g 35 (intsA .u64 (G.set v z)), .bel w0] w' :=
  ⟨by rw [← intsA_set]; exact hk, hb.trans (ho.below hg hb.size), trivial⟩
set_option maxHeartbeats 8000000 in
theorem big_walk (a0 a1 : Int) (b t k M : Nat) (n0 : 0 ≤ a0) (n1 : a0 < 256) (m0 : 0 ≤ a1) (m1 : a1 < 256) (hb1 : 1 ≤ b) (hb2 : b ≤ 16) (hb : 1 + a0 % 16 = (b : Int)) (ht1 : 1 ≤ t) (ht4 : t ≤ 4) (ht : 1 + a1 % 4 = (t : Int)) (hk : needN (b : Int) = k) (k4 : k ≤ 4) (hkt : (k : Int) * (t : Int) = (M : Int)) (hM16 : M ≤ 16) (hbig : 12 < M) (w : World) (hkst : Kst w) :
    Calls Tryd.prog 4 #[.int .u8 a0, .int .u8 a1] w fun e w' => e = .returned (.bool true) ∧ Below w.heap.size w w' := by
  have HKS := Lib.hid hkst
  have hn := fun W => q8need_c (b : Int) (by omega) (by omega) W
  rw [hk] at hn
  have HN := Lib.hid hn
  obtain ⟨p, hp⟩ : ∃ p, a0 % 16 = p := ⟨_, rfl⟩
  obtain ⟨q, hq⟩ : ∃ q, a1 % 4 = q := ⟨_, rfl⟩
  rw [hp] at hb
  rw [hq] at ht
  have p0 : 0 ≤ p := by omega
  have p1 : p < 16 := by omega
  have q0 : 0 ≤ q := by omega
  have q1 : q < 4 := by omega
  have kk0 : (0 : Int) ≤ (k : Int) := by omega
  have kk1 : (k : Int) ≤ 4 := by omega
  have mm1 : (M : Int) ≤ 16 := by omega
  have mm2 : (12 : Int) < (M : Int) := by omega
  obtain ⟨B, hB⟩ : ∃ B : Int, (b : Int) = B := ⟨_, rfl⟩
  obtain ⟨K, hK⟩ : ∃ K : Int, (k : Int) = K := ⟨_, rfl⟩
  obtain ⟨T, hT⟩ : ∃ T : Int, (t : Int) = T := ⟨_, rfl⟩
  obtain ⟨m, hm⟩ : ∃ m : Int, (M : Int) = m := ⟨_, rfl⟩
  have t0 : 0 ≤ T := by omega
  have t1 : T ≤ 4 := by omega
  rw [hB, hK] at HN
  rw [hB] at hb
  rw [hT] at ht
  rw [hK, hT, hm] at hkt
  rw [hK] at kk0 kk1
  rw [hm] at mm1 mm2
  clear hn hB hK hT hm hk hbig hM16 k4 ht1 ht4 hb1 hb2 hkst
  go_enter Tryd.func4, Tryd.ntmps4
  go_wp2_with (first
    | (go_at_call 7; (with_reducible refine (alive8_c w HKS.out).mono ?_); rintro e wa ⟨rfl, hba⟩; have HB := Lib.hid hba; clear hba)
    | (go_at_call 11; (with_reducible refine (HN.out _).mono ?_); rintro e _ ⟨rfl, rfl⟩))
  go_ret
  exact ⟨rfl, HB.out⟩
set_option maxHeartbeats 16000000 in
theorem main_walk (a0 a1 : Int) (b t k M : Nat) (n0 : 0 ≤ a0) (n1 : a0 < 256) (m0 : 0 ≤ a1) (m1 : a1 < 256) (hb1 : 1 ≤ b) (hb2 : b ≤ 16) (hb : 1 + a0 % 16 = (b : Int)) (ht1 : 1 ≤ t) (ht4 : t ≤ 4) (ht : 1 + a1 % 4 = (t : Int)) (hk : needN (b : Int) = k) (k4 : k ≤ 4) (hbQ : b ≤ 2 ^ k) (hM : k * t = M) (hsm : M ≤ 12) (w : World) (hkst : Kst w) :
    Calls Tryd.prog 4 #[.int .u8 a0, .int .u8 a1] w fun e w' => e = .returned (.bool true) ∧ Below w.heap.size w w' := by
  have HKS := Lib.hid hkst
  have hkt : (k : Int) * (t : Int) = (M : Int) := by rw [← hM]; push_cast; rfl
  have hn := fun W => q8need_c (b : Int) (by omega) (by omega) W
  have hQ16 : 2 ^ k ≤ 16 := Nat.pow_le_pow_right (n := 2) (by omega) k4
  have hN1 : 2 ^ M = (2 ^ k) ^ t := by rw [← hM, Nat.pow_mul]
  have hN2 : 2 ^ M ≤ 4096 := Nat.pow_le_pow_right (n := 2) (by omega) hsm
  have hP2 := fun W => r8pow_c 2 M (fun i hi => Nat.lt_of_le_of_lt (pow_in 2 2 12 (Nat.le_refl _) (by omega) i (by omega)) (by decide)) (by omega) W
  have hPk := fun W => r8pow_c 2 k (fun i hi => Nat.lt_of_le_of_lt (pow_in 2 2 12 (Nat.le_refl _) (by omega) i (by omega)) (by decide)) (by omega) W
  have hPl := fun W => r8pow_c (2 ^ k - b) t (fun i hi => Nat.lt_of_le_of_lt (pow_in (2 ^ k - b) 16 4 (by omega) (by omega) i (by omega)) (by decide)) (by omega) W
  rw [show ((2 : Nat) : Int) = 2 from rfl] at hP2 hPk
  have hDr := fun x (hx : x < (2 ^ k) ^ t) => draw_num x k b t hk (by omega) hb1 hb2 ht1 (by omega) hx
  have hLost := cnt_lost (2 ^ k) b t
  have hEven := fun v (hv : v < b) => cnt_even (2 ^ k) b v hv hbQ t
  rw [hk] at hn
  rw [hN1] at hN2 hP2
  rw [hM] at hDr
  clear hN1 hk
  obtain ⟨Q, hQ⟩ : ∃ Q, 2 ^ k = Q := ⟨_, rfl⟩
  rw [hQ] at hQ16 hN2 hP2 hPk hPl hDr hLost hEven hbQ
  clear hQ
  obtain ⟨N, hN⟩ : ∃ N, Q ^ t = N := ⟨_, rfl⟩
  rw [hN] at hN2 hP2 hLost
  have hDr2 : ∀ x, x < N → DrawsAs M (hits Q b t x) (drawR (numT x M) (b : Int) (t : Int)) := fun x hx => hDr x (by rw [hN]; exact hx)
  have hEv2 : ∀ v, v < b → hitN Q b t v N * b + (Q - b) ^ t = N := fun v hv => by have h := hEven v hv; rw [hN] at h; exact h
  clear hDr hEven hN
  have hQb : (Q : Int) - (b : Int) = ((Q - b : Nat) : Int) := by omega
  obtain ⟨L, hL⟩ : ∃ L, (Q - b) ^ t = L := ⟨_, rfl⟩
  obtain ⟨D, hD⟩ : ∃ D, Q - b = D := ⟨_, rfl⟩
  rw [hL] at hPl hLost hEv2
  rw [hD] at hPl hQb
  have hD16 : D ≤ 16 := by omega
  have hLost2 : noneN Q b t N = L := hLost
  have hLN : L ≤ N := by have := noneN_le Q b t N; omega
  clear hL hD hLost hbQ
  have HV := Lib.hid (fun x v h => hits_lt Q b t x v h)
  have HDR := Lib.hid hDr2
  have HEV := Lib.hid hEv2
  have HLO := Lib.hid hLost2
  have HP2 := Lib.hid hP2
  have HPK := Lib.hid hPk
  have HPL := Lib.hid hPl
  have HN := Lib.hid hn
  clear hDr2 hEv2 hLost2 hP2 hPk hPl hn hkst hM
  obtain ⟨p, hp⟩ : ∃ p, a0 % 16 = p := ⟨_, rfl⟩
  obtain ⟨q, hq⟩ : ∃ q, a1 % 4 = q := ⟨_, rfl⟩
  rw [hp] at hb
  rw [hq] at ht
  have p0 : 0 ≤ p := by omega
  have p1 : p < 16 := by omega
  have q0 : 0 ≤ q := by omega
  have q1 : q < 4 := by omega
  have HZ0 := Lib.hid zero_src
  have HZL := Lib.hid (show Src.zero.seed.length = 32 from rfl)
  go_enter Tryd.func4, Tryd.ntmps4
  go_wp2_with (first
    | (go_at_call 7; (with_reducible refine (alive8_c w HKS.out).mono ?_); rintro e wa ⟨rfl, hba⟩; have HB := Lib.hid hba; clear hba)
    | (go_at_call 11; (with_reducible refine (HN.out _).mono ?_); rintro e _ ⟨rfl, rfl⟩)
    | (with_reducible refine at_any ?_; refine at_dst 8 rfl ?_; refine wpList_alloc_ints rfl 35 rfl .u64 (List.replicate 16 0) zero_g16 ?_; intro w8 hk8 hs8 hb8; have HK8 := Lib.hid hk8.out; have HB8 := Lib.hid hb8; have HS8 := Lib.hid hs8.out; clear hk8 hb8 hs8))
  have HG0 : Fx [.blk wa.heap.size 35 (intsA .u64 (gotL Q b t 0)), .bel w] w8 := by
    rw [gotL_zero]
    exact ⟨HK8.out, HB.out.trans (HB8.out.mono HB.out.size), trivial⟩
  have hg8 : w.heap.size ≤ wa.heap.size := HB.out.size
  obtain ⟨g8, eg8⟩ : ∃ g, wa.heap.size = g := ⟨_, rfl⟩
  rw [eg8] at HG0 hg8
  rw [eg8]
  have HG8 := Lib.hid hg8
  clear eg8 HK8 HB8 HS8 HB hg8
  have nn0 : noneN Q b t 0 = 0 := rfl
  go_loopw [9, 10] (fun nn xx wr => ∃ x : Nat, x ≤ N ∧ nn = .int .u64 ((noneN Q b t x : Nat) : Int) ∧ xx = .int .u64 (x : Int) ∧ Fx [.blk g8 35 (intsA .u64 (gotL Q b t x)), .bel w] wr) (fun _ xx _ => N - (intOf xx).toNat)
  case atStart => exact ⟨0, by omega, rfl, rfl, HG0⟩
  case round =>
    clear HG0 nn0
    obtain ⟨x, hx, rfl, rfl, hrel⟩ := hrel
    by_cases hlt : x < N
    · have hD := HDR.out x hlt
      have okS := numT_ok x M (by omega)
      have okX := drawT_ok (numT x M) (b : Int) (t : Int) okS
      have hB : ∀ W, Calls Tryd.prog 15 #[.int .u64 (x : Int), .int .i64 (M : Int)] W (RetSl W (bytesB x M M)) := fun W => r8bytes_c x M (by omega) (by omega) W
      have hZl := bytesB_len x M M
      have hT : ∀ A c W, Rd .u8 W W.heap.size A (bytesB x M M).length (bytesB x M M) → (bytesB x M M).length ≤ c → Calls Tryd.prog 14 #[.slice A (bytesB x M M).length c, .int .u64 (M : Int)] W (fun e w' => ∃ A' c', e = .returned (.tuple #[.agg (srcV (numT x M) A' c'), .int .i64 0]) ∧ Rd .u8 w' w'.heap.size A' (bytesB x M M).length (bytesB x M M) ∧ (bytesB x M M).length ≤ c' ∧ c' ≤ maxLen ∧ Below W.heap.size W w') := fun A c W h1 h2 => by
        refine (rstape_c (bytesB x M M) (by omega) (M : Int) (by omega) (by omega) A _ c W h1 h2).mono fun _ _ h => ?_
        unfold RetTape at h
        rw [if_pos (by omega)] at h
        exact h
      obtain ⟨V, hV⟩ : ∃ V, drawV (numT x M) (b : Int) (t : Int) = V := ⟨_, rfl⟩
      obtain ⟨X, hX⟩ : ∃ V, drawT (numT x M) (b : Int) (t : Int) = V := ⟨_, rfl⟩
      obtain ⟨E, hE⟩ : ∃ V, drawE (numT x M) (b : Int) (t : Int) = V := ⟨_, rfl⟩
      have hQd : ∀ A c W, (bytesB x M M).length ≤ c → c ≤ maxLen → Rd .u8 W W.heap.size A (bytesB x M M).length (bytesB x M M) → Kst W → Calls Tryd.prog 8 #[.agg (srcV (numT x M) A c), .int .u64 (b : Int), .int .i64 (t : Int)] W (fun e w' => ∃ A' c', e = .returned (.tuple #[.int .u64 V, .agg (srcV X A' c'), .int .i64 E]) ∧ Rd .u8 w' w'.heap.size A' (bytesB x M M).length (bytesB x M M) ∧ (bytesB x M M).length ≤ c' ∧ c' ≤ maxLen ∧ Sep W A A' ∧ Below W.heap.size W w') := fun A c W h1 h2 h3 h4 => (q8draw_c (numT x M) okS (b : Int) (by omega) (by omega) (t : Int) (by omega) (by omega) A c h1 h2 W h3 h4).mono fun _ _ h => draw_u hV hX hE h
      have hcs : ∀ (W : World) (g : Nat) (A' : Option Addr) (c' : Nat), Blk W g 27 (srcV (numT x M) A' c') → W.cell? ⟨g, 2, none⟩ = some (.int .u64 (M : Int)) := fun W g A' c' h => (h.cell 2).trans (srcV_bits (numT x M) A' c')
      have hLS : (numT x M).seed.length = 32 := rfl
      have hLX : X.seed.length = 32 := by rw [← hX]; exact okX.sl
      have hcx : ∀ (W : World) (g : Nat) (A' : Option Addr) (c' : Nat), Blk W g 27 (srcV X A' c') → W.cell? ⟨g, 36, none⟩ = some (.int .u64 X.at_) := fun W g A' c' h => (h.cell 36).trans (srcV_at X hLX A' c')
      have hXa : 0 ≤ X.at_ := by rw [← hX]; exact okX.a0
      rw [hX] at okX
      have HG := Lib.hid hrel
      clear hrel
      cases hh : hits Q b t x with
      | none =>
        obtain ⟨he9, hat⟩ := draws_none hD hh
        have e9 : E = 9 := by rw [← hE]; exact he9
        have eA : X.at_ = (M : Int) := by rw [← hX]; exact hat
        subst e9
        rw [eA] at hcx
        have hgm := gotL_miss Q b t x hh
        have HNM := Lib.hid (noneN_miss Q b t x hh)
        have HNX : Hid (∀ W, Blk W g8 35 (intsA .u64 (gotL Q b t x)) → Below w.heap.size w W → Fx [.blk g8 35 (intsA .u64 (gotL Q b t (x + 1))), .bel w] W) := Lib.hid (fun W h1 h2 => by rw [hgm]; exact ⟨h1, h2, trivial⟩)
        have hnl := noneN_le Q b t x
        obtain ⟨G, hG⟩ : ∃ G, gotL Q b t x = G := ⟨_, rfl⟩
        obtain ⟨Y, hY⟩ : ∃ Y, noneN Q b t x = Y := ⟨_, rfl⟩
        rw [hG] at HG HNX
        rw [hY] at HNM hnl
        rw [hY]
        obtain ⟨Z, hZ⟩ : ∃ Z, bytesB x M M = Z := ⟨_, rfl⟩
        obtain ⟨S, hS⟩ : ∃ S, numT x M = S := ⟨_, rfl⟩
        rw [hZ] at hB hT hQd hZl
        rw [hS] at hT hQd hcs hLS
        have HBY := Lib.hid hB
        have HTP := Lib.hid hT
        have HQ := Lib.hid hQd
        have HCS := Lib.hid hcs
        have HCX := Lib.hid hcx
        have HLS := Lib.hid hLS
        have HLX := Lib.hid hLX
        have HX1 := Lib.hid hh
        have hY1 : (Y : Int) ≤ 4096 := by omega
        have hx1 : (x : Int) < 4096 := by omega
        clear hB hT hQd hcs hcx hLS hLX hD okS okX hV hX hE hgm hG hY hZ hS hh he9 hat eA hXa hZl hnl
        have G0 := HG
        clear HG
        go_wp2_with (first
          | (go_at_call 13; (with_reducible refine (HP2.out _).mono ?_); rintro e _ ⟨rfl, rfl⟩)
          | (go_at_call 15; (with_reducible refine (HBY.out _).mono ?_); rintro e w51 ⟨A52, c53, rfl, hlw51, hmw51, hrw51, hbw51⟩; have lc53 := Lib.hid hlw51; have mc53 := Lib.hid hmw51; have G54 := Lib.hid (Fx.addR G0.out hbw51 hrw51); clear G0; clear hrw51 hbw51 hlw51 hmw51)
          | (go_at_call 14; (with_reducible refine (HTP.out A52 c53 _ (Fx.r0 G54.out) lc53.out).mono ?_); rintro e w55 ⟨A56, c57, rfl, hrw55, hlw55, hmw55, hbw55⟩; have lc57 := Lib.hid hlw55; have mc57 := Lib.hid hmw55; have G58 := Lib.hid (Fx.addR G54.out hbw55 hrw55); clear G54; clear hrw55 hbw55 hlw55 hmw55)
          | (with_reducible refine at_any ?_; refine at_dst 11 rfl ?_; refine wpList_alloc_any rfl 27 rfl (srcV Src.zero none 0) HZ0.out ?_; intro w59 hkw59 hsw59 hbw59; have U60 := Lib.hid (Fx.under_new G58.out rfl); have G61 := Lib.hid (Fx.newB G58.out hkw59.out hbw59); clear G58; clear hkw59 hsw59 hbw59)
          | (with_reducible refine at_any ?_; refine at_store 11 rfl ?_; refine wpList_store_any rfl 27 (.tmp 11) (.tmp 67) rfl w55.heap.size rfl 27 (srcV Src.zero none 0) (srcV S A56 c57) (Fx.b0 G61.out) rfl (srcV_same _ S HZL.out HLS.out _ _ _ _) (sizedS S HLS.out _ _) (srcV_ones _ _ _) ?_; intro w62 hkw62 hsw62 hbw62 how62; have G63 := Lib.hid (Fx.put1B G61.out U60.out hkw62.out hsw62.out hbw62 how62); clear G61; clear hkw62 hsw62 hbw62 how62)
          | (with_reducible refine at_any ?_; refine at_dst 70 rfl ?_; refine wpList_load_blk rfl 27 (.tmp 11) rfl w55.heap.size rfl 27 (srcV S A56 c57) (Fx.b0 G63.out) _ Tryd.underlying27 rfl (sizedS S HLS.out _ _) ?_)
          | (go_at_call 8; (with_reducible refine (HQ.out A56 c57 _ lc57.out mc57.out (Fx.r1 G63.out) (HKS.out.below (Fx.e4 G63.out))).mono ?_); rintro e w64 ⟨A65, c66, rfl, hrw64, hlw64, hmw64, _, hbw64⟩; have lc66 := Lib.hid hlw64; have mc66 := Lib.hid hmw64; have G67 := Lib.hid (Fx.addR G63.out hbw64 hrw64); clear G63; clear hrw64 hbw64 hlw64 hmw64)
          | (with_reducible refine at_any ?_; refine at_dst 14 rfl ?_; refine wpList_alloc_any rfl 27 rfl (srcV Src.zero none 0) HZ0.out ?_; intro w68 hkw68 hsw68 hbw68; have U69 := Lib.hid (Fx.under_new G67.out rfl); have G70 := Lib.hid (Fx.newB G67.out hkw68.out hbw68); clear G67; clear hkw68 hsw68 hbw68)
          | (with_reducible refine at_any ?_; refine at_store 14 rfl ?_; refine wpList_store_any rfl 27 (.tmp 14) (.tmp 75) rfl w64.heap.size rfl 27 (srcV Src.zero none 0) (srcV X A65 c66) (Fx.b0 G70.out) rfl (srcV_same _ X HZL.out HLX.out _ _ _ _) (sizedS X HLX.out _ _) (srcV_ones _ _ _) ?_; intro w71 hkw71 hsw71 hbw71 how71; have G72 := Lib.hid (Fx.put1B G70.out U69.out hkw71.out hsw71.out hbw71 how71); clear G70; clear hkw71 hsw71 hbw71 how71; have cx := HCX.out _ _ _ _ (Fx.b0 G72.out); have cs := HCS.out _ _ _ _ (Fx.b2 G72.out)))
        go_roundw
        case rel => exact ⟨x + 1, by omega, by rw [HNM.out]; go_num, by go_num, (HNX.out _ (Fx.b5 G72.out) (Fx.e6 G72.out))⟩
        case measure => simp [intOf]; omega
      | some v =>
        obtain ⟨hev, he0, hat⟩ := draws_some hD hh
        have hvb := HV.out x v hh
        have e0 : E = 0 := by rw [← hE]; exact he0
        have eV : V = (v : Int) := by rw [← hV]; exact hev
        have eA : X.at_ ≤ (M : Int) := by rw [← hX]; exact hat
        subst e0 eV
        have hv16 : v < 16 := by omega
        have hgm := gotL_hit Q b t x v hh hv16
        have hga := gotL_at Q b t x v hv16
        have hgl := gotL_len Q b t x
        have HNM := Lib.hid (noneN_hit Q b t x v hh)
        have hcl := hitN_le Q b t v x
        obtain ⟨C, hC⟩ : ∃ C, hitN Q b t v x = C := ⟨_, rfl⟩
        rw [hC] at hgm hga hcl
        obtain ⟨c, hc⟩ : ∃ c : Int, (C : Int) = c := ⟨_, rfl⟩
        rw [hc] at hgm hga
        have c0 : 0 ≤ c := by omega
        have c1 : c ≤ 4096 := by omega
        have HGV : Hid (∀ W, Blk W g8 35 (intsA .u64 (gotL Q b t x)) → W.cell? ⟨g8, v, none⟩ = some (.int .u64 c)) := Lib.hid (fun W h => by rw [h.cell, intsA_at _ _ _ (by rw [hgl]; exact hv16), hga])
        have HGL : Hid (v < (intsA .u64 (gotL Q b t x)).size) := Lib.hid (by rw [intsA_size, hgl]; exact hv16)
        have HNX : Hid (∀ W W', Below w.heap.size w W → Blk W' g8 35 ((intsA .u64 (gotL Q b t x)).setIfInBounds v (.int .u64 (c + 1))) → Only g8 W W' → Fx [.blk g8 35 (intsA .u64 (gotL Q b t (x + 1))), .bel w] W') := Lib.hid (fun W W' h1 h2 h3 => by rw [hgm]; exact fx_got HG8.out h1 h2 h3)
        have hnl := noneN_le Q b t x
        obtain ⟨G, hG⟩ : ∃ G, gotL Q b t x = G := ⟨_, rfl⟩
        obtain ⟨Y, hY⟩ : ∃ Y, noneN Q b t x = Y := ⟨_, rfl⟩
        rw [hG] at HG HNX HGV HGL
        rw [hY] at HNM hnl
        rw [hY]
        obtain ⟨Z, hZ⟩ : ∃ Z, bytesB x M M = Z := ⟨_, rfl⟩
        obtain ⟨S, hS⟩ : ∃ S, numT x M = S := ⟨_, rfl⟩
        obtain ⟨xa, hxa⟩ : ∃ y, X.at_ = y := ⟨_, rfl⟩
        rw [hZ] at hB hT hQd hZl
        rw [hS] at hT hQd hcs hLS
        rw [hxa] at hcx eA hXa
        have HBY := Lib.hid hB
        have HTP := Lib.hid hT
        have HQ := Lib.hid hQd
        have HCS := Lib.hid hcs
        have HCX := Lib.hid hcx
        have HLS := Lib.hid hLS
        have HLX := Lib.hid hLX
        have HX1 := Lib.hid hh
        have hY1 : (Y : Int) ≤ 4096 := by omega
        have hx1 : (x : Int) < 4096 := by omega
        have v0 : (0 : Int) ≤ (v : Int) := by omega
        have v16 : (v : Int) < 16 := by omega
        have vb : (v : Int) < (b : Int) := by omega
        have nxa : ¬ ((M : Int) < xa) := by omega
        clear hB hT hQd hcs hcx hLS hLX hD okS okX hV hX hE hgm hG hY hZ hS hh hev he0 hat hxa hZl hnl hC hc hcl hga hgl
        have G0 := HG
        clear HG
        go_wp2_with (first
          | (go_at_call 13; (with_reducible refine (HP2.out _).mono ?_); rintro e _ ⟨rfl, rfl⟩)
          | (go_at_call 15; (with_reducible refine (HBY.out _).mono ?_); rintro e w51 ⟨A52, c53, rfl, hlw51, hmw51, hrw51, hbw51⟩; have lc53 := Lib.hid hlw51; have mc53 := Lib.hid hmw51; have G54 := Lib.hid (Fx.addR G0.out hbw51 hrw51); clear G0; clear hrw51 hbw51 hlw51 hmw51)
          | (go_at_call 14; (with_reducible refine (HTP.out A52 c53 _ (Fx.r0 G54.out) lc53.out).mono ?_); rintro e w55 ⟨A56, c57, rfl, hrw55, hlw55, hmw55, hbw55⟩; have lc57 := Lib.hid hlw55; have mc57 := Lib.hid hmw55; have G58 := Lib.hid (Fx.addR G54.out hbw55 hrw55); clear G54; clear hrw55 hbw55 hlw55 hmw55)
          | (with_reducible refine at_any ?_; refine at_dst 11 rfl ?_; refine wpList_alloc_any rfl 27 rfl (srcV Src.zero none 0) HZ0.out ?_; intro w59 hkw59 hsw59 hbw59; have U60 := Lib.hid (Fx.under_new G58.out rfl); have G61 := Lib.hid (Fx.newB G58.out hkw59.out hbw59); clear G58; clear hkw59 hsw59 hbw59)
          | (with_reducible refine at_any ?_; refine at_store 11 rfl ?_; refine wpList_store_any rfl 27 (.tmp 11) (.tmp 67) rfl w55.heap.size rfl 27 (srcV Src.zero none 0) (srcV S A56 c57) (Fx.b0 G61.out) rfl (srcV_same _ S HZL.out HLS.out _ _ _ _) (sizedS S HLS.out _ _) (srcV_ones _ _ _) ?_; intro w62 hkw62 hsw62 hbw62 how62; have G63 := Lib.hid (Fx.put1B G61.out U60.out hkw62.out hsw62.out hbw62 how62); clear G61; clear hkw62 hsw62 hbw62 how62)
          | (with_reducible refine at_any ?_; refine at_dst 70 rfl ?_; refine wpList_load_blk rfl 27 (.tmp 11) rfl w55.heap.size rfl 27 (srcV S A56 c57) (Fx.b0 G63.out) _ Tryd.underlying27 rfl (sizedS S HLS.out _ _) ?_)
          | (go_at_call 8; (with_reducible refine (HQ.out A56 c57 _ lc57.out mc57.out (Fx.r1 G63.out) (HKS.out.below (Fx.e4 G63.out))).mono ?_); rintro e w64 ⟨A65, c66, rfl, hrw64, hlw64, hmw64, _, hbw64⟩; have lc66 := Lib.hid hlw64; have mc66 := Lib.hid hmw64; have G67 := Lib.hid (Fx.addR G63.out hbw64 hrw64); clear G63; clear hrw64 hbw64 hlw64 hmw64)
          | (with_reducible refine at_any ?_; refine at_dst 14 rfl ?_; refine wpList_alloc_any rfl 27 rfl (srcV Src.zero none 0) HZ0.out ?_; intro w68 hkw68 hsw68 hbw68; have U69 := Lib.hid (Fx.under_new G67.out rfl); have G70 := Lib.hid (Fx.newB G67.out hkw68.out hbw68); clear G67; clear hkw68 hsw68 hbw68)
          | (with_reducible refine at_any ?_; refine at_store 14 rfl ?_; refine wpList_store_any rfl 27 (.tmp 14) (.tmp 75) rfl w64.heap.size rfl 27 (srcV Src.zero none 0) (srcV X A65 c66) (Fx.b0 G70.out) rfl (srcV_same _ X HZL.out HLX.out _ _ _ _) (sizedS X HLX.out _ _) (srcV_ones _ _ _) ?_; intro w71 hkw71 hsw71 hbw71 how71; have G72 := Lib.hid (Fx.put1B G70.out U69.out hkw71.out hsw71.out hbw71 how71); clear G70; clear hkw71 hsw71 hbw71 how71; have cx := HCX.out _ _ _ _ (Fx.b0 G72.out); have cs := HCS.out _ _ _ _ (Fx.b2 G72.out); have cg := HGV.out _ (Fx.b5 G72.out))
          | (with_reducible refine at_any ?_; refine at_store 94 rfl ?_; refine wpList_store_cell rfl 23 (.tmp 94) (.tmp 93) rfl g8 v rfl 35 (intsA .u64 G) (Fx.b5 G72.out) (.int .u64 (c + 1)) rfl HGL.out size_u64s rfl rfl ?_; intro w90 hk90 ho90; have HF9 := Lib.hid (HNX.out _ _ (Fx.e6 G72.out) hk90.out ho90); clear hk90 ho90))
        go_roundw
        case rel => exact ⟨x + 1, by omega, by rw [HNM.out], by go_num, HF9.out⟩
        case measure => simp [intOf]; omega
    · obtain rfl : x = N := by omega
      have hgl := gotL_len Q b t x
      have HGA := Lib.hid (fun v hv => gotL_at Q b t x v hv)
      have HEV2 := Lib.hid (fun v hv => HEV.out v hv)
      have hlo := HLO.out
      obtain ⟨G, hG⟩ : ∃ G, gotL Q b t x = G := ⟨_, rfl⟩
      rw [hG] at hrel HGA hgl
      obtain ⟨Y, hY⟩ : ∃ Y, noneN Q b t x = Y := ⟨_, rfl⟩
      rw [hY] at hlo
      rw [hY]
      subst hlo
      have hx1 : (x : Int) ≤ 4096 := by omega
      have hY1 : (Y : Int) ≤ (x : Int) := by omega
      have HF0 := Lib.hid hrel
      have HGLN := Lib.hid hgl
      clear hrel hG hY HEV HLO HDR HV hlt hgl hx
      go_wp2_with (first
        | (go_at_call 13; (with_reducible refine (HP2.out _).mono ?_); rintro e _ ⟨rfl, rfl⟩)
        | (go_at_call 13; (with_reducible refine (HPK.out _).mono ?_); rintro e _ ⟨rfl, rfl⟩)
        | (go_at_call 13; (with_reducible refine (HPL.out _).mono ?_); rintro e _ ⟨rfl, rfl⟩))
      obtain ⟨wo, hwo⟩ : ∃ wo : World, wo = wr := ⟨_, rfl⟩
      rw [← hwo] at HF0
      rw [← hwo]
      clear hwo wr
      go_loopw [17] (fun ii wr => ∃ i : Nat, i ≤ b ∧ ii = .int .u64 (i : Int) ∧ Fx [.blk g8 35 (intsA .u64 G), .bel w] wr) (fun ii _ => b - (intOf ii).toNat)
      case atStart => exact ⟨0, by omega, rfl, HF0.out⟩
      case round =>
        clear HF0
        obtain ⟨i, hi, rfl, hrel⟩ := hrel
        by_cases hib : i < b
        · have hat := intsA_at .u64 G i (by have := HGLN.out; omega)
          rw [HGA.out i (by omega)] at hat
          have he := HEV2.out i hib
          obtain ⟨C, hC⟩ : ∃ C, hitN Q b t i x = C := ⟨_, rfl⟩
          rw [hC] at hat he
          have hm : (C : Int) * (b : Int) = ((C * b : Nat) : Int) := by push_cast; rfl
          obtain ⟨r, hr⟩ : ∃ r, C * b = r := ⟨_, rfl⟩
          rw [hr] at hm he
          have hs : (x : Int) - (Y : Int) = (r : Int) := by omega
          have hs2 : (r : Int) ≤ 4096 := by omega
          have hi1 : (i : Int) < (b : Int) := by omega
          have hi2 : (i : Int) < 16 := by omega
          obtain ⟨cc, hcc⟩ : ∃ cc : Int, (C : Int) = cc := ⟨_, rfl⟩
          rw [hcc] at hat hm
          have HF1 := Lib.hid hrel
          clear hrel hC hr hcc he
          have HCC := Lib.hid (fun (W : World) (h : Blk W g8 35 (intsA .u64 G)) => (h.cell i).trans hat)
          have HKT := Lib.hid hkt
          have HM1 := Lib.hid hm
          have HS1 := Lib.hid hs
          have HU1 := Lib.hid (show IntKind.u64.wrap (r : Int) = (r : Int) by rw [IntKind.wrap_u64]; omega)
          have HI2 := Lib.hid hi2
          have HMW := Lib.hid (show IntKind.i64.wrap (M : Int) = (M : Int) by rw [IntKind.wrap_i64]; omega)
          clear hm hs hat
          go_wp2
          refine wp_region_held_drew (S := (Fx [.blk g8 35 (intsA .u64 G), .bel w])) (by kernel_rfl) (HF1.out.drew) (fun hH => ?_)
          refine wpAnyH_letter #[false, false, false, false, false, false, false, false, false, false, false, false] (by kernel_rfl) (fun _ _ d _ _ h => by cases d <;> exact h) (fun QL HQ1 HQ2 => ?_)
          refine held_v 0 (some 118) rfl (by kernel_rfl) (by kernel_rfl) (by kernel_rfl) (by kernel_rfl) (fun c a v w h => HQ2.out c a _ v w h) (by kernel_rfl) (.int .u64 (i : Int)) (fun W h => by kernel_rfl) hH ?_
          try simp only [Act.put, List.setIfInBounds_toArray, List.set_cons_zero, List.set_cons_succ]
          refine held_v 1 (some 119) rfl (by kernel_rfl) (by kernel_rfl) (by kernel_rfl) (by kernel_rfl) (fun c a v w h => HQ2.out c a _ v w h) (by kernel_rfl) (.pointer (some ⟨g8, i, none⟩)) (fun W h => by have p := HI2.out; go_simp) hH ?_
          try simp only [Act.put, List.setIfInBounds_toArray, List.set_cons_zero, List.set_cons_succ]
          refine held_v 2 (some 120) rfl (by kernel_rfl) (by kernel_rfl) (by kernel_rfl) (by kernel_rfl) (fun c a v w h => HQ2.out c a _ v w h) (by kernel_rfl) (.int .u64 cc) (fun W h => by have p := HCC.out W (Fx.b0 h); go_simp) hH ?_
          try simp only [Act.put, List.setIfInBounds_toArray, List.set_cons_zero, List.set_cons_succ]
          refine held_v 3 (some 121) rfl (by kernel_rfl) (by kernel_rfl) (by kernel_rfl) (by kernel_rfl) (fun c a v w h => HQ2.out c a _ v w h) (by kernel_rfl) (.int .u64 (b : Int)) (fun W h => by kernel_rfl) hH ?_
          try simp only [Act.put, List.setIfInBounds_toArray, List.set_cons_zero, List.set_cons_succ]
          refine held_v 4 (some 122) rfl (by kernel_rfl) (by kernel_rfl) (by kernel_rfl) (by kernel_rfl) (fun c a v w h => HQ2.out c a _ v w h) (by kernel_rfl) (.int .u64 (r : Int)) (fun W h => by have p := HM1.out; have p2 := HU1.out; go_simp) hH ?_
          try simp only [Act.put, List.setIfInBounds_toArray, List.set_cons_zero, List.set_cons_succ]
          refine held_v 5 (some 123) rfl (by kernel_rfl) (by kernel_rfl) (by kernel_rfl) (by kernel_rfl) (fun c a v w h => HQ2.out c a _ v w h) (by kernel_rfl) (.int .i64 (k : Int)) (fun W h => by kernel_rfl) hH ?_
          try simp only [Act.put, List.setIfInBounds_toArray, List.set_cons_zero, List.set_cons_succ]
          refine held_v 6 (some 124) rfl (by kernel_rfl) (by kernel_rfl) (by kernel_rfl) (by kernel_rfl) (fun c a v w h => HQ2.out c a _ v w h) (by kernel_rfl) (.int .i64 (t : Int)) (fun W h => by kernel_rfl) hH ?_
          try simp only [Act.put, List.setIfInBounds_toArray, List.set_cons_zero, List.set_cons_succ]
          refine held_v 7 (some 125) rfl (by kernel_rfl) (by kernel_rfl) (by kernel_rfl) (by kernel_rfl) (fun c a v w h => HQ2.out c a _ v w h) (by kernel_rfl) (.int .i64 (M : Int)) (fun W h => by have p := HKT.out; have p2 := HMW.out; go_simp) hH ?_
          try simp only [Act.put, List.setIfInBounds_toArray, List.set_cons_zero, List.set_cons_succ]
          refine held_v 9 (some 127) rfl (by kernel_rfl) (by kernel_rfl) (by kernel_rfl) (by kernel_rfl) (fun c a v w h => HQ2.out c a _ v w h) (by kernel_rfl) (.int .u64 (Y : Int)) (fun W h => by kernel_rfl) hH ?_
          try simp only [Act.put, List.setIfInBounds_toArray, List.set_cons_zero, List.set_cons_succ]
          refine wpAnyH_ready (rs := [8]) (by kernel_rfl) (by decide) ?_
          refine AllReadyH.cons rfl (fun K hK => ?_) AllReadyH.nil
          refine step_call (some 126) (by kernel_rfl) (by kernel_rfl) _ _ (by kernel_rfl) _ (HP2.out _) ?_
          rintro e _ ⟨rfl, rfl⟩
          refine ⟨_, rfl, ?_⟩
          refine hK.out _ _ hH (fun _ => ?_)
          clear hK K
          try simp only [Act.put, List.setIfInBounds_toArray, List.set_cons_zero, List.set_cons_succ]
          refine held_v 10 (some 128) rfl (by kernel_rfl) (by kernel_rfl) (by kernel_rfl) (by kernel_rfl) (fun c a v w h => HQ2.out c a _ v w h) (by kernel_rfl) (.int .u64 (r : Int)) (fun W h => by have p := HS1.out; have p2 := HU1.out; go_simp) hH ?_
          try simp only [Act.put, List.setIfInBounds_toArray, List.set_cons_zero, List.set_cons_succ]
          refine held_v 11 (some 129) rfl (by kernel_rfl) (by kernel_rfl) (by kernel_rfl) (by kernel_rfl) (fun c a v w h => HQ2.out c a _ v w h) (by kernel_rfl) (.bool false) (fun W h => by go_simp) hH ?_
          try simp only [Act.put, List.setIfInBounds_toArray, List.set_cons_zero, List.set_cons_succ]
          refine wpAnyH_done (by kernel_rfl) ?_ _
          refine HQ1.out _ _ ?_
          clear HQ1 HQ2
          go_wp2
          go_roundw
          case rel => exact ⟨i + 1, by omega, by go_num, hH⟩
          case measure => simp [intOf]; omega
        · obtain rfl : i = b := by omega
          have HF1 := Lib.hid hrel
          clear hrel
          go_wp2
          go_ret
          exact ⟨rfl, Fx.e1 HF1.out⟩
theorem walk (a0 a1 : Int) (w : World) (w0 : (Lit.int .u8 a0).wf = true) (w1 : (Lit.int .u8 a1).wf = true) (hkst : Kst w) :
    Calls Tryd.prog 4 #[.int .u8 a0, .int .u8 a1] w fun e w' => e = .returned (.bool true) ∧ Below w.heap.size w w' := by
  have h1 := bounds_u8 w0
  have h2 := bounds_u8 w1
  obtain ⟨c, hc, hb⟩ : ∃ c : Nat, c < 16 ∧ 1 + a0 % 16 = ((c + 1 : Nat) : Int) := ⟨(a0 % 16).toNat, by omega, by omega⟩
  obtain ⟨t, ht1, ht4, ht⟩ : ∃ t : Nat, 1 ≤ t ∧ t ≤ 4 ∧ 1 + a1 % 4 = (t : Int) := ⟨(1 + a1 % 4).toNat, by omega, by omega, by omega⟩
  obtain ⟨k4, hQ⟩ := need16 c hc
  obtain ⟨b, hbc⟩ : ∃ b, c + 1 = b := ⟨_, rfl⟩
  rw [hbc] at hb k4 hQ
  have hM16 : needN (b : Int) * t ≤ 4 * 4 := Nat.mul_le_mul k4 ht4
  by_cases hbig : 12 < needN (b : Int) * t
  · exact big_walk a0 a1 b t _ _ (by omega) (by omega) (by omega) (by omega) (by omega) (by omega) hb ht1 ht4 ht rfl k4 (Int.natCast_mul _ _).symm hM16 hbig w hkst
  · exact main_walk a0 a1 b t _ _ (by omega) (by omega) (by omega) (by omega) (by omega) (by omega) hb ht1 ht4 ht rfl k4 hQ rfl (by omega) w hkst


set_option maxRecDepth 100000 in
theorem lifted (os : Os) (started : os.Started) (H : Type) (enc : TypeId × Value → H) :
    ReturnsInHanded {} Tryd.checked os 4 .any (fun w args => (Rows.uniformCountsSpec.pre enc Tryd.prog Tryd.f4 [] false w args ∧ laidMetH Tryd.prog laidK w) ∧ sizedMet enc Tryd.prog Tryd.f4 (OpenSpec.ofChange Rows.uniformCountsSpec) false w args) (Rows.uniformCountsSpec.post enc Tryd.prog Tryd.f4 false true false false) := by
  refine returnsInHanded_of_change_and (C := Tryd.checked) (X := fun w _ => laidMetH Tryd.prog laidK w) (fun _ _ _ hh h => h.of_heap hh) own started (by kernel_rfl) Tryd.func4
    (ChangeSpec.witness_shaped (enc := enc) (C := Tryd.checked) (os := os) (X := fun w _ => laidMetH Tryd.prog laidK w) false (World.doorLaid Tryd.prog 400 os) #[.int .u8 0, .int .u8 0] 8 rfl (World.shaped_of_RefB (by kernel_rfl) (by kernel_rfl)) (by kernel_rfl) (by kernel_rfl) (by kernel_rfl) (door_met os _)) ?_
  intro W base args ds gs before hval0 hW _ _ hL _
  have hval : ∀ (j : Nat) t v, Tryd.f4.params[j]? = some t → args[j]? = some v → Value.okWide Tryd.prog W .any base t v := hval0
  have hW' := hW
  obtain ⟨p, q, hA0, hV, rfl, hfz, hnd⟩ := hW
  have hA : DataW.TrodAll enc Tryd.prog W 0 (fun _ => true) true Tryd.f4.params.toList args.toList ds p := hA0
  rw [Tryd.params4] at hA hval
  obtain ⟨v0, vs0, d0, ds0, p0, q0, hargs, rfl, rfl, h0, r0⟩ := trodAll_cons hA
  obtain ⟨v1, vs1, d1, ds1, p1, q1, rfl, rfl, rfl, h1, r1⟩ := trodAll_cons r0
  obtain ⟨rfl, rfl, rfl⟩ := trodAll_nil r1
  obtain rfl : args = #[v0, v1] := by cases args; simp_all
  obtain ⟨rfl, rfl⟩ := trodVars_none hV
  obtain ⟨a0, rfl, rfl, rfl, w0⟩ := open_int Tryd.underlying5 (hval 0 5 v0 rfl rfl) h0
  obtain ⟨a1, rfl, rfl, rfl, w1⟩ := open_int Tryd.underlying5 (hval 1 5 v1 rfl rfl) h1
  clear hA0 hval0
  refine (walk a0 a1 W w0 w1 (kst_of_laid hL)).mono fun e W' ⟨he, bel⟩ => ?_
  subst he
  exact ⟨_, rfl, _, _, _, [], _, [], hW', trodAll_mk1 (shut_bool Tryd.underlying4 _), (trodAll_cons_mk (shut_int Tryd.underlying5 w0) (trodAll_cons_mk (shut_int Tryd.underlying5 w1) trodAll_mk0)), rfl, bel.frame _, fun h => by cases h⟩

theorem over : Rows.uniformCountsRow.holds Tryd.pinned (OpenSpec.ofChange Rows.uniformCountsSpec) :=
  OpenClaim.holds_of_wide 4 Tryd.f4 rfl rfl rfl rfl rfl rfl rfl ⟨rfl, rfl, rfl, rfl, rfl⟩ rfl rfl rfl rfl rfl (by kernel_rfl) Tryd.func4 (by kernel_rfl)
    (of_decide_eq_true (by kernel_rfl)) (by unfold Func.isWrapper; first | (rw [if_pos (by decide +kernel)]; kernel_rfl) | (rw [if_neg (by decide +kernel)]; exact ⟨rfl, rfl⟩))
    (fun os started H enc _ => lifted os started H enc)

end Go.Proofs.YtmeefnhmkffdlaaDoor.uniformCounts
namespace Go.Proofs.YtmeefnhmkffdlaaDoor
theorem uniformCounts_holds : Rows.UniformCountsCardSaid :=
  Claim7.holds_tied_plain_at .later [] [.data] true _ false
    uniformCounts.over (fun _ h => by cases h) (by kernel_rfl) (fun _ h => by cases h) uniformCounts_row_tie rfl ⟨rfl, rfl⟩ (by kernel_rfl) rfl
    (fun f fn hf hfn => by
      obtain rfl : f = 4 := Option.some.inj ((show Tryd.prog.funcNamed "drawlot/drawlotlaw08.UniformCounts" = some 4 by kernel_rfl).symm.trans hf) |>.symm
      obtain rfl : fn = Tryd.f4 := (Option.some.inj (Tryd.func4.symm.trans hfn)).symm
      exact ⟨by kernel_rfl, fun j t ht => by
        rw [Tryd.params4] at ht
        have hm : t ∈ [5, 5] := by simpa using Array.mem_of_getElem? ht
        have hall : ([5, 5].all fun u => !Tryd.prog.wantsStandIn u) = true := by kernel_rfl
        exact (show Tryd.prog.wantsStandIn t = false by simpa using List.all_eq_true.1 hall t hm)⟩)
    (by kernel_rfl)
#print axioms uniformCounts_holds
end Go.Proofs.YtmeefnhmkffdlaaDoor

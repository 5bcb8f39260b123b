/-
  Texts of this claim, joined (what the claim does not need is left out): OddA, ComC, ComD, ComE, ComA, LawV, ComN, OpenA, OpenC, SrcO.
-/
import Derived.Test.YtgnclifmfefbcaaGreatDoorJGe
import Derived.BigQuiet
import Derived.Test.YtgnclifmfefbcaaGreatDoorRows
import Derived.ShutString
import Derived.ChangeOld
import Derived.Deep.Matrix
set_option maxRecDepth 100000
set_option linter.unusedVariables false
set_option linter.unusedSimpArgs false
set_option linter.unusedSectionVars false
namespace Go.Proofs.YtgnclifmfefbcaaGreatDoor
section
open Go.ChangeShapes Go.WideShapes Go.ChangeAt Go.RowKit
theorem qpow_n {x k : Nat} (hx : (natL x).length ≤ 256) (hk : k ≤ 64) (k1 : 1 ≤ k) (h : (natL (x ^ k)).length ≤ 256) (A : Option Addr) (c : Nat) (hc : (natL x).length ≤ c) (hm : c ≤ maxLen) (W : World) (h1 : Rd .u32 W W.heap.size A (natL x).length (natL x)) : Calls Tryz.prog 88 #[.slice A (natL x).length c, .int .i64 (k : Int)] W (RetNE W (0, natL (x ^ k))) := by
  have h := q10pow_c (natL x) (natL_lim x) A (natL x).length c hc hm (k : Int) (by omega) (by omega) W h1
  rwa [powR_any hx hk k1 (by assumption)] at h
theorem qtwo_n {k : Nat} (hk : k ≤ 8191) (W : World) : Calls Tryz.prog 67 #[.int .i64 (k : Int)] W (RetNE W (0, natL (2 ^ k))) := by
  have h := q10two_c (k : Int) (by omega) (by omega) W
  unfold twoR at h
  rwa [if_pos ⟨by omega, by omega⟩, Int.toNat_natCast] at h
theorem qmul_n {x y : Nat} (hx : (natL x).length ≤ 256) (hy : (natL y).length ≤ 256) (hxy : (natL (x * y)).length ≤ 256) (A B : Option Addr) (c1 c2 : Nat) (Q : Option Addr) (c : Nat) (W : World) (h : RdNs W W.heap.size Q 2 [rowN A (natL x) c1, rowN B (natL y) c2]) : Calls Tryz.prog 68 #[.slice Q 2 c] W (RetNE W (0, natL (x * y))) := by
  have h2 := q10mul_c _ Q 2 c (by omega) W h
  rwa [mulR_two (rightN_natL hx) (rightN_natL hy) (by rw [natL_val]; exact hx) (by rw [natL_val, natL_val]; exact hxy), natL_val, natL_val] at h2
theorem q16bnd_c (n : Int) (n0 : 0 ≤ n) (n1 : n < 18446744073709551616) (w : World) : Calls Tryz.prog 86 #[.int .u64 n] w fun e w' => e = .returned (.bool (decide (1 ≤ n ∧ n < 9223372036854775808))) ∧ w = w' := by
  have hf := fun W => q9fits_c n n0 n1 W
  by_cases h1 : 1 ≤ n
  · by_cases h2 : n < 9223372036854775808
    · rw [decide_eq_true ⟨h1, h2⟩]
      rw [decide_eq_true h2] at hf
      have HF := Lib.hid hf
      clear hf
      go_enter Tryz.func86, Tryz.ntmps86
      go_wp2_with (first
        | (go_at_call 99; (with_reducible refine (HF.out _).mono ?_); rintro e _ ⟨rfl, rfl⟩))
      go_ret
      exact ⟨rfl, rfl⟩
    · rw [decide_eq_false (fun h => h2 h.2)]
      rw [decide_eq_false h2] at hf
      have HF := Lib.hid hf
      clear hf
      go_enter Tryz.func86, Tryz.ntmps86
      go_wp2_with (first
        | (go_at_call 99; (with_reducible refine (HF.out _).mono ?_); rintro e _ ⟨rfl, rfl⟩))
      go_ret
      exact ⟨rfl, rfl⟩
  · rw [decide_eq_false (fun h => h1 h.1)]
    clear hf
    go_enter Tryz.func86, Tryz.ntmps86
    go_wp2
    go_ret
    exact ⟨rfl, rfl⟩
theorem q16lst_c (m : Int) (m0 : -9223372036854775808 ≤ m) (m1 : m < 9223372036854775808) (w : World) : Calls Tryz.prog 87 #[.int .i64 m] w fun e w' => e = .returned (.bool (decide (1 ≤ m ∧ m ≤ 64))) ∧ w = w' := by
  by_cases h1 : 1 ≤ m
  · by_cases h2 : m ≤ 64
    · rw [decide_eq_true ⟨h1, h2⟩]
      go_enter Tryz.func87, Tryz.ntmps87
      go_wp2
      go_ret
      exact ⟨rfl, rfl⟩
    · rw [decide_eq_false (fun h => h2 h.2)]
      go_enter Tryz.func87, Tryz.ntmps87
      go_wp2
      go_ret
      exact ⟨rfl, rfl⟩
  · rw [decide_eq_false (fun h => h1 h.1)]
    go_enter Tryz.func87, Tryz.ntmps87
    go_wp2
    go_ret
    exact ⟨rfl, rfl⟩
theorem q16bits0_c (n m : Int) (n0 : 0 ≤ n) (n1 : n < 18446744073709551616) (m0 : -9223372036854775808 ≤ m) (m1 : m < 9223372036854775808) (w : World) : Calls Tryz.prog 64 #[.int .u64 n, .int .i64 m] w fun e w' => e = .returned (.tuple #[.int .i64 (bitR n m).1, .int .i64 (bitR n m).2]) ∧ w = w' := by
  have hb := fun W => q16bnd_c n n0 n1 W
  have hl := fun W => q16lst_c m m0 m1 W
  by_cases h1 : 1 ≤ n ∧ n < 9223372036854775808
  · rw [decide_eq_true h1] at hb
    have HB := Lib.hid hb
    by_cases h2 : 1 ≤ m ∧ m ≤ 64
    · rw [show bitR n m = ((needN n : Int) * m, 0) from if_pos (mayB_iff.2 ⟨h1.1, h1.2, h2.1, h2.2⟩)]
      rw [decide_eq_true h2] at hl
      have HL := Lib.hid hl
      have hk := (need_in h1.1 h1.2).1
      have hnd := fun W => q8need_c n n0 n1 W
      obtain ⟨M, rfl⟩ := Int.eq_ofNat_of_zero_le (show 0 ≤ m by omega)
      obtain ⟨k, hkk⟩ : ∃ k, needN n = k := ⟨_, rfl⟩
      rw [hkk] at hk hnd ⊢
      have HND := Lib.hid hnd
      have hx := exp_in hk (show M ≤ 64 by omega)
      obtain ⟨p, hp⟩ : ∃ p, k * M = p := ⟨_, rfl⟩
      have hkM : (k : Int) * (M : Int) = (p : Int) := by rw [← hp]; push_cast; rfl
      have e2 : wrap64 (p : Int) = (p : Int) := by simp only [wrap64]; omega
      have E2 := Lib.hid e2
      rw [hkM]
      clear hb hl hnd h1 h2 n0 n1 m0 m1 hkk hk hx hp e2
      go_enter Tryz.func64, Tryz.ntmps64
      go_wp2_with (first
        | (go_at_call 86; (with_reducible refine (HB.out _).mono ?_); rintro e _ ⟨rfl, rfl⟩)
        | (go_at_call 87; (with_reducible refine (HL.out _).mono ?_); rintro e _ ⟨rfl, rfl⟩)
        | (go_at_call 78; (with_reducible refine (HND.out _).mono ?_); rintro e _ ⟨rfl, rfl⟩))
      go_ret2
      exact ⟨by first | rfl | (show Ending.returned (.tuple #[.int .i64 (wrap64 (p : Int)), .int .i64 0]) = _; rw [E2.out]), rfl⟩
    · rw [show bitR n m = (0, 1) from if_neg (by rw [mayB_no (by omega)]; decide)]
      rw [decide_eq_false h2] at hl
      have HL := Lib.hid hl
      clear hb hl h1 h2 n0 n1 m0 m1
      go_enter Tryz.func64, Tryz.ntmps64
      go_wp2_with (first
        | (go_at_call 86; (with_reducible refine (HB.out _).mono ?_); rintro e _ ⟨rfl, rfl⟩)
        | (go_at_call 87; (with_reducible refine (HL.out _).mono ?_); rintro e _ ⟨rfl, rfl⟩))
      go_ret2
      exact ⟨rfl, rfl⟩
  · rw [show bitR n m = (0, 1) from if_neg (by rw [mayB_no (by omega)]; decide)]
    rw [decide_eq_false h1] at hb
    have HB := Lib.hid hb
    clear hb hl h1 n0 n1 m0 m1
    go_enter Tryz.func64, Tryz.ntmps64
    go_wp2_with (first
      | (go_at_call 86; (with_reducible refine (HB.out _).mono ?_); rintro e _ ⟨rfl, rfl⟩))
    go_ret2
    exact ⟨rfl, rfl⟩
theorem q16bits_c (n m : Int) (n0 : 0 ≤ n) (n1 : n < 18446744073709551616) (m0 : -9223372036854775808 ≤ m) (m1 : m < 9223372036854775808) (w : World) : Calls Tryz.prog 64 #[.int .u64 n, .int .i64 m] w fun e w' => e = .returned (.tuple #[.int .i64 (bitR n m).1, .int .i64 (bitR n m).2]) ∧ Below w.heap.size w w' := (q16bits0_c n m n0 n1 m0 m1 w).mono fun _ _ ⟨h1, h2⟩ => ⟨h1, by rw [← h2]; exact Below.refl _ _⟩
theorem q16lost_c (n m : Int) (n0 : 0 ≤ n) (n1 : n < 18446744073709551616) (m0 : -9223372036854775808 ≤ m) (m1 : m < 9223372036854775808) (w : World) : Calls Tryz.prog 65 #[.int .u64 n, .int .i64 m] w (RetNE w (lostR n m)) := by
  have hb := fun W => q16bnd_c n n0 n1 W
  have hl := fun W => q16lst_c m m0 m1 W
  by_cases h1 : 1 ≤ n ∧ n < 9223372036854775808
  · rw [decide_eq_true h1] at hb
    have HB := Lib.hid hb
    by_cases h2 : 1 ≤ m ∧ m ≤ 64
    · have h : mayB n m = true := mayB_iff.2 ⟨h1.1, h1.2, h2.1, h2.2⟩
      rw [show lostR n m = (0, natL (lostV n m)) from if_pos h]
      rw [decide_eq_true h2] at hl
      have HL := Lib.hid hl
      have hll := odd_len h (lostV_le h)
      obtain ⟨hk, hk2⟩ := need_in h1.1 h1.2
      obtain ⟨M, rfl⟩ := Int.eq_ofNat_of_zero_le (show 0 ≤ m by omega)
      unfold lostV at hll ⊢
      rw [Int.toNat_natCast] at hll ⊢
      have hp63 : 2 ^ needN n ≤ 2 ^ 63 := Nat.pow_le_pow_right (by omega) hk
      have hnd := fun W => q8need_c n n0 n1 W
      have hr : oddR n + n.toNat = 2 ^ needN n := by unfold oddR oddP; omega
      have h7 : (natL (oddR n)).length ≤ 256 := small_len (by omega)
      have hpw := fun A c W h1 h2 h3 => qpow_n (x := oddR n) (k := M) h7 (by omega) (by omega) (by omega) A c h1 h2 W h3
      have hof := fun W => q10of_c (oddR n : Int) (by omega) (by omega) W
      rw [Int.toNat_natCast] at hof
      have es : IntKind.u64.wrap ((2 : Int) ^ needN n) = ((2 ^ needN n : Nat) : Int) := by
        have e : ((2 : Int) ^ needN n) = ((2 ^ needN n : Nat) : Int) := by simp
        rw [e, IntKind.wrap_u64]
        omega
      have ed : IntKind.u64.wrap (((2 ^ needN n : Nat) : Int) - n) = (oddR n : Int) := by
        rw [IntKind.wrap_u64]
        omega
      rw [← es] at ed
      obtain ⟨k, hkk⟩ : ∃ k, needN n = k := ⟨_, rfl⟩
      rw [hkk] at hnd hk ed
      obtain ⟨R, hR⟩ : ∃ R : Int, ((oddR n : Nat) : Int) = R := ⟨_, rfl⟩
      rw [hR] at hof ed
      obtain ⟨Z, hZ⟩ : ∃ Z, natL (oddR n ^ M) = Z := ⟨_, rfl⟩
      obtain ⟨Y, hY⟩ : ∃ Z, natL (oddR n) = Z := ⟨_, rfl⟩
      unfold RetNE at hpw ⊢
      unfold RetN at hof
      rw [hZ] at hpw ⊢
      rw [hY] at hpw hof
      dsimp only at hpw ⊢
      have k0 : (0 : Int) ≤ (k : Int) := by omega
      have k1 : (k : Int) < 64 := by omega
      have HND := Lib.hid hnd
      have HOF := Lib.hid hof
      have HPW := Lib.hid hpw
      have G0 := Lib.hid (NFx.start w)
      clear hb hl hnd hof hpw h h1 h2 h7 hkk hk hk2 m0 m1 hZ hY hll hr hp63 es hR n0 n1
      go_enter Tryz.func65, Tryz.ntmps65
      go_wp2_with (first
        | (go_at_call 86; (with_reducible refine (HB.out _).mono ?_); rintro e _ ⟨rfl, rfl⟩)
        | (go_at_call 87; (with_reducible refine (HL.out _).mono ?_); rintro e _ ⟨rfl, rfl⟩)
        | (go_at_call 78; (with_reducible refine (HND.out _).mono ?_); rintro e _ ⟨rfl, rfl⟩)
        | (go_at_call 66; (with_reducible refine (HOF.out _).mono ?_); rintro e w1 ⟨Ay, cy, rfl, hlw1, hmw1, hrw1, hbw1⟩; have Ly := Lib.hid hlw1; have My := Lib.hid hmw1; have G2 := Lib.hid (NFx.add G0.out hbw1 hrw1); clear G0; clear hrw1 hbw1 hlw1 hmw1)
        | (go_at_call 88; (with_reducible refine (HPW.out _ _ _ Ly.out My.out (NFx.r0 G2.out)).mono ?_); rintro e w3 ⟨Az, cz, rfl, hlw3, hmw3, hrw3, hbw3⟩; have Lz := Lib.hid hlw3; have Mz := Lib.hid hmw3; have G4 := Lib.hid (NFx.add G2.out hbw3 hrw3); clear G2; clear hrw3 hbw3 hlw3 hmw3))
      go_ret2
      exact ⟨Az, cz, rfl, Lz.out, Mz.out, (NFx.r0 G4.out), (NFx.bel G4.out)⟩
    · rw [show lostR n m = (1, []) from if_neg (by rw [mayB_no (by omega)]; decide)]
      rw [decide_eq_false h2] at hl
      have HL := Lib.hid hl
      clear hb hl h1 h2 n0 n1 m0 m1
      go_enter Tryz.func65, Tryz.ntmps65
      go_wp2_with (first
        | (go_at_call 86; (with_reducible refine (HB.out _).mono ?_); rintro e _ ⟨rfl, rfl⟩)
        | (go_at_call 87; (with_reducible refine (HL.out _).mono ?_); rintro e _ ⟨rfl, rfl⟩))
      go_ret2
      exact RetNE.nil _ (Below.refl _ _)
  · rw [show lostR n m = (1, []) from if_neg (by rw [mayB_no (by omega)]; decide)]
    rw [decide_eq_false h1] at hb
    have HB := Lib.hid hb
    clear hb hl h1 n0 n1 m0 m1
    go_enter Tryz.func65, Tryz.ntmps65
    go_wp2_with (first
      | (go_at_call 86; (with_reducible refine (HB.out _).mono ?_); rintro e _ ⟨rfl, rfl⟩))
    go_ret2
    exact RetNE.nil _ (Below.refl _ _)
end
section
open Go.ChangeShapes Go.WideShapes Go.ChangeAt Go.RowKit
theorem NumV.toR {w : World} {x m c : Nat} {A : Option Addr} (h : NumV w x (.slice A m c)) : NumR w x A m c := by
  obtain ⟨A', m', c', e, h1⟩ := h
  injection e with e1 e2 e3
  subst e1 e2 e3
  exact h1
theorem len_pow {x q : Nat} (h : x ≤ 2 ^ q) (hq : q ≤ 320) : (natL x).length ≤ 256 := by
  have := natL_leP h
  omega
theorem qtwo_r {k : Nat} (hk : k ≤ 256) (W : World) : Calls Tryz.prog 67 #[.int .i64 (k : Int)] W (RetRE W (2 ^ k)) := (qtwo_n (by omega) W).mono fun _ _ h => RetRE.of h
theorem qmul_r {x y q : Nat} (hx : x ≤ 2 ^ 63) (hy : y ≤ 2 ^ q) (hxy : x * y ≤ 2 ^ q) (hq : q ≤ 256) (A B : Option Addr) (c1 c2 : Nat) (Q : Option Addr) (c : Nat) (W : World) (h : RdNs W W.heap.size Q 2 [rowN A (natL x) c1, rowN B (natL y) c2]) : Calls Tryz.prog 68 #[.slice Q 2 c] W (RetRE W (x * y)) :=
  (qmul_n (len_pow hx (by omega)) (len_pow hy (by omega)) (len_pow hxy (by omega)) A B c1 c2 Q c W h).mono fun _ _ h => RetRE.of h
theorem qadd_r {x y q : Nat} (hx : x ≤ 2 ^ q) (hy : y ≤ 2 ^ q) (hxy : x + y ≤ 2 ^ q) (hq : q ≤ 256) (A B : Option Addr) (c1 c2 : Nat) (Q : Option Addr) (c : Nat) (W : World) (h : RdNs W W.heap.size Q 2 [rowN A (natL x) c1, rowN B (natL y) c2]) : Calls Tryz.prog 69 #[.slice Q 2 c] W (RetRE W (x + y)) := by
  have h2 := q10add_c _ Q 2 c (by omega) W h
  rw [addR_two (rightN_natL (len_pow hx (by omega))) (rightN_natL (len_pow hy (by omega))) (by rw [natL_val, natL_val]; exact len_pow hxy (by omega)), natL_val, natL_val] at h2
  exact h2.mono fun _ _ h => RetRE.of h
theorem zero_nat : ∀ W, (zeroValue 49).run Tryz.prog W = .ok (.slice none 0 0) W := fun W => by go_simp
theorem mapU : Tryz.prog.underlying 83 = some (.map 88 49) := by kernel_rfl
theorem rowS : 88 < Tryz.prog.types.size := of_decide_eq_true (by kernel_rfl)
theorem lawS : WideMaps.KeyLaw Tryz.prog 88 := deep_law_laid (by kernel_rfl) (m := 3) (by omega) rowS (by kernel_rfl) (by kernel_rfl)
theorem keyS : ∀ x y z, I64 x → I64 y → I64 z → ∃ l, keyOf Tryz.prog 88 (key3 x y z) = some l := fun x y z hx hy hz =>
  keyOf_triple Tryz.underlying88 (by kernel_rfl) (by kernel_rfl) (by kernel_rfl) (by kernel_rfl) (by kernel_rfl) rfl rfl rfl (by kernel_rfl) (by kernel_rfl) (by kernel_rfl) (by kernel_rfl) ⟨Tryz.prog.types.size - 1, by have := rowS; omega⟩ hx hy hz
theorem zero_turn : ∀ W, (zeroValue 111).run Tryz.prog W = .ok (.agg #[.int .i64 0, .slice none 0 0, .slice none 0 0]) W := (zero_of_info (n := 3) (by kernel_rfl)).1
theorem size_turn (u v x : Value) : (Tryz.prog.info? 111).map (·.size) = some (#[u, v, x] : Array Value).size := by
  show _ = some 3
  kernel_rfl
theorem turn_ones (k : Int) (A B : Option Addr) (n c m d : Nat) : (#[.int .i64 k, .slice A n c, .slice B m d] : Array Value).all (·.oneCell') = true := by simp [Value.oneCell']
structure TapX (T : List Turn) (m n cT b gc gs i j r : Nat) (A : Option Addr) (w0 w : World) : Prop where
  bc : Blk w gc 85 #[.slice A n cT, .int .i64 (m : Int), .map (some b)]
  bs : Blk w gs 88 #[.int .i64 (i : Int), .int .i64 (j : Int), .int .i64 (r : Int)]
  tap : TapS T m A b w
  onl : Only b w0 w
  lt : b < w0.heap.size
  gc0 : w0.heap.size ≤ gc
  gs0 : w0.heap.size ≤ gs
section
variable {T : List Turn} {m n cT b gc gs gt i j r k st lost : Nat} {A : Option Addr} {vS vL : Value} {cs0 : Array Value} {w0 w w' w1 w2 : World}
theorem TapX.start (h : TapS T m A b w0) (h1 : Blk w1 w0.heap.size 85 #[.slice A n cT, .int .i64 (m : Int), .map (some b)]) (b1 : Below w0.heap.size w0 w1)
    (h2 : Blk w2 w1.heap.size 88 #[.int .i64 (i : Int), .int .i64 (j : Int), .int .i64 (r : Int)]) (b2 : Below w1.heap.size w1 w2) : TapX T m n cT b w0.heap.size w1.heap.size i j r A w0 w2 :=
  ⟨h1.below b2 h1.lt, h2, (h.below b1).below b2, (Only.of_below b1).trans (.of_below b2), h.map.lt, Nat.le_refl _, b1.size⟩
theorem TapX.below (h : TapX T m n cT b gc gs i j r A w0 w) (hb : Below w.heap.size w w') : TapX T m n cT b gc gs i j r A w0 w' :=
  ⟨h.bc.below hb h.bc.lt, h.bs.below hb h.bs.lt, h.tap.below hb, h.onl.trans (.of_below hb), h.lt, h.gc0, h.gs0⟩
theorem TapX.c0 (h : TapX T m n cT b gc gs i j r A w0 w) : w.cell? ⟨gc, 0, none⟩ = some (.slice A n cT) := by rw [h.bc.cell]; rfl
theorem TapX.c1 (h : TapX T m n cT b gc gs i j r A w0 w) : w.cell? ⟨gc, 1, none⟩ = some (.int .i64 (m : Int)) := by rw [h.bc.cell]; rfl
theorem TapX.c2 (h : TapX T m n cT b gc gs i j r A w0 w) : w.cell? ⟨gc, 2, none⟩ = some (.map (some b)) := by rw [h.bc.cell]; rfl
theorem TapX.s0 (h : TapX T m n cT b gc gs i j r A w0 w) : w.cell? ⟨gs, 0, none⟩ = some (.int .i64 (i : Int)) := by rw [h.bs.cell]; rfl
theorem TapX.s1 (h : TapX T m n cT b gc gs i j r A w0 w) : w.cell? ⟨gs, 1, none⟩ = some (.int .i64 (j : Int)) := by rw [h.bs.cell]; rfl
theorem TapX.s2 (h : TapX T m n cT b gc gs i j r A w0 w) : w.cell? ⟨gs, 2, none⟩ = some (.int .i64 (r : Int)) := by rw [h.bs.cell]; rfl
theorem TapX.turn (h : TapX T m n cT b gc gs i j r A w0 w) (hb : Below w.heap.size w w1) (hk1 : Blk w1 w.heap.size 111 cs0) (hk2 : Blk w2 w.heap.size 111 #[.int .i64 (k : Int), vS, vL]) (hs : w2.heap.size = w1.heap.size) (hb2 : ∀ B, B ≤ w.heap.size → Below B w1 w2) (hS : NumV w st vS) (hL : NumV w lost vL) : TapY T m n cT b gc gs w.heap.size i j r k A vS vL st lost w0 w2 := by
  have hbb : Below w.heap.size w w2 := hb.trans (hb2 _ (Nat.le_refl _))
  have h2 := h.below hbb
  exact ⟨h2.bc, h2.bs, hk2, h2.tap, hS.kp (.of_below hbb), hL.kp (.of_below hbb), h2.onl, h2.lt, h2.gc0, h2.gs0, h.onl.size⟩
end
theorem TapS.upd {T : List Turn} {m b : Nat} {A : Option Addr} {w w' : World} (h : TapS T m A b w) (hm : MapG (WayG T m w) w' b) (ho : Only b w w') : TapS T m A b w' :=
  have hk : Kp w w' := .of_only ho h.map
  ⟨h.tur.kp hk, hm.to rfl (fun _ _ _ _ hv => hv.kp hk)⟩
theorem rdNs_nums {w : World} {x y l l' c c' : Nat} {A B : Option Addr} (hx : NumR w x A l c) (hy : NumR w y B l' c') : RdNs (w.alloc (.cells #[.slice A l c, .slice B l' c'] 49)) (w.alloc (.cells #[.slice A l c, .slice B l' c'] 49)).heap.size (some ⟨w.heap.size, 0, none⟩) 2 [rowN A (natL x) c, rowN B (natL y) c'] := by
  obtain ⟨rfl, x1, x2, x3⟩ := hx
  obtain ⟨rfl, y1, y2, y3⟩ := hy
  exact rdNs_two x3 y3 x1 y1 x2 y2 (natL_lim x) (natL_lim y)
theorem WayG.mk {T : List Turn} {m i j r l c : Nat} {A : Option Addr} {w : World} (h : NumR w (tapV m T i j r) A l c) : WayG T m w (i : Int) (j : Int) (r : Int) (.slice A l c) := fun i' j' r' e1 e2 e3 => by
  obtain rfl : i = i' := by omega
  obtain rfl : j = j' := by omega
  obtain rfl : r = r' := by omega
  exact NumV.of h
theorem i64_small {x : Nat} (h : x ≤ 1000) : I64 (x : Int) := ⟨by omega, by omega⟩
set_option maxHeartbeats 8000000 in
theorem q17tapes_c (T : List Turn) (hf : ∀ t ∈ T, t.fits) (m n : Nat) (hm : m ≤ 8) (hn : n ≤ 16) (hT : T.length = n) (cT : Nat) (hcT : n ≤ cT) (hcm : cT ≤ maxLen) (A : Option Addr) (b : Nat) : ∀ (d i j r : Nat), (n - i) * (m + 1) + (m - j) = d → i ≤ n → j ≤ m → r ≤ 256 → ∀ (x y z : Int), x = (i : Int) → y = (j : Int) → z = (r : Int) → ∀ w, TapS T m A b w →
    Calls Tryz.prog 42 #[.agg #[.slice A n cT, .int .i64 (m : Int), .map (some b)], .agg #[.int .i64 x, .int .i64 y, .int .i64 z]] w (RetT T m A b w (tapV m T i j r)) := by
  intro d
  induction d using Nat.strongRecOn with
  | ind d ih =>
  intro i j r hd hi hj hr x y z hx hy hz w hS
  subst hx hy hz
  have HS := Lib.hid hS
  have hcI : (cT : Int) ≤ 9223372036854775807 := by unfold maxLen at hcm; omega
  have hnI : (n : Int) ≤ 16 := by omega
  have hiI : (i : Int) ≤ (n : Int) := by omega
  have i0 : (0 : Int) ≤ (i : Int) := by omega
  clear hcT hcm
  by_cases hin : i = n
  · have hv : tapV m T i j r = 2 ^ r := tapV_end (by omega)
    rw [hv]
    have HTW := Lib.hid (fun W => qtwo_r (k := r) hr W)
    have t1 : ((i : Int) == (n : Int)) = true := by rw [hin]; simp
    clear hv hf hd hi hj hr hin hT ih hS hm hn
    go_enter Tryz.func42, Tryz.ntmps42
    go_wp2_with (first
      | (with_reducible refine at_any ?_; refine at_dst 2 rfl ?_; refine wpList_box_any rfl 85 (.tmp 0) rfl #[.slice A n cT, .int .i64 (m : Int), .map (some b)] rfl ?_; intro w1 hk1 hs1 hb1)
      | (with_reducible refine at_any ?_; refine at_dst 3 rfl ?_; refine wpList_box_any rfl 88 (.tmp 1) rfl #[.int .i64 (i : Int), .int .i64 (j : Int), .int .i64 (r : Int)] rfl ?_; intro w2 hk2 hs2 hb2; have HX := Lib.hid (TapX.start HS.out hk1.out hb1 hk2.out hb2); have c0 := HX.out.c0; have s0 := HX.out.s0; have s2 := HX.out.s2; clear hk1 hs1 hb1 hk2 hs2 hb2)
      | (go_at_call 67; (with_reducible refine (HTW.out _).mono ?_); rintro e w3 ⟨B3, l3, c3, rfl, hn3, hb3⟩; have HN3 := Lib.hid hn3; have HX3 := Lib.hid (HX.out.below hb3); clear hn3 hb3))
    go_ret
    exact ⟨B3, l3, c3, rfl, HN3.out, HX3.out.tap, HX3.out.onl⟩
  have hil : i < n := by omega
  have hilI : (i : Int) < (n : Int) := by omega
  have t1 : ((i : Int) == (n : Int)) = false := by rw [beq_eq_false_iff_ne]; omega
  obtain ⟨t, ht⟩ : ∃ t, T[i]? = some t := ⟨_, List.getElem?_eq_getElem (by omega)⟩
  obtain ⟨k, st, lost⟩ := t
  have hk63 : k ≤ 63 := (hf _ (List.mem_of_getElem? ht)).1
  have hno := tapV_no (m := m) (j := j) (r := r) ht
  have hon := tapV_on (m := m) (j := j) (r := r) ht
  have hhit := tapV_hit (m := m) (j := j) (r := r) hf ht
  have hle := fun i j r => tapV_le (m := m) (i := i) (j := j) (r := r) hf
  obtain ⟨gT, off, v1, v2, rfl, hc0, hc1, hc2, hn1, hn2⟩ := hS.tur i _ ht
  obtain ⟨AS, mS, cS, rfl, hnS⟩ := hn1
  obtain ⟨AL, mL, cL, rfl, hnL⟩ := hn2
  simp only at hc0 hnS hnL hno hon hhit
  have HTQ : Hid (∀ W, Kp w W → W.cell? ⟨gT, off + i * 3, none⟩ = some (.int .i64 (k : Int)) ∧ W.cell? ⟨gT, off + i * 3 + 1, none⟩ = some (.slice AS mS cS) ∧ W.cell? ⟨gT, off + i * 3 + 2, none⟩ = some (.slice AL mL cL)) := Lib.hid fun W h => ⟨h.cell _ _ _ hc0, h.cell _ _ _ hc1, h.cell _ _ _ hc2⟩
  have HNS : Hid (∀ W, Below w.heap.size w W → NumV W st (.slice AS mS cS)) := Lib.hid fun W h => NumV.of (hnS.below h)
  have HNL : Hid (∀ W, Below w.heap.size w W → NumV W lost (.slice AL mL cL)) := Lib.hid fun W h => NumV.of (hnL.below h)
  have hlook := MapG.look lawS mapU keyS zero_nat hS.map (i64_small (x := i) (by omega)) (i64_small (x := j) (by omega)) (i64_small (x := r) (by omega))
  have hlt := hS.map.lt
  have hjI : (j : Int) ≤ (m : Int) := by omega
  have j0 : (0 : Int) ≤ (j : Int) := by omega
  have hmI : (m : Int) ≤ 8 := by omega
  have rI : (r : Int) ≤ 256 := by omega
  have r0 : (0 : Int) ≤ (r : Int) := by omega
  have kI : (k : Int) ≤ 63 := by omega
  have k0 : (0 : Int) ≤ (k : Int) := by omega
  clear hc0 hc1 hc2 hnS hnL hS ht
  by_cases hjm : j = m
  · have hv := hno (.inl (by omega))
    rw [hv]
    have t2 : ((j : Int) == (m : Int)) = true := by rw [hjm]; simp
    clear hv hf hd hi hj hr hin hT ih hm hn hno hon hhit hle hlook hk63 hil hlt hjm
    go_enter Tryz.func42, Tryz.ntmps42
    go_wp2_with (first
      | (with_reducible refine at_any ?_; refine at_dst 2 rfl ?_; refine wpList_box_any rfl 85 (.tmp 0) rfl #[.slice (some ⟨gT, off, none⟩) n cT, .int .i64 (m : Int), .map (some b)] rfl ?_; intro w1 hk1 hs1 hb1)
      | (with_reducible refine at_any ?_; refine at_dst 3 rfl ?_; refine wpList_box_any rfl 88 (.tmp 1) rfl #[.int .i64 (i : Int), .int .i64 (j : Int), .int .i64 (r : Int)] rfl ?_; intro w2 hk2 hs2 hb2; have HX := Lib.hid (TapX.start HS.out hk1.out hb1 hk2.out hb2); have HB2 := Lib.hid (hb1.trans (hb2.mono (Below.size hb1))); have c0 := HX.out.c0; have s0 := HX.out.s0; obtain ⟨q0, q1, q2⟩ := HTQ.out _ (Kp.trans (.of_below hb1) (.of_below hb2)); clear hk1 hs1 hb1 hk2 hs2 hb2)
      | (with_reducible refine at_any ?_; refine at_dst 7 rfl ?_; refine wpList_alloc_any rfl 111 rfl #[.int .i64 0, .slice none 0 0, .slice none 0 0] zero_turn ?_; intro w3 hk3 hs3 hb3)
      | (with_reducible refine at_any ?_; refine at_store 7 rfl ?_; refine wpList_store_any rfl 111 (.tmp 7) (.tmp 35) rfl w2.heap.size rfl 111 #[.int .i64 0, .slice none 0 0, .slice none 0 0] #[.int .i64 (k : Int), .slice AS mS cS, .slice AL mL cL] hk3.out rfl rfl (size_turn _ _ _) (turn_ones _ _ _ _ _ _ _) ?_; intro w4 hk4 hs4 hb4 ho4; have HY := Lib.hid (TapX.turn HX.out hb3 hk3.out hk4.out hs4.out hb4 (HNS.out _ HB2.out) (HNL.out _ HB2.out)); have HB4 := Lib.hid (HB2.out.trans ((hb3.trans (hb4 _ (Nat.le_refl _))).mono (Below.size HB2.out))); have c2 := HY.out.c2; have c1 := HY.out.c1; have s1 := HY.out.s1; have s2 := HY.out.s2; clear c0 s0; have s0 := HY.out.s0; have t0 := HY.out.t0; clear hk3 hs3 hb3 hk4 hs4 hb4 ho4 q0 q1 q2))
    go_ret
    exact ⟨none, 0, 0, rfl, NumR.zero _, HY.out.tap, HY.out.onl⟩
  have t2 : ((j : Int) == (m : Int)) = false := by rw [beq_eq_false_iff_ne]; omega
  by_cases hrk : r < k
  · have hv := hno (.inr hrk)
    rw [hv]
    have t3 : (r : Int) < (k : Int) := by omega
    clear hv hf hd hi hj hr hin hT ih hm hn hno hon hhit hle hlook hk63 hil hlt hjm hrk
    go_enter Tryz.func42, Tryz.ntmps42
    go_wp2_with (first
      | (with_reducible refine at_any ?_; refine at_dst 2 rfl ?_; refine wpList_box_any rfl 85 (.tmp 0) rfl #[.slice (some ⟨gT, off, none⟩) n cT, .int .i64 (m : Int), .map (some b)] rfl ?_; intro w1 hk1 hs1 hb1)
      | (with_reducible refine at_any ?_; refine at_dst 3 rfl ?_; refine wpList_box_any rfl 88 (.tmp 1) rfl #[.int .i64 (i : Int), .int .i64 (j : Int), .int .i64 (r : Int)] rfl ?_; intro w2 hk2 hs2 hb2; have HX := Lib.hid (TapX.start HS.out hk1.out hb1 hk2.out hb2); have HB2 := Lib.hid (hb1.trans (hb2.mono (Below.size hb1))); have c0 := HX.out.c0; have s0 := HX.out.s0; obtain ⟨q0, q1, q2⟩ := HTQ.out _ (Kp.trans (.of_below hb1) (.of_below hb2)); clear hk1 hs1 hb1 hk2 hs2 hb2)
      | (with_reducible refine at_any ?_; refine at_dst 7 rfl ?_; refine wpList_alloc_any rfl 111 rfl #[.int .i64 0, .slice none 0 0, .slice none 0 0] zero_turn ?_; intro w3 hk3 hs3 hb3)
      | (with_reducible refine at_any ?_; refine at_store 7 rfl ?_; refine wpList_store_any rfl 111 (.tmp 7) (.tmp 35) rfl w2.heap.size rfl 111 #[.int .i64 0, .slice none 0 0, .slice none 0 0] #[.int .i64 (k : Int), .slice AS mS cS, .slice AL mL cL] hk3.out rfl rfl (size_turn _ _ _) (turn_ones _ _ _ _ _ _ _) ?_; intro w4 hk4 hs4 hb4 ho4; have HY := Lib.hid (TapX.turn HX.out hb3 hk3.out hk4.out hs4.out hb4 (HNS.out _ HB2.out) (HNL.out _ HB2.out)); have HB4 := Lib.hid (HB2.out.trans ((hb3.trans (hb4 _ (Nat.le_refl _))).mono (Below.size HB2.out))); have c2 := HY.out.c2; have c1 := HY.out.c1; have s1 := HY.out.s1; have s2 := HY.out.s2; clear c0 s0; have s0 := HY.out.s0; have t0 := HY.out.t0; clear hk3 hs3 hb3 hk4 hs4 hb4 ho4 q0 q1 q2))
    go_ret
    exact ⟨none, 0, 0, rfl, NumR.zero _, HY.out.tap, HY.out.onl⟩
  have t3 : ¬ (r : Int) < (k : Int) := by omega
  have t3' : (k : Int) ≤ (r : Int) := by omega
  rcases hlook with hlook | hlook
  case inr =>
    have HLK : Hid (∀ W, Below w.heap.size w W → ∃ B l c, NumR W (tapV m T i j r) B l c ∧ (Instr.lookup 83 (.map (some b)) (.agg #[.int .i64 (i : Int), .int .i64 (j : Int), .int .i64 (r : Int)]) true).run Tryz.prog W = .ok (.tuple #[.slice B l c, .bool true]) W) := Lib.hid fun W h => by
      obtain ⟨v, hG, hrun⟩ := hlook W (h.block b hlt)
      obtain ⟨B, l, c, rfl, hnn⟩ := hG i j r rfl rfl rfl
      exact ⟨B, l, c, hnn.below h, hrun⟩
    clear hf hd hi hj hr hin hT ih hm hn hno hon hhit hle hlook hk63 hil hlt hjm hrk
    go_enter Tryz.func42, Tryz.ntmps42
    go_wp2_with (first
      | (with_reducible refine at_any ?_; refine at_dst 2 rfl ?_; refine wpList_box_any rfl 85 (.tmp 0) rfl #[.slice (some ⟨gT, off, none⟩) n cT, .int .i64 (m : Int), .map (some b)] rfl ?_; intro w1 hk1 hs1 hb1)
      | (with_reducible refine at_any ?_; refine at_dst 3 rfl ?_; refine wpList_box_any rfl 88 (.tmp 1) rfl #[.int .i64 (i : Int), .int .i64 (j : Int), .int .i64 (r : Int)] rfl ?_; intro w2 hk2 hs2 hb2; have HX := Lib.hid (TapX.start HS.out hk1.out hb1 hk2.out hb2); have HB2 := Lib.hid (hb1.trans (hb2.mono (Below.size hb1))); have c0 := HX.out.c0; have s0 := HX.out.s0; obtain ⟨q0, q1, q2⟩ := HTQ.out _ (Kp.trans (.of_below hb1) (.of_below hb2)); clear hk1 hs1 hb1 hk2 hs2 hb2)
      | (with_reducible refine at_any ?_; refine at_dst 7 rfl ?_; refine wpList_alloc_any rfl 111 rfl #[.int .i64 0, .slice none 0 0, .slice none 0 0] zero_turn ?_; intro w3 hk3 hs3 hb3)
      | (with_reducible refine at_any ?_; refine at_store 7 rfl ?_; refine wpList_store_any rfl 111 (.tmp 7) (.tmp 35) rfl w2.heap.size rfl 111 #[.int .i64 0, .slice none 0 0, .slice none 0 0] #[.int .i64 (k : Int), .slice AS mS cS, .slice AL mL cL] hk3.out rfl rfl (size_turn _ _ _) (turn_ones _ _ _ _ _ _ _) ?_; intro w4 hk4 hs4 hb4 ho4; have HY := Lib.hid (TapX.turn HX.out hb3 hk3.out hk4.out hs4.out hb4 (HNS.out _ HB2.out) (HNL.out _ HB2.out)); have HB4 := Lib.hid (HB2.out.trans ((hb3.trans (hb4 _ (Nat.le_refl _))).mono (Below.size HB2.out))); have c2 := HY.out.c2; have c1 := HY.out.c1; have s1 := HY.out.s1; have s2 := HY.out.s2; clear c0 s0; have s0 := HY.out.s0; have t0 := HY.out.t0; clear hk3 hs3 hb3 hk4 hs4 hb4 ho4 q0 q1 q2)
      | (with_reducible refine at_any ?_; refine at_dst 52 rfl ?_; obtain ⟨B5, l5, c5, hn5, hr5⟩ := HLK.out _ HB4.out; refine wpList_look3 rfl (.tmp 50) (.tmp 51) rfl b (.agg #[.int .i64 (i : Int), .int .i64 (j : Int), .int .i64 (r : Int)]) (.tuple #[.slice B5 l5 c5, .bool true]) rfl rfl hr5 ?_; have HN5 := Lib.hid hn5; clear hn5 hr5))
    go_ret
    exact ⟨B5, l5, c5, rfl, HN5.out, HY.out.tap, HY.out.onl⟩
  have q2 : m - j = (m - (j + 1)) + 1 := by omega
  have q1 : n - i = (n - (i + 1)) + 1 := by omega
  have hit := fun W h => ih _ (by rw [← hd, q1, Nat.add_mul, Nat.one_mul]; omega) (i + 1) 0 (r - k) rfl (by omega) (Nat.zero_le _) (by omega) ((i : Int) + 1) 0 ((r : Int) - (k : Int)) (by omega) rfl (by omega) W h
  have hmi := fun W h => ih _ (by rw [← hd]; omega) i (j + 1) (r - k) rfl hi (by omega) (by omega) (i : Int) ((j : Int) + 1) ((r : Int) - (k : Int)) rfl (by omega) (by omega) W h
  have hv := hon (by omega) (by omega)
  obtain ⟨b1, b2, b3, b4⟩ := hhit (by omega)
  have b5 : tapV m T (i + 1) 0 (r - k) ≤ 2 ^ r := Nat.le_trans (hle _ _ _) (Nat.pow_le_pow_right (by omega) (by omega))
  have b6 : tapV m T i (j + 1) (r - k) ≤ 2 ^ r := Nat.le_trans (hle _ _ _) (Nat.pow_le_pow_right (by omega) (by omega))
  have b7 : st * tapV m T (i + 1) 0 (r - k) + lost * tapV m T i (j + 1) (r - k) ≤ 2 ^ r := by rw [← hv]; exact hle _ _ _
  have hmh := fun A B c1 c2 Q c W h => qmul_r (x := st) (y := tapV m T (i + 1) 0 (r - k)) (q := r) (by omega) b5 b1 hr A B c1 c2 Q c W h
  have hmm := fun A B c1 c2 Q c W h => qmul_r (x := lost) (y := tapV m T i (j + 1) (r - k)) (q := r) b4 b6 b2 hr A B c1 c2 Q c W h
  have had := fun A B c1 c2 Q c W h => qadd_r (x := st * tapV m T (i + 1) 0 (r - k)) (y := lost * tapV m T i (j + 1) (r - k)) (q := r) b1 b2 b7 hr A B c1 c2 Q c W h
  rw [← hv] at had
  have HIT := Lib.hid hit
  have HMI := Lib.hid hmi
  have HMH := Lib.hid hmh
  have HMM := Lib.hid hmm
  have HAD := Lib.hid had
  have HNO : Hid (∀ W, Below w.heap.size w W → (Instr.lookup 83 (.map (some b)) (.agg #[.int .i64 (i : Int), .int .i64 (j : Int), .int .i64 (r : Int)]) true).run Tryz.prog W = .ok (.tuple #[.slice none 0 0, .bool false]) W) := Lib.hid fun W h => hlook W (h.block b hlt)
  have E1 : Hid (IntKind.i64.wrap ((i : Int) + 1) = (i : Int) + 1) := Lib.hid (by rw [IntKind.wrap_i64]; omega)
  have E2 : Hid (IntKind.i64.wrap ((j : Int) + 1) = (j : Int) + 1) := Lib.hid (by rw [IntKind.wrap_i64]; omega)
  have HI := Lib.hid (i64_small (x := i) (by omega))
  have HJ := Lib.hid (i64_small (x := j) (by omega))
  have HR := Lib.hid (i64_small (x := r) (by omega))
  have E3 : IntKind.i64.wrap ((r : Int) - (k : Int)) = (r : Int) - (k : Int) := by rw [IntKind.wrap_i64]; omega
  clear hit hmi hmh hmm had hv b1 b2 b3 b4 b5 b6 b7 q1 q2
  clear hf hd hi hj hr hin hT ih hm hn hno hon hhit hle hlook hk63 hil hlt hjm hrk
  go_enter Tryz.func42, Tryz.ntmps42
  go_wp2_with (first
    | (with_reducible refine at_any ?_; refine at_dst 2 rfl ?_; refine wpList_box_any rfl 85 (.tmp 0) rfl #[.slice (some ⟨gT, off, none⟩) n cT, .int .i64 (m : Int), .map (some b)] rfl ?_; intro w1 hk1 hs1 hb1)
    | (with_reducible refine at_any ?_; refine at_dst 3 rfl ?_; refine wpList_box_any rfl 88 (.tmp 1) rfl #[.int .i64 (i : Int), .int .i64 (j : Int), .int .i64 (r : Int)] rfl ?_; intro w2 hk2 hs2 hb2; have HX := Lib.hid (TapX.start HS.out hk1.out hb1 hk2.out hb2); have HB2 := Lib.hid (hb1.trans (hb2.mono (Below.size hb1))); have c0 := HX.out.c0; have s0 := HX.out.s0; obtain ⟨q0, q1, q2⟩ := HTQ.out _ (Kp.trans (.of_below hb1) (.of_below hb2)); clear hk1 hs1 hb1 hk2 hs2 hb2)
    | (with_reducible refine at_any ?_; refine at_dst 7 rfl ?_; refine wpList_alloc_any rfl 111 rfl #[.int .i64 0, .slice none 0 0, .slice none 0 0] zero_turn ?_; intro w3 hk3 hs3 hb3)
    | (with_reducible refine at_any ?_; refine at_store 7 rfl ?_; refine wpList_store_any rfl 111 (.tmp 7) (.tmp 35) rfl w2.heap.size rfl 111 #[.int .i64 0, .slice none 0 0, .slice none 0 0] #[.int .i64 (k : Int), .slice AS mS cS, .slice AL mL cL] hk3.out rfl rfl (size_turn _ _ _) (turn_ones _ _ _ _ _ _ _) ?_; intro w4 hk4 hs4 hb4 ho4; have HY := Lib.hid (TapX.turn HX.out hb3 hk3.out hk4.out hs4.out hb4 (HNS.out _ HB2.out) (HNL.out _ HB2.out)); have HB4 := Lib.hid (HB2.out.trans ((hb3.trans (hb4 _ (Nat.le_refl _))).mono (Below.size HB2.out))); have c2 := HY.out.c2; have c1 := HY.out.c1; have s1 := HY.out.s1; have s2 := HY.out.s2; clear c0 s0; have s0 := HY.out.s0; have t0 := HY.out.t0; clear hk3 hs3 hb3 hk4 hs4 hb4 ho4 q0 q1 q2)
      | (with_reducible refine at_any ?_; refine at_dst 52 rfl ?_; refine wpList_look3 rfl (.tmp 50) (.tmp 51) rfl b (.agg #[.int .i64 (i : Int), .int .i64 (j : Int), .int .i64 (r : Int)]) (.tuple #[.slice none 0 0, .bool false]) rfl rfl (HNO.out _ HB4.out) ?_))
  obtain ⟨gc, hgc⟩ : ∃ g, w.heap.size = g := ⟨_, rfl⟩
  obtain ⟨gs, hgs⟩ : ∃ g, w1.heap.size = g := ⟨_, rfl⟩
  obtain ⟨gt, hgt⟩ : ∃ g, w2.heap.size = g := ⟨_, rfl⟩
  have HY9 := HY.out
  rw [hgc, hgs, hgt] at HY9
  rw [hgc, hgs, hgt]
  clear hgc hgs hgt HY HX HB4 HB2 HNO HTQ HNS HNL c1 c2 s0 s1 s2 t0 t1 t2 t3 t3' 
  refine wp_region_held_drew (S := (TapY T m n cT b gc gs gt i j r k (some ⟨gT, off, none⟩) (.slice AS mS cS) (.slice AL mL cL) st lost w)) (by kernel_rfl) HY9.drew (fun hH => ?_)
  refine wpAnyH_letter #[false, false, false, false, false, false, false, false, false, false, false, false, false, false, false, false] (by kernel_rfl) (fun _ _ d _ _ h => by cases d <;> exact h) (fun QL HQ1 HQ2 => ?_)
  refine held_v 0 (some 63) rfl (by kernel_rfl) (by kernel_rfl) (by kernel_rfl) (by kernel_rfl) (fun c a v w h => HQ2.out c a _ v w h) (by kernel_rfl) (.pointer (some ⟨gt, 1, none⟩)) (fun W h => by kernel_rfl) hH ?_
  try simp only [Act.put, List.setIfInBounds_toArray, List.set_cons_zero, List.set_cons_succ]
  refine held_v 1 (some 64) rfl (by kernel_rfl) (by kernel_rfl) (by kernel_rfl) (by kernel_rfl) (fun c a v w h => HQ2.out c a _ v w h) (by kernel_rfl) (.slice AS mS cS) (fun W h => by have p := h.t1; go_simp) hH ?_
  try simp only [Act.put, List.setIfInBounds_toArray, List.set_cons_zero, List.set_cons_succ]
  refine held_v 2 (some 65) rfl (by kernel_rfl) (by kernel_rfl) (by kernel_rfl) (by kernel_rfl) (fun c a v w h => HQ2.out c a _ v w h) (by kernel_rfl) (.agg #[.slice (some ⟨gT, off, none⟩) n cT, .int .i64 (m : Int), .map (some b)]) (fun W h => by have p0 := h.c0; have p1 := h.c1; have p2 := h.c2; go_simp) hH ?_
  try simp only [Act.put, List.setIfInBounds_toArray, List.set_cons_zero, List.set_cons_succ]
  refine held_v 3 (some 66) rfl (by kernel_rfl) (by kernel_rfl) (by kernel_rfl) (by kernel_rfl) (fun c a v w h => HQ2.out c a _ v w h) (by kernel_rfl) (.pointer (some ⟨gs, 0, none⟩)) (fun W h => by kernel_rfl) hH ?_
  try simp only [Act.put, List.setIfInBounds_toArray, List.set_cons_zero, List.set_cons_succ]
  refine held_v 4 (some 67) rfl (by kernel_rfl) (by kernel_rfl) (by kernel_rfl) (by kernel_rfl) (fun c a v w h => HQ2.out c a _ v w h) (by kernel_rfl) (.int .i64 (i : Int)) (fun W h => by have p := h.s0; go_simp) hH ?_
  try simp only [Act.put, List.setIfInBounds_toArray, List.set_cons_zero, List.set_cons_succ]
  refine held_v 5 (some 68) rfl (by kernel_rfl) (by kernel_rfl) (by kernel_rfl) (by kernel_rfl) (fun c a v w h => HQ2.out c a _ v w h) (by kernel_rfl) (.int .i64 ((i : Int) + 1)) (fun W h => by have p := E1.out; go_simp) hH ?_
  try simp only [Act.put, List.setIfInBounds_toArray, List.set_cons_zero, List.set_cons_succ]
  refine held_v 6 (some 69) rfl (by kernel_rfl) (by kernel_rfl) (by kernel_rfl) (by kernel_rfl) (fun c a v w h => HQ2.out c a _ v w h) (by kernel_rfl) (.int .i64 ((r : Int) - (k : Int))) (fun W h => by kernel_rfl) hH ?_
  try simp only [Act.put, List.setIfInBounds_toArray, List.set_cons_zero, List.set_cons_succ]
  refine held_v 7 (some 70) rfl (by kernel_rfl) (by kernel_rfl) (by kernel_rfl) (by kernel_rfl) (fun c a v w h => HQ2.out c a _ v w h) (by kernel_rfl) (.agg #[.int .i64 ((i : Int) + 1), .int .i64 0, .int .i64 ((r : Int) - (k : Int))]) (fun W h => by go_simp) hH ?_
  try simp only [Act.put, List.setIfInBounds_toArray, List.set_cons_zero, List.set_cons_succ]
  refine wpAnyH_ready (rs := [8]) (by kernel_rfl) (by decide) ?_
  refine AllReadyH.cons rfl (fun K hK => ?_) AllReadyH.nil
  refine step_call (some 71) (by kernel_rfl) (by kernel_rfl) _ _ (by kernel_rfl) _ (HIT.out _ hH.tap) ?_
  rintro e w101 ⟨Bw101, lw101, cw101, rfl, hnw101, htw101, how101⟩
  refine ⟨_, rfl, ?_⟩
  refine hK.out _ _ (hH.call htw101 how101) (fun hw101 => ?_)
  clear hK K
  try simp only [Act.put, List.setIfInBounds_toArray, List.set_cons_zero, List.set_cons_succ]
  refine wpAnyH_ready (rs := [9]) (by kernel_rfl) (by decide) ?_
  refine AllReadyH.cons rfl (fun K hK => ?_) AllReadyH.nil
  refine step_build_nn (some 72) (by kernel_rfl) (by kernel_rfl) (.tmp 64) (.tmp 71) (by kernel_rfl) AS Bw101 mS cS lw101 cw101 (by kernel_rfl) (by kernel_rfl) _ _ hw101.nS.toR hnw101 ?_
  intro gw102 w102 hrw102 hbw102
  refine hK.out _ _ (hw101.below hbw102) (fun hw102 => ?_)
  clear hK K
  try simp only [Act.put, List.setIfInBounds_toArray, List.set_cons_zero, List.set_cons_succ]
  refine wpAnyH_ready (rs := [10]) (by kernel_rfl) (by decide) ?_
  refine AllReadyH.cons rfl (fun K hK => ?_) AllReadyH.nil
  refine step_call (some 73) (by kernel_rfl) (by kernel_rfl) _ _ (by kernel_rfl) _ (HMH.out _ _ _ _ _ 2 _ hrw102) ?_
  rintro e w103 ⟨Bw103, lw103, cw103, rfl, hnw103, hbw103⟩
  refine ⟨_, rfl, ?_⟩
  refine hK.out _ _ (hw102.below hbw103) (fun hw103 => ?_)
  clear hK K
  try simp only [Act.put, List.setIfInBounds_toArray, List.set_cons_zero, List.set_cons_succ]
  refine held_v 11 (some 62) rfl (by kernel_rfl) (by kernel_rfl) (by kernel_rfl) (by kernel_rfl) (fun c a v w h => HQ2.out c a _ v w h) (by kernel_rfl) (.tuple #[.slice Bw103 lw103 cw103, .int .i64 0]) (fun W h => by kernel_rfl) hw103 ?_
  try simp only [Act.put, List.setIfInBounds_toArray, List.set_cons_zero, List.set_cons_succ]
  refine held_v 12 (some 74) rfl (by kernel_rfl) (by kernel_rfl) (by kernel_rfl) (by kernel_rfl) (fun c a v w h => HQ2.out c a _ v w h) (by kernel_rfl) (.slice Bw103 lw103 cw103) (fun W h => by kernel_rfl) hw103 ?_
  try simp only [Act.put, List.setIfInBounds_toArray, List.set_cons_zero, List.set_cons_succ]
  refine held_v 13 (some 75) rfl (by kernel_rfl) (by kernel_rfl) (by kernel_rfl) (by kernel_rfl) (fun c a v w h => HQ2.out c a _ v w h) (by kernel_rfl) (.int .i64 0) (fun W h => by kernel_rfl) hw103 ?_
  try simp only [Act.put, List.setIfInBounds_toArray, List.set_cons_zero, List.set_cons_succ]
  refine held_v 14 (some 11) rfl (by kernel_rfl) (by kernel_rfl) (by kernel_rfl) (by kernel_rfl) (fun c a v w h => HQ2.out c a _ v w h) (by kernel_rfl) (.slice Bw103 lw103 cw103) (fun W h => by kernel_rfl) hw103 ?_
  try simp only [Act.put, List.setIfInBounds_toArray, List.set_cons_zero, List.set_cons_succ]
  refine held_v 15 (some 12) rfl (by kernel_rfl) (by kernel_rfl) (by kernel_rfl) (by kernel_rfl) (fun c a v w h => HQ2.out c a _ v w h) (by kernel_rfl) (.int .i64 0) (fun W h => by kernel_rfl) hw103 ?_
  try simp only [Act.put, List.setIfInBounds_toArray, List.set_cons_zero, List.set_cons_succ]
  refine wpAnyH_done (by kernel_rfl) ?_ _
  refine HQ1.out _ _ ?_
  clear HQ1 HQ2
  go_upto_region 12 with fail
  have hn11 := NumR.drew hnw103
  refine wp_region_held_drew (S := (TapY T m n cT b gc gs gt i j r k (some ⟨gT, off, none⟩) (.slice AS mS cS) (.slice AL mL cL) st lost w)) (by kernel_rfl) hw103.drew (fun hH => ?_)
  refine wpAnyH_letter #[false, false, false, false, false, false, false, false, false, false, false, false, false, false, false, false, false, false] (by kernel_rfl) (fun _ _ d _ _ h => by cases d <;> exact h) (fun QL HQ1 HQ2 => ?_)
  refine held_v 0 (some 77) rfl (by kernel_rfl) (by kernel_rfl) (by kernel_rfl) (by kernel_rfl) (fun c a v w h => HQ2.out c a _ v w h) (by kernel_rfl) (.pointer (some ⟨gt, 2, none⟩)) (fun W h => by kernel_rfl) hH ?_
  try simp only [Act.put, List.setIfInBounds_toArray, List.set_cons_zero, List.set_cons_succ]
  refine held_v 1 (some 78) rfl (by kernel_rfl) (by kernel_rfl) (by kernel_rfl) (by kernel_rfl) (fun c a v w h => HQ2.out c a _ v w h) (by kernel_rfl) (.slice AL mL cL) (fun W h => by have p := h.t2; go_simp) hH ?_
  try simp only [Act.put, List.setIfInBounds_toArray, List.set_cons_zero, List.set_cons_succ]
  refine held_v 2 (some 79) rfl (by kernel_rfl) (by kernel_rfl) (by kernel_rfl) (by kernel_rfl) (fun c a v w h => HQ2.out c a _ v w h) (by kernel_rfl) (.agg #[.slice (some ⟨gT, off, none⟩) n cT, .int .i64 (m : Int), .map (some b)]) (fun W h => by have p0 := h.c0; have p1 := h.c1; have p2 := h.c2; go_simp) hH ?_
  try simp only [Act.put, List.setIfInBounds_toArray, List.set_cons_zero, List.set_cons_succ]
  refine held_v 3 (some 80) rfl (by kernel_rfl) (by kernel_rfl) (by kernel_rfl) (by kernel_rfl) (fun c a v w h => HQ2.out c a _ v w h) (by kernel_rfl) (.pointer (some ⟨gs, 0, none⟩)) (fun W h => by kernel_rfl) hH ?_
  try simp only [Act.put, List.setIfInBounds_toArray, List.set_cons_zero, List.set_cons_succ]
  refine held_v 4 (some 81) rfl (by kernel_rfl) (by kernel_rfl) (by kernel_rfl) (by kernel_rfl) (fun c a v w h => HQ2.out c a _ v w h) (by kernel_rfl) (.int .i64 (i : Int)) (fun W h => by have p := h.s0; go_simp) hH ?_
  try simp only [Act.put, List.setIfInBounds_toArray, List.set_cons_zero, List.set_cons_succ]
  refine held_v 5 (some 82) rfl (by kernel_rfl) (by kernel_rfl) (by kernel_rfl) (by kernel_rfl) (fun c a v w h => HQ2.out c a _ v w h) (by kernel_rfl) (.pointer (some ⟨gs, 1, none⟩)) (fun W h => by kernel_rfl) hH ?_
  try simp only [Act.put, List.setIfInBounds_toArray, List.set_cons_zero, List.set_cons_succ]
  refine held_v 6 (some 83) rfl (by kernel_rfl) (by kernel_rfl) (by kernel_rfl) (by kernel_rfl) (fun c a v w h => HQ2.out c a _ v w h) (by kernel_rfl) (.int .i64 (j : Int)) (fun W h => by have p := h.s1; go_simp) hH ?_
  try simp only [Act.put, List.setIfInBounds_toArray, List.set_cons_zero, List.set_cons_succ]
  refine held_v 7 (some 84) rfl (by kernel_rfl) (by kernel_rfl) (by kernel_rfl) (by kernel_rfl) (fun c a v w h => HQ2.out c a _ v w h) (by kernel_rfl) (.int .i64 ((j : Int) + 1)) (fun W h => by have p := E2.out; go_simp) hH ?_
  try simp only [Act.put, List.setIfInBounds_toArray, List.set_cons_zero, List.set_cons_succ]
  refine held_v 8 (some 85) rfl (by kernel_rfl) (by kernel_rfl) (by kernel_rfl) (by kernel_rfl) (fun c a v w h => HQ2.out c a _ v w h) (by kernel_rfl) (.int .i64 ((r : Int) - (k : Int))) (fun W h => by kernel_rfl) hH ?_
  try simp only [Act.put, List.setIfInBounds_toArray, List.set_cons_zero, List.set_cons_succ]
  refine held_v 9 (some 86) rfl (by kernel_rfl) (by kernel_rfl) (by kernel_rfl) (by kernel_rfl) (fun c a v w h => HQ2.out c a _ v w h) (by kernel_rfl) (.agg #[.int .i64 (i : Int), .int .i64 ((j : Int) + 1), .int .i64 ((r : Int) - (k : Int))]) (fun W h => by go_simp) hH ?_
  try simp only [Act.put, List.setIfInBounds_toArray, List.set_cons_zero, List.set_cons_succ]
  refine wpAnyH_ready (rs := [10]) (by kernel_rfl) (by decide) ?_
  refine AllReadyH.cons rfl (fun K hK => ?_) AllReadyH.nil
  refine step_call (some 87) (by kernel_rfl) (by kernel_rfl) _ _ (by kernel_rfl) _ (HMI.out _ hH.tap) ?_
  rintro e w201 ⟨Bw201, lw201, cw201, rfl, hnw201, htw201, how201⟩
  refine ⟨_, rfl, ?_⟩
  have kpw201 := hn11.kp (.of_only how201 hH.tap.map)
  refine hK.out _ _ (hH.call htw201 how201) (fun hw201 => ?_)
  clear hK K
  try simp only [Act.put, List.setIfInBounds_toArray, List.set_cons_zero, List.set_cons_succ]
  refine wpAnyH_ready (rs := [11]) (by kernel_rfl) (by decide) ?_
  refine AllReadyH.cons rfl (fun K hK => ?_) AllReadyH.nil
  refine step_build_nn (some 88) (by kernel_rfl) (by kernel_rfl) (.tmp 78) (.tmp 87) (by kernel_rfl) AL Bw201 mL cL lw201 cw201 (by kernel_rfl) (by kernel_rfl) _ _ hw201.nL.toR hnw201 ?_
  intro gw202 w202 hrw202 hbw202
  have kpw202 := kpw201.below hbw202
  refine hK.out _ _ (hw201.below hbw202) (fun hw202 => ?_)
  clear hK K
  try simp only [Act.put, List.setIfInBounds_toArray, List.set_cons_zero, List.set_cons_succ]
  refine wpAnyH_ready (rs := [12]) (by kernel_rfl) (by decide) ?_
  refine AllReadyH.cons rfl (fun K hK => ?_) AllReadyH.nil
  refine step_call (some 89) (by kernel_rfl) (by kernel_rfl) _ _ (by kernel_rfl) _ (HMM.out _ _ _ _ _ 2 _ hrw202) ?_
  rintro e w203 ⟨Bw203, lw203, cw203, rfl, hnw203, hbw203⟩
  refine ⟨_, rfl, ?_⟩
  have kpw203 := kpw202.below hbw203
  refine hK.out _ _ (hw202.below hbw203) (fun hw203 => ?_)
  clear hK K
  try simp only [Act.put, List.setIfInBounds_toArray, List.set_cons_zero, List.set_cons_succ]
  refine held_v 13 (some 76) rfl (by kernel_rfl) (by kernel_rfl) (by kernel_rfl) (by kernel_rfl) (fun c a v w h => HQ2.out c a _ v w h) (by kernel_rfl) (.tuple #[.slice Bw203 lw203 cw203, .int .i64 0]) (fun W h => by kernel_rfl) hw203 ?_
  try simp only [Act.put, List.setIfInBounds_toArray, List.set_cons_zero, List.set_cons_succ]
  refine held_v 14 (some 90) rfl (by kernel_rfl) (by kernel_rfl) (by kernel_rfl) (by kernel_rfl) (fun c a v w h => HQ2.out c a _ v w h) (by kernel_rfl) (.slice Bw203 lw203 cw203) (fun W h => by kernel_rfl) hw203 ?_
  try simp only [Act.put, List.setIfInBounds_toArray, List.set_cons_zero, List.set_cons_succ]
  refine held_v 15 (some 91) rfl (by kernel_rfl) (by kernel_rfl) (by kernel_rfl) (by kernel_rfl) (fun c a v w h => HQ2.out c a _ v w h) (by kernel_rfl) (.int .i64 0) (fun W h => by kernel_rfl) hw203 ?_
  try simp only [Act.put, List.setIfInBounds_toArray, List.set_cons_zero, List.set_cons_succ]
  refine held_v 16 (some 13) rfl (by kernel_rfl) (by kernel_rfl) (by kernel_rfl) (by kernel_rfl) (fun c a v w h => HQ2.out c a _ v w h) (by kernel_rfl) (.slice Bw203 lw203 cw203) (fun W h => by kernel_rfl) hw203 ?_
  try simp only [Act.put, List.setIfInBounds_toArray, List.set_cons_zero, List.set_cons_succ]
  refine held_v 17 (some 14) rfl (by kernel_rfl) (by kernel_rfl) (by kernel_rfl) (by kernel_rfl) (fun c a v w h => HQ2.out c a _ v w h) (by kernel_rfl) (.int .i64 0) (fun W h => by kernel_rfl) hw203 ?_
  try simp only [Act.put, List.setIfInBounds_toArray, List.set_cons_zero, List.set_cons_succ]
  refine wpAnyH_done (by kernel_rfl) ?_ _
  refine HQ1.out _ _ ?_
  clear HQ1 HQ2
  have HYF := Lib.hid hw203
  have HN1 := Lib.hid kpw203
  have HN2 := Lib.hid hnw203
  go_wp2_with (first
    | (go_at_call 69; (with_reducible refine (HAD.out _ _ _ _ _ 2 _ (rdNs_nums HN1.out HN2.out)).mono ?_); rintro e w5 ⟨B5, l5, c5, rfl, hn5, hb5⟩; have HN5 := Lib.hid hn5; have HYG := Lib.hid ((HYF.out.below ((Below.refl _ _).alloc (Nat.le_refl _) _)).below hb5); have c2 := HYG.out.c2; have s0 := HYG.out.s0; have s1 := HYG.out.s1; have s2 := HYG.out.s2; clear hn5 hb5)
    | (at_mapUpdate; refine wpList_upd3 rfl (.tmp 100) (.tmp 101) (.tmp 102) rfl b (WayG T m w5) (i : Int) (j : Int) (r : Int) (.slice B5 l5 c5) rfl rfl rfl lawS mapU keyS HYG.out.tap.map HI.out HJ.out HR.out (WayG.mk HN5.out) ?_; intro w6 hm6 ho6; have HT6 := Lib.hid (TapS.upd HYG.out.tap hm6 ho6); have HN6 := Lib.hid (HN5.out.kp (.of_only ho6 HYG.out.tap.map)); have HO6 := Lib.hid (HYG.out.onl.trans ho6); clear hm6 ho6))
  go_ret
  exact ⟨B5, l5, c5, rfl, HN6.out, HT6.out, HO6.out⟩
end
section
open Go.ChangeShapes Go.WideShapes Go.ChangeAt Go.RowKit
set_option maxHeartbeats 2000000 in
theorem index_c (zs : List Int) (x : Int) (A : Option Addr) (n c : Nat) (hn : n ≤ maxLen) (w : World) (hrd : Rd .i64 w w.heap.size A n zs) : Calls Tryz.prog 85 #[.slice A n c, .int .i64 x] w fun e w' => (∃ r : Int, e = .returned (.int .i64 r) ∧ (0 ≤ r ↔ x ∈ zs)) ∧ w = w' := by
  have HA := Lib.hid hrd
  have hla := hrd.len
  have hnm : (n : Int) ≤ 9223372036854775807 := by unfold maxLen at hn; omega
  clear hrd hn
  go_enter Tryz.func85, Tryz.ntmps85
  go_wp2
  go_loopw [8] (fun i wr => ∃ k : Nat, k ≤ n ∧ i = .int .i64 (k : Int) ∧ (∀ j, j < k → zs.getD j 0 ≠ x) ∧ w = wr) (fun i _ => n - (intOf i).toNat)
  case atStart => exact ⟨0, by omega, rfl, fun j h => absurd h (by omega), rfl⟩
  case round =>
    obtain ⟨k, hk, rfl, hno, rfl⟩ := hrel
    have HNO := Lib.hid hno
    by_cases hlt : k < n
    · obtain ⟨b1, o1, rfl, _, hc1⟩ := HA.out.at_ (by omega)
      have hk1 := hc1 k hlt
      have hin : zs.getD k 0 ∈ zs := getD_in (by omega)
      obtain ⟨y, hy⟩ : ∃ y, zs.getD k 0 = y := ⟨_, rfl⟩
      rw [hy] at hk1 hin
      have i0 : (0 : Int) ≤ (k : Int) := by omega
      have i1 : (k : Int) < (n : Int) := by omega
      clear hno hc1
      by_cases hxy : x = y
      · have t1 : (x == y) = true := by rw [hxy]; simp
        have HM : Hid (x ∈ zs) := Lib.hid (by rw [hxy]; exact hin)
        clear hxy hin HNO
        go_wp2
        go_ret
        exact ⟨⟨_, rfl, ⟨fun _ => HM.out, fun _ => i0⟩⟩, rfl⟩
      · have t1 : (x == y) = false := by rw [beq_eq_false_iff_ne]; exact hxy
        have HK : Hid (∀ j, j < k + 1 → zs.getD j 0 ≠ x) := Lib.hid fun j hj => by
          by_cases h : j = k
          · rw [h, hy]; exact fun e => hxy e.symm
          · exact HNO.out j (by omega)
        clear hxy hin HNO hy
        go_wp2
        go_roundw
        case rel => exact ⟨k + 1, by omega, by go_num, HK.out, by first | rfl | trivial⟩
        case measure => simp [intOf]; omega
    · have hx : x ∉ zs := fun h => by
        obtain ⟨j, hj, e⟩ := List.getElem_of_mem h
        exact hno j (by omega) (by rw [List.getD_eq_getElem?_getD, List.getElem?_eq_getElem hj]; exact e)
      obtain rfl : k = n := by omega
      have HX := Lib.hid hx
      clear hno hx
      go_wp2
      go_ret
      exact ⟨⟨_, rfl, ⟨fun h => absurd h (by omega), fun h => absurd h HX.out⟩⟩, rfl⟩
theorem has_c (zs : List Int) (x : Int) (A : Option Addr) (n c : Nat) (hn : n ≤ maxLen) (w : World) (hrd : Rd .i64 w w.heap.size A n zs) : Calls Tryz.prog 63 #[.slice A n c, .int .i64 x] w fun e w' => e = .returned (.bool (decide (x ∈ zs))) ∧ w = w' := by
  have HC := Lib.hid (index_c zs x A n c hn w hrd)
  clear hrd hn
  go_enter Tryz.func63, Tryz.ntmps63
  go_wp2_with (first
    | (go_at_call 85; (with_reducible refine HC.out.mono ?_); rintro e _ ⟨⟨r, rfl, hr⟩, rfl⟩; have HR := Lib.hid hr; clear hr))
  go_ret
  exact ⟨ret_boolN (decide_eq_decide.2 HR.out), rfl⟩
def flatT : List (Turn × Value × Value) → List Value
  | [] => []
  | p :: ps => .int .i64 (p.1.k : Int) :: p.2.1 :: p.2.2 :: flatT ps
theorem flatT_len : ∀ ps, (flatT ps).length = ps.length * 3
  | [] => rfl
  | p :: ps => by
    show (flatT ps).length + 1 + 1 + 1 = _
    rw [flatT_len ps, List.length_cons]
    omega
theorem flatT_app : ∀ ps qs, flatT (ps ++ qs) = flatT ps ++ flatT qs
  | [], qs => rfl
  | p :: ps, qs => by
    show _ :: _ :: _ :: flatT (ps ++ qs) = _
    rw [flatT_app ps qs]
    rfl
theorem flatT_at : ∀ (ps : List (Turn × Value × Value)) (i : Nat) (p : Turn × Value × Value), ps[i]? = some p → (flatT ps)[i * 3]? = some (.int .i64 (p.1.k : Int)) ∧ (flatT ps)[i * 3 + 1]? = some p.2.1 ∧ (flatT ps)[i * 3 + 2]? = some p.2.2
  | [], i, p, h => by simp at h
  | q :: ps, 0, p, h => by
    injection h with h
    subst h
    exact ⟨rfl, rfl, rfl⟩
  | q :: ps, i + 1, p, h => by
    have h1 := flatT_at ps i p (by simpa using h)
    rw [show (i + 1) * 3 = i * 3 + 3 by omega]
    exact h1
structure TurB (w0 : World) (gO k : Nat) (ps : List (Turn × Value × Value)) (w : World) : Prop where
  blk : ∃ cs, Blk w gO 111 cs ∧ cs.size = k * 3 ∧ cs.toList.take (ps.length * 3) = flatT ps ∧ NoInt .u32 cs
  le : w0.heap.size ≤ gO
  bel : Below w0.heap.size w0 w
  num : ∀ p ∈ ps, NumV w p.1.st p.2.1 ∧ NumV w p.1.lost p.2.2
section
variable {w0 w w' : World} {gO k j : Nat} {ps : List (Turn × Value × Value)}
theorem TurB.below (h : TurB w0 gO k ps w) (hb : Below w.heap.size w w') : TurB w0 gO k ps w' := by
  obtain ⟨cs, h1, h2, h3, h4⟩ := h.blk
  exact ⟨⟨cs, h1.below hb h1.lt, h2, h3, h4⟩, h.le, h.bel.trans (hb.mono h.bel.size), fun p hp => ⟨(h.num p hp).1.below hb, (h.num p hp).2.below hb⟩⟩
theorem noInt_made (k : Nat) : NoInt .u32 (madeCells #[.int .i64 0, .slice none 0 0, .slice none 0 0] k) := by
  intro j z hz
  unfold madeCells at hz
  rw [Array.getElem?_map] at hz
  have h3 : ∀ q : Nat, q < 3 → (#[Value.int .i64 0, .slice none 0 0, .slice none 0 0][q]! : Value) ≠ .int .u32 z := fun q hq => by
    rcases q with _ | _ | _ | q
    · intro h; cases h
    · intro h; cases h
    · intro h; cases h
    · omega
  cases hr : (Array.range k)[j]? with
  | none => rw [hr] at hz; cases hz
  | some v =>
    rw [hr] at hz
    injection hz with hz
    exact h3 _ (Nat.mod_lt _ (by decide)) hz
theorem TurB.start (w : World) (k : Nat) : TurB w w.heap.size k [] (w.alloc (.cells (madeCells #[.int .i64 0, .slice none 0 0, .slice none 0 0] (k * 3)) 111)) :=
  ⟨⟨_, Blk.new w _ _, size_madeCells _ _, by simp [flatT], noInt_made _⟩, Nat.le_refl _, (Below.refl _ _).alloc (Nat.le_refl _) _, fun p hp => by cases hp⟩
theorem TurB.tur (h : TurB w0 gO k ps w) : TurM w (some ⟨gO, 0, none⟩) (ps.map (·.1)) := fun i t ht => by
  obtain ⟨cs, h1, h2, h3, h4⟩ := h.blk
  rw [List.getElem?_map] at ht
  cases hp : ps[i]? with
  | none => rw [hp] at ht; cases ht
  | some p =>
    rw [hp] at ht
    injection ht with ht
    subst ht
    have hi : i < ps.length := (List.getElem?_eq_some_iff.1 hp).1
    obtain ⟨f1, f2, f3⟩ := flatT_at ps i p hp
    have hcell : ∀ q v, q < ps.length * 3 → (flatT ps)[q]? = some v → w.cell? ⟨gO, 0 + q, none⟩ = some v := fun q v hq hv => by
      rw [Nat.zero_add, h1.cell, ← Array.getElem?_toList, ← hv, ← h3, List.getElem?_take, if_pos hq]
    have hn := h.num p (List.mem_of_getElem? hp)
    exact ⟨gO, 0, p.2.1, p.2.2, rfl, hcell _ _ (by omega) f1, hcell _ _ (by omega) f2, hcell _ _ (by omega) f3, hn.1, hn.2⟩
end
theorem info_turn : (Tryz.prog.info? 111).map (fun i => (i.zero, i.size, i.bytes)) = some (some (.agg #[.int .i64 0, .slice none 0 0, .slice none 0 0]), 3, 56) := by kernel_rfl
theorem noInt_row {cs : Array Value} {l : List Value} (h : NoInt .u32 cs) (q r : Nat) (hl : ∀ v ∈ l, ∀ z, v ≠ .int .u32 z) : NoInt .u32 (cs.toList.take q ++ l ++ cs.toList.drop r).toArray := by
  intro j z hz
  rw [List.getElem?_toArray] at hz
  have hm := List.mem_of_getElem? hz
  have hold : ∀ v ∈ cs.toList, v ≠ .int .u32 z := fun v hv e => by
    obtain ⟨i, hi, ei⟩ := List.getElem_of_mem hv
    exact h i z (by rw [← Array.getElem?_toList, List.getElem?_eq_getElem hi, ei, e])
  rcases List.mem_append.1 hm with hm | hm
  · rcases List.mem_append.1 hm with hm | hm
    · exact hold _ (List.mem_of_mem_take hm) rfl
    · exact hl _ hm z rfl
  · exact hold _ (List.mem_of_mem_drop hm) rfl
theorem only_setRow {w : World} {g : Nat} {cs : Array Value} : Only g w (w.setRow g cs) := ⟨rfl, rfl, rfl, by simp [World.setRow], fun j hj hne => by
  unfold World.setRow
  rw [Array.getElem?_modify, if_neg (Ne.symm hne)]⟩
theorem Blk.setRow {w : World} {g : Nat} {t : TypeId} {cs cs' : Array Value} (h : Blk w g t cs) : Blk (w.setRow g cs') g t cs' := by
  have hlt := h.lt
  unfold Blk at h ⊢
  unfold World.setRow
  show (w.heap.modify g _)[g]? = _
  rw [Array.getElem?_modify, if_pos rfl, h]
  rfl
theorem wpList_append_turn {w0 w : World} {gO k : Nat} {ps : List (Turn × Value × Value)} {ops : Array Oper} {rest : List Oper} {o : Oper} {a : Act} {Q : Exit → Act → World → Prop} (hgd : o.guard = none) (s x : Operand)
    (ho : o.op = .call { callee := .builtin .append, args := #[s, x], argTypes := #[80, 80] }) (hB : TurB w0 gO k ps w) (hk : ps.length + 1 ≤ k) (j : Nat) (hj : ps.length = j)
    (hs : a.eval s = .slice (some ⟨gO, 0, none⟩) j k) (g : Nat) (hx : a.eval x = .slice (some ⟨g, 0, none⟩) 1 1) (t : Turn) (A B : Option Addr) (m c l d : Nat) (hb : Blk w g 111 #[.int .i64 (t.k : Int), .slice A m c, .slice B l d])
    (h1 : NumV w t.st (.slice A m c)) (h2 : NumV w t.lost (.slice B l d))
    (h : ∀ w', TurB w0 gO k (ps ++ [(t, .slice A m c, .slice B l d)]) w' → wpList Tryz.prog ops Q rest (a.put o.dst (.slice (some ⟨gO, 0, none⟩) (j + 1) k)) w') : wpList Tryz.prog ops Q (o :: rest) a w := by
  subst hj
  obtain ⟨i, hi, hz0, hz1, hz2⟩ := info_parts info_turn
  obtain ⟨cs, b1, b2, b3, b4⟩ := hB.blk
  have hrun := run_append_room (P := Tryz.prog) w 80 o.type 111 i Tryz.underlying80 hi gO ps.length k cs b1 ⟨g, 0, none⟩ 1 1 [.int .i64 (t.k : Int), .slice A m c, .slice B l d] (by rw [hz1]; rfl)
    (fun j u hu => by
      have h5 : w.cell? ⟨g, j, none⟩ = some u := by rw [hb.cell]; simpa using hu
      rcases j with _ | j
      · simpa [Addr.add] using h5
      · simpa [Addr.add] using h5) (fun u hu => by
      simp only [List.mem_cons, List.not_mem_nil, or_false] at hu
      rcases hu with rfl | rfl | rfl <;> rfl) (by omega) (by rw [hz1]; simp; omega)
  rw [hz1] at hrun
  refine wpList_plain hgd fun K hK => ?_
  unfold Oper.wp execOp
  simp only [ho, resolve, invoke, builtin, Sem.run_bind, Sem.run_pure, Result.andThen_ok, List.map_toArray, List.map_cons, List.map_nil, hs, hx, hrun]
  refine hK _ _ (h _ ?_)
  have hO := only_setRow (w := w) (g := gO) (cs := (cs.toList.take (ps.length * 3) ++ [Value.int .i64 (t.k : Int), Value.slice A m c, Value.slice B l d] ++ cs.toList.drop (ps.length * 3 + 3)).toArray)
  refine ⟨⟨_, ?_, ?_, ?_, noInt_row (l := [Value.int .i64 (t.k : Int), Value.slice A m c, Value.slice B l d]) b4 (ps.length * 3) (ps.length * 3 + 3) (fun v hv z e => ?_)⟩, hB.le, hB.bel.trans (hO.below hB.le hB.bel.size), fun p hp => ?_⟩
  · exact b1.setRow
  · simp only [List.size_toArray, List.length_append, List.length_take, List.length_drop, Array.length_toList, List.length_cons, List.length_nil, b2]
    omega
  · rw [b3, List.length_append, flatT_app, List.length_singleton]
    show List.take _ (flatT ps ++ _ ++ _) = _
    have hl : (flatT ps ++ [Value.int .i64 (t.k : Int), .slice A m c, .slice B l d]).length = (ps.length + 1) * 3 := by rw [List.length_append, flatT_len]; simp; omega
    rw [List.take_append_of_le_length (by omega), List.take_of_length_le (by omega)]
    rfl
  · simp only [List.mem_cons, List.not_mem_nil, or_false] at hv
    rcases hv with rfl | rfl | rfl <;> cases e
  · rcases List.mem_append.1 hp with hp | hp
    · exact ⟨(hB.num p hp).1.onlyB b1 b4 hO, (hB.num p hp).2.onlyB b1 b4 hO⟩
    · rw [List.mem_singleton.1 hp]
      exact ⟨h1.onlyB b1 b4 hO, h2.onlyB b1 b4 hO⟩
end
section
open Go.ChangeShapes Go.WideShapes Go.ChangeAt Go.RowKit
theorem may_one {n : Int} (h1 : 1 ≤ n) (h2 : n < 9223372036854775808) : mayB n 1 = true := by
  unfold mayB
  simp
  omega
theorem bit_one {n : Int} (h1 : 1 ≤ n) (h2 : n < 9223372036854775808) : bitR n 1 = ((needN n : Int), 0) := by
  unfold bitR
  rw [if_pos (may_one h1 h2), Int.mul_one]
theorem lost_one {n : Int} (h1 : 1 ≤ n) (h2 : n < 9223372036854775808) : lostR n 1 = (0, natL (2 ^ needN n - n.toNat)) := by
  unfold lostR
  rw [if_pos (may_one h1 h2)]
  show (0, natL (oddR n ^ 1)) = _
  rw [Nat.pow_one]
  rfl
theorem drop_at {l : List Int} {j : Nat} (h : j < l.length) : l.drop j = l.getD j 0 :: l.drop (j + 1) := by
  rw [List.drop_eq_getElem_cons h, List.getD_eq_getElem?_getD, List.getElem?_eq_getElem h]
  rfl
theorem run_build_turn (k : Int) (A B : Option Addr) (n c m d : Nat) (w : World) : (Instr.buildSlice 80 1 #[(0, .agg #[.int .i64 k, .slice A n c, .slice B m d])]).run Tryz.prog w = .ok (.slice (some ⟨w.heap.size, 0, none⟩) 1 1) (w.alloc (.cells #[.int .i64 k, .slice A n c, .slice B m d] 111)) := by
  go_simp
theorem wpList_build_turn {ops : Array Oper} {rest : List Oper} {o : Oper} {a : Act} {w : World} {Q : Exit → Act → World → Prop} (hw : Region.wanted o (yielded ops a.tmps) = true) (p : Operand) (ho : o.op = .buildSlice 80 1 #[(0, p)])
    (k : Int) (A B : Option Addr) (n c m d : Nat) (hp : a.eval p = .agg #[.int .i64 k, .slice A n c, .slice B m d])
    (h : ∀ w', Hid (Blk w' w.heap.size 111 #[.int .i64 k, .slice A n c, .slice B m d]) → Below w.heap.size w w' → wpList Tryz.prog ops Q rest (a.put o.dst (.slice (some ⟨w.heap.size, 0, none⟩) 1 1)) w') : wpList Tryz.prog ops Q (o :: rest) a w := by
  refine wpList_run_gd hw (.slice (some ⟨w.heap.size, 0, none⟩) 1 1) (w.alloc (.cells #[.int .i64 k, .slice A n c, .slice B m d] 111)) ?_ (h _ (Lib.hid (Blk.new w _ _)) ((Below.refl _ _).alloc (Nat.le_refl _) _))
  have hr1 := run_build_turn k A B n c m d w
  unfold execOp
  simp only [ho, List.map_toArray, List.map_cons, List.map_nil, hp]
  change ((Instr.buildSlice 80 1 #[(0, .agg #[.int .i64 k, .slice A n c, .slice B m d])]) >>= fun v => pure (Next.value v)).run Tryz.prog w = _
  simp only [Sem.run_bind, hr1, Result.andThen_ok, Sem.run_pure]
set_option maxHeartbeats 8000000 in
theorem q17turns_c (M : List Int) (hM : ∀ z ∈ M, -9223372036854775808 ≤ z ∧ z < 9223372036854775808) (AM : Option Addr) (k d : Nat) (hk : k ≤ 16) (hkd : k ≤ d) (hdm : d ≤ maxLen) (l : List Int) (hz : ∀ z ∈ l, 0 ≤ z ∧ z < 18446744073709551616) (hs : sumL l < 9223372036854775808) (AL : Option Addr) (n c : Nat) (hn : n ≤ 1048576) (w : World) (hrm : Rd .i64 w w.heap.size AM k M) (hrl : Rd .u64 w w.heap.size AL n l) :
    Calls Tryz.prog 41 #[.slice AM k d, .int .u64 (sumL l), .slice AL n c] w fun e w' =>
      ((turOk M l ∧ ∃ A, e = .returned (.tuple #[.slice A k k, .bool true]) ∧ TurM w' A (turL M l)) ∨ (¬ turOk M l ∧ e = .returned (.tuple #[.slice none 0 0, .bool false]))) ∧ Below w.heap.size w w' := by
  have HM := Lib.hid hM
  have HRM := Lib.hid hrm
  have HRL := Lib.hid hrl
  have hlm := hrm.len
  have hll := hrl.len
  have hzn : ∀ z ∈ l, 0 ≤ z := fun z h => (hz z h).1
  have HZ := Lib.hid hz
  have HZN := Lib.hid hzn
  have hst := TurI.start (M := M) hzn hs
  have HST := Lib.hid hst
  have HLM := Lib.hid hlm
  have HLL := Lib.hid hll
  have kI : (k : Int) ≤ 16 := by omega
  have k0 : (0 : Int) ≤ (k : Int) := by omega
  have dI : (d : Int) ≤ 9223372036854775807 := by unfold maxLen at hdm; omega
  have kdI : (k : Int) ≤ (d : Int) := by omega
  have nI : (n : Int) ≤ 1048576 := by omega
  have n0 : (0 : Int) ≤ (n : Int) := by omega
  have hmk : ∀ W, (Instr.makeSlice 80 (.int .i64 0) (.int .i64 (k : Int))).run Tryz.prog W = .ok (.slice (some ⟨W.heap.size, 0, none⟩) 0 k) (W.alloc (.cells (madeCells #[.int .i64 0, .slice none 0 0, .slice none 0 0] (k * 3)) 111)) := fun W => by
    obtain ⟨i, hi, hz0, hz1, hz2⟩ := info_parts info_turn
    have hr := run_make (P := Tryz.prog) W 80 111 i _ Tryz.underlying80 hi hz0 .i64 .i64 0 (k : Int) (by omega) (by omega) (by rw [hz2]; omega) (by omega)
    simp only [Int.toNat_natCast, hz1] at hr
    exact hr
  clear hM hrm hrl hlm hll hz hzn hst hs hdm hkd hn
  go_enter Tryz.func41, Tryz.ntmps41
  go_wp2
  have HB0 := Lib.hid (TurB.start w k)
  go_loopw [1, 8, 20] (fun s o i wr => ∃ (j : Nat) (li : List Int) (ps : List (Turn × Value × Value)), j ≤ k ∧ s = .int .u64 (sumL li) ∧ o = .slice (some ⟨w.heap.size, 0, none⟩) j k ∧ i = .int .i64 (j : Int) ∧ TurI M l j li (ps.map (·.1)) ∧ ps.length = j ∧ TurB w w.heap.size k ps wr) (fun _ _ i _ => k - (intOf i).toNat)
  case atStart => exact ⟨0, l, [], Nat.zero_le _, rfl, rfl, rfl, HST.out, rfl, HB0.out⟩
  case round =>
    obtain ⟨j, li, ps, hj, rfl, rfl, rfl, hI, hps, hB⟩ := hrel
    clear HB0 HST hmk
    have HB := Lib.hid hB
    have HI := Lib.hid hI
    have HPS := Lib.hid hps
    by_cases hlt : j < k
    · obtain ⟨b1, o1, rfl, _, hc1⟩ := (HRM.out.below hB.bel).at_ (by omega)
      have hx := hc1 j hlt
      have hmx := HM.out _ (getD_in (l := M) (k := j) (by have := HLM.out; omega))
      have hdr : M.drop j = M.getD j 0 :: M.drop (j + 1) := drop_at (by have := HLM.out; omega)
      obtain ⟨x, hxe⟩ : ∃ x, M.getD j 0 = x := ⟨_, rfl⟩
      rw [hxe] at hx hmx hdr
      have hmem := hI.mem (x := x) HZN.out
      have hnot := hI.no hdr
      have HMX := Lib.hid hmx
      have HDR := Lib.hid hdr
      have j0 : (0 : Int) ≤ (j : Int) := by omega
      have jI : (j : Int) < (k : Int) := by omega
      rw [HLL.out] at hmem
      have HCT := Lib.hid (fun W (h : Below w.heap.size w W) => has_c (M.take j) x (some ⟨b1, o1, none⟩) j d (by have := HLM.out; unfold maxLen; omega) W (((HRM.out.below h).mono h.size).upto (by omega)))
      clear hc1 hmx hxe hdr hI hps hB
      by_cases hx0 : x < 0
      · have HNOT := Lib.hid (hnot (fun h => by have := (hmem.1 h).1; omega))
        clear hmem hnot
        go_wp2
        go_ret2
        exact ⟨.inr ⟨HNOT.out, rfl⟩, HB.out.bel⟩
      have hx0' : 0 ≤ x := by omega
      by_cases hxn : (n : Int) ≤ x
      · have HNOT := Lib.hid (hnot (fun h => by have := (hmem.1 h).2.1; omega))
        clear hmem hnot
        go_wp2
        go_ret2
        exact ⟨.inr ⟨HNOT.out, rfl⟩, HB.out.bel⟩
      obtain ⟨p, rfl⟩ := Int.eq_ofNat_of_zero_le hx0'
      have hpn : p < n := by omega
      obtain ⟨b2, o2, rfl, _, hc2⟩ := HRL.out.at_ (by omega)
      have hv := hc2 p hpn
      rw [Int.toNat_natCast] at hmem
      have hvz := HZ.out _ (getD_in (l := l) (k := p) (by have := HLL.out; omega))
      obtain ⟨v, hve⟩ : ∃ v, l.getD p 0 = v := ⟨_, rfl⟩
      rw [hve] at hv hmem hvz
      have HCV : Hid (∀ W, Below w.heap.size w W → W.cell? ⟨b2, o2 + p, none⟩ = some (.int .u64 v)) := Lib.hid fun W h => (h.cell (p := ⟨b2, o2 + p, none⟩) (cell_lt hv)).trans hv
      have hv1 := HCV.out _ HB.out.bel
      clear hc2 hv
      by_cases hv0 : v = 0
      · have HNOT := Lib.hid (hnot (fun h => (hmem.1 h).2.2.1 hv0))
        have t1 : (v == 0) = true := by rw [hv0]; simp
        clear hmem hnot hve
        go_wp2
        go_ret2
        exact ⟨.inr ⟨HNOT.out, rfl⟩, HB.out.bel⟩
      have t1 : (v == 0) = false := by rw [beq_eq_false_iff_ne]; exact hv0
      by_cases hin : (p : Int) ∈ M.take j
      · have HNOT := Lib.hid (hnot (fun h => (hmem.1 h).2.2.2 hin))
        rw [decide_eq_true hin] at HCT
        clear hmem hnot hve
        go_wp2_with (first
          | (go_at_call 63; (with_reducible refine (HCT.out _ HB.out.bel).mono ?_); rintro e _ ⟨rfl, rfl⟩))
        go_ret2
        exact ⟨.inr ⟨HNOT.out, rfl⟩, HB.out.bel⟩
      have hmb := hmem.2 ⟨hx0', by omega, hv0, hin⟩
      rw [decide_eq_false hin] at HCT
      obtain ⟨p1, p2, p3, p4⟩ := HI.out.pos hmb
      obtain ⟨hst, hsum⟩ := HI.out.step HDR.out (by have := HLM.out; omega) hmb
      rw [Int.toNat_natCast, hve] at hst hsum
      rw [Int.toNat_natCast, hve] at p3 p4
      have hsl := HI.out.sum
      have hbits := fun W => q16bits_c (sumL li) 1 (by omega) (by omega) (by omega) (by omega) W
      have hlost := fun W => (q16lost_c (sumL li) 1 (by omega) (by omega) (by omega) (by omega) W)
      rw [bit_one p1 hsl] at hbits
      rw [lost_one p1 hsl] at hlost
      have hof := fun W => q10of_c v (by omega) (by omega) W
      have hk63 := (need_pow (n := sumL li) p1 hsl).1
      obtain ⟨K, hK⟩ : ∃ K, needN (sumL li) = K := ⟨_, rfl⟩
      rw [hK] at hbits hlost hst hk63
      obtain ⟨X, hX⟩ : ∃ X, 2 ^ K - (sumL li).toNat = X := ⟨_, rfl⟩
      rw [hX] at hlost hst
      obtain ⟨Y, hY⟩ : ∃ Y, v.toNat = Y := ⟨_, rfl⟩
      rw [hY] at hof hst
      have HBT := Lib.hid hbits
      have HLO := Lib.hid (fun W => (hlost W).mono (fun _ _ h => RetRE.of h))
      have HOF := Lib.hid (fun W => (hof W).mono (fun _ _ h => RetNr.of h))
      have HST := Lib.hid hst
      obtain ⟨S, hS⟩ : ∃ S, sumL li = S := ⟨_, rfl⟩
      rw [hS] at hsum HBT HLO p3 p1 hsl ⊢
      have e1 : IntKind.u64.wrap (S - v) = S - v := by rw [IntKind.wrap_u64]; omega
      have HSUM := Lib.hid hsum
      have HKK : Hid (ps.length + 1 ≤ k) := Lib.hid (by have := HPS.out; omega)
      clear hmem hnot hve hin hmb hst hsum hbits hlost hof hK hX hY hS HI HDR hk63 p2 p4
      go_wp2_with (first
        | (go_at_call 63; (with_reducible refine (HCT.out _ HB.out.bel).mono ?_); rintro e _ ⟨rfl, rfl⟩)
        | (go_at_call 64; (with_reducible refine (HBT.out _).mono ?_); rintro e w3 ⟨rfl, hb3⟩; have HB3 := Lib.hid (HB.out.below hb3); clear hb3 hv1)
        | (go_at_call 65; (with_reducible refine (HLO.out _).mono ?_); rintro e w4 ⟨B4, l4, c4, rfl, hn4, hb4⟩; have HB4 := Lib.hid (HB3.out.below hb4); have HN4 := Lib.hid hn4; have hv4 := HCV.out _ HB4.out.bel; clear hn4 hb4)
        | (go_at_call 66; (with_reducible refine (HOF.out _).mono ?_); rintro e w5 ⟨B5, l5, c5, rfl, hn5, hb5⟩; have HB5 := Lib.hid (HB4.out.below hb5); have HN5 := Lib.hid hn5; have HN45 := Lib.hid (HN4.out.below hb5); clear hn5 hb5 hv4)
        | (with_reducible refine at_any ?_; refine at_dst 66 rfl ?_; refine wpList_build_turn (by kernel_rfl) (.tmp 65) rfl (K : Int) B5 B4 l5 c5 l4 c4 rfl ?_; intro w6 hk6 hb6; have HB6 := Lib.hid (HB5.out.below hb6); have HN56 := Lib.hid (HN5.out.below hb6); have HN46 := Lib.hid (HN45.out.below hb6); clear hb6)
        | (at_builtin; refine wpList_append_turn rfl (.tmp 57) (.tmp 66) rfl HB6.out HKK.out j HPS.out rfl w5.heap.size rfl ⟨K, Y, X⟩ B5 B4 l5 c5 l4 c4 hk6.out (NumV.of HN56.out) (NumV.of HN46.out) ?_; intro w7 hB7; have HB7 := Lib.hid hB7; have hv7 := HCV.out _ HB7.out.bel; clear hB7 hk6))
      go_roundw
      case rel => exact ⟨j + 1, li.set p 0, ps ++ [(⟨K, Y, X⟩, .slice B5 l5 c5, .slice B4 l4 c4)], by omega, by rw [HSUM.out], rfl, by go_num, by rw [List.map_append]; exact HST.out, by rw [List.length_append, HPS.out]; rfl, HB7.out⟩
      case measure => simp [intOf]; omega
    · obtain rfl : j = k := by omega
      obtain ⟨h1, h2⟩ := HI.out.done HLM.out.symm
      have HT : Hid (TurM wr (some ⟨w.heap.size, 0, none⟩) (turL M l)) := Lib.hid (by rw [← h2]; exact HB.out.tur)
      have HOK := Lib.hid h1
      clear h1 h2 hI hps hB HI
      go_wp2
      go_ret2
      exact ⟨.inl ⟨HOK.out, _, rfl, HT.out⟩, HB.out.bel⟩
--WAYS
theorem tur_len : ∀ M l, (turL M l).length = M.length
  | [], _ => rfl
  | i :: M, l => by
    show (turL M _).length + 1 = _
    rw [tur_len M, List.length_cons]
theorem tur_fits : ∀ {M l : List Int}, (∀ z ∈ l, 0 ≤ z) → sumL l < 9223372036854775808 → turOk M l → ∀ t ∈ turL M l, t.fits
  | [], _, _, _, _, t, h => by cases h
  | i :: M, l, hz, hs, ⟨hm, hok⟩, t, h => by
    have hm2 := hm
    obtain ⟨h0, h1, h2⟩ := hm2
    have hk : i.toNat < l.length := by omega
    have hge := sum_ge hz hk
    obtain ⟨hn1, hn2⟩ := need_pow (n := sumL l) (by omega) hs
    rcases List.mem_cons.1 h with rfl | h
    · exact ⟨hn1, by show (l.getD i.toNat 0).toNat + (2 ^ needN (sumL l) - (sumL l).toNat) ≤ 2 ^ needN (sumL l); omega, by show (l.getD i.toNat 0).toNat < _; omega⟩
    · exact tur_fits (set_nn hz _) (by have := sum_set hz i.toNat; omega) hok t h
theorem cnt0 {w : World} {g : Nat} {t : TypeId} {u v x : Value} (h : Blk w g t #[u, v, x]) : w.cell? ⟨g, 0, none⟩ = some u := by rw [h.cell]; rfl
theorem cnt1 {w : World} {g : Nat} {t : TypeId} {u v x : Value} (h : Blk w g t #[u, v, x]) : w.cell? ⟨g, 1, none⟩ = some v := by rw [h.cell]; rfl
theorem cnt2 {w : World} {g : Nat} {t : TypeId} {u v x : Value} (h : Blk w g t #[u, v, x]) : w.cell? ⟨g, 2, none⟩ = some x := by rw [h.cell]; rfl
theorem tap_cnt {T : List Turn} {m b : Nat} {A : Option Addr} {w3 w4 w5 : World} {cs cs' : Array Value} {t : TypeId} (h : TapS T m A b w3) (hb4 : Below w3.heap.size w3 w4) (hk4 : Blk w4 w3.heap.size t cs) (hk5 : Blk w5 w3.heap.size t cs') (hs : w5.heap.size = w4.heap.size) (hb5 : ∀ B, B ≤ w3.heap.size → Below B w4 w5) (ho : ∀ j, j ≠ w3.heap.size → w5.heap[j]? = w4.heap[j]?) : TapS T m A b w5 := h.below (hb4.trans (hb5 _ (Nat.le_refl _)))
theorem zero_counting : ∀ W, (zeroValue 85).run Tryz.prog W = .ok (.agg #[.slice none 0 0, .int .i64 0, .map none]) W := (zero_of_info (n := 3) (by kernel_rfl)).1
theorem size_counting (u v x : Value) : (Tryz.prog.info? 85).map (·.size) = some (#[u, v, x] : Array Value).size := by
  show _ = some 3
  kernel_rfl
theorem counting_ones (k : Int) (A : Option Addr) (n c b : Nat) : (#[.slice A n c, .int .i64 k, .map (some b)] : Array Value).all (·.oneCell') = true := by simp [Value.oneCell']
theorem wpList_makeMap3 {P : Program} {ops : Array Oper} {rest : List Oper} {o : Oper} {a : Act} {w : World} {Q : Exit → Act → World → Prop} (hg : o.guard = none) (t k e : TypeId) (ho : o.op = .makeMap t none) (ht : P.underlying t = some (.map k e)) (G : Int → Int → Int → Value → Prop)
    (h : ∀ w', (∀ G : Int → Int → Int → Value → Prop, MapG G w' w.heap.size) → Below w.heap.size w w' → wpList P ops Q rest (a.put o.dst (.map (some w.heap.size))) w') : wpList P ops Q (o :: rest) a w := by
  refine wpList_plain hg fun K' hK' => ?_
  have hrun : (Instr.makeMap t none).run P w = .ok (.map (some w.heap.size)) (w.alloc (.map #[] 0)) := by
    simp [Instr.makeMap, run_underlying ht]
  unfold Oper.wp
  simp [execOp, ho, hrun, Result.andThen]
  exact hK' _ _ (h _ (fun G => ⟨#[], 0, (show (w.heap.push (.map #[] 0))[w.heap.size]? = _ from Array.getElem?_push_size), fun e he => by simp at he⟩) ((Below.refl _ _).alloc (Nat.le_refl _) _))
theorem way_bad {M l : List Int} {bits m : Int} (h : ¬ (M.length ≤ 16 ∧ 0 ≤ bits ∧ bits ≤ 256 ∧ 1 ≤ m ∧ m ≤ 8)) : wayR M bits m l = (1, []) := by
  unfold wayR wayOk
  rw [decide_eq_false h]
  rfl
set_option maxHeartbeats 8000000 in
theorem q17ways_c (M : List Int) (hM : ∀ z ∈ M, -9223372036854775808 ≤ z ∧ z < 9223372036854775808) (AM : Option Addr) (k d : Nat) (hkd : k ≤ d) (hdm : d ≤ maxLen) (bits m : Int) (b0 : -9223372036854775808 ≤ bits) (b1 : bits < 9223372036854775808) (m0 : -9223372036854775808 ≤ m) (m1 : m < 9223372036854775808) (l : List Int) (hz : ∀ z ∈ l, 0 ≤ z ∧ z < 18446744073709551616) (AL : Option Addr) (n c : Nat) (hn : n ≤ 1000000) (w : World) (hrm : Rd .i64 w w.heap.size AM k M) (hrl : Rd .u64 w w.heap.size AL n l) :
    Calls Tryz.prog 19 #[.slice AM k d, .int .i64 bits, .int .i64 m, .slice AL n c] w (RetNE w (wayR M bits m l)) := by
  have hlm := hrm.len
  have dI : (d : Int) ≤ 9223372036854775807 := by unfold maxLen at hdm; omega
  have kI : (k : Int) ≤ (d : Int) := by omega
  have HRM := Lib.hid hrm
  have HRL := Lib.hid hrl
  by_cases h0 : (k : Int) ≤ 16
  rotate_left
  · rw [way_bad (by omega)]
    clear hz hM hrm hrl hlm hkd hdm hn
    go_enter Tryz.func19, Tryz.ntmps19
    go_wp2
    go_ret2
    exact RetNE.nil 1 (Below.refl _ _)
  by_cases h251 : 0 ≤ bits
  rotate_left
  · rw [way_bad (by omega)]
    clear hz hM hrm hrl hlm hkd hdm hn
    go_enter Tryz.func19, Tryz.ntmps19
    go_wp2
    go_ret2
    exact RetNE.nil 1 (Below.refl _ _)
  by_cases h498 : bits ≤ 256
  rotate_left
  · rw [way_bad (by omega)]
    clear hz hM hrm hrl hlm hkd hdm hn
    go_enter Tryz.func19, Tryz.ntmps19
    go_wp2
    go_ret2
    exact RetNE.nil 1 (Below.refl _ _)
  by_cases h747 : 1 ≤ m
  rotate_left
  · rw [way_bad (by omega)]
    clear hz hM hrm hrl hlm hkd hdm hn
    go_enter Tryz.func19, Tryz.ntmps19
    go_wp2
    go_ret2
    exact RetNE.nil 1 (Below.refl _ _)
  by_cases h991 : m ≤ 8
  rotate_left
  · rw [way_bad (by omega)]
    clear hz hM hrm hrl hlm hkd hdm hn
    go_enter Tryz.func19, Tryz.ntmps19
    go_wp2
    go_ret2
    exact RetNE.nil 1 (Below.refl _ _)
  have hwo : wayOk M l bits m = true := by
    unfold wayOk
    exact decide_eq_true ⟨by omega, by omega, by omega, by omega, by omega⟩
  have hto := q12total_c l hz AL n c (by omega) w hrl
  by_cases hs : sumL l < 9223372036854775808
  · have hwr : wayR M bits m l = (0, natL (wayN m.toNat M l bits.toNat)) := by
      unfold wayR
      rw [if_pos hwo, if_pos hs]
    rw [hwr]
    have hzn : ∀ z ∈ l, 0 ≤ z := fun z h => (hz z h).1
    have htu := fun W (h : Below w.heap.size w W) => q17turns_c M hM AM k d (by omega) hkd hdm l hz hs AL n c (by omega) W ((HRM.out.below h).mono h.size) ((HRL.out.below h).mono h.size)
    rw [(tot_ok hs).1, (tot_ok hs).2] at hto
    obtain ⟨mN, rfl⟩ := Int.eq_ofNat_of_zero_le (show 0 ≤ m by omega)
    obtain ⟨r, rfl⟩ := Int.eq_ofNat_of_zero_le (show 0 ≤ bits by omega)
    rw [Int.toNat_natCast, Int.toNat_natCast]
    have HTO := Lib.hid hto
    by_cases hok : turOk M l
    · have hta := fun A b W h => q17tapes_c (turL M l) (tur_fits hzn hs hok) mN k (by omega) (by omega) ((tur_len M l).trans hlm) k (Nat.le_refl _) (by unfold maxLen; omega) A b _ 0 0 r rfl (Nat.zero_le _) (Nat.zero_le _) (by omega) 0 0 (r : Int) rfl rfl rfl W h
      rw [tapV_start, ← wayN_ok mN M l r hok] at hta
      obtain ⟨x, hx⟩ : ∃ x, wayN mN M l r = x := ⟨_, rfl⟩
      rw [hx] at hta ⊢
      obtain ⟨T, hT⟩ : ∃ T, turL M l = T := ⟨_, rfl⟩
      rw [hT] at hta htu
      have HTA := Lib.hid hta
      have HTU := Lib.hid (fun W (hW : Below w.heap.size w W) => (htu W hW).mono (R' := fun e w' => ∃ A, e = .returned (.tuple #[.slice A k k, .bool true]) ∧ TurM w' A T ∧ Below w.heap.size w w') (fun e w' h => by
        rcases h with ⟨⟨_, A, e1, h1⟩ | ⟨h1, _⟩, h2⟩
        · exact ⟨A, e1, h1, hW.trans (h2.mono hW.size)⟩
        · exact absurd hok h1))
      obtain ⟨S, hS⟩ : ∃ S, sumL l = S := ⟨_, rfl⟩
      rw [hS] at HTO HTU
      clear b0 b1 m0 m1 hta htu hto hwr hwo hzn hz hM hrm hrl hs hok hx hT hS hlm hkd hdm hn
      go_enter Tryz.func19, Tryz.ntmps19
      go_wp2_with (first
        | (go_at_call 40; (with_reducible refine HTO.out.mono ?_); rintro e w1 ⟨rfl, hb1⟩; have HB1 := Lib.hid hb1; clear hb1)
        | (go_at_call 41; (with_reducible refine (HTU.out _ HB1.out).mono ?_); rintro e w2 ⟨A2, rfl, ht2, hb2⟩; have HT2 := Lib.hid ht2; have HB2 := Lib.hid hb2; clear ht2 hb2)
        | (with_reducible refine at_any ?_; refine at_dst 53 rfl ?_; refine wpList_makeMap3 rfl 83 88 49 rfl mapU (fun _ _ _ _ => True) ?_; intro w3 hm3 hb3; have HB3 := Lib.hid (HB2.out.trans (hb3.mono (Below.size HB2.out))); have HS3 : Hid (TapS T mN A2 w2.heap.size w3) := Lib.hid ⟨HT2.out.kp (.of_below hb3), hm3 _⟩; have HL := Lib.hid (Below.size HB2.out); clear hm3 hb3)
        | (with_reducible refine at_any ?_; refine at_dst 14 rfl ?_; refine wpList_alloc_any rfl 85 rfl #[.slice none 0 0, .int .i64 0, .map none] zero_counting ?_; intro w4 hk4 hs4 hb4; have HB4 := Lib.hid (HB3.out.trans (hb4.mono (Below.size HB3.out))); have HS4 := Lib.hid (HS3.out.below hb4))
        | (with_reducible refine at_any ?_; refine at_store 14 rfl ?_; refine wpList_store_any rfl 85 (.tmp 14) (.tmp 54) rfl w3.heap.size rfl 85 #[.slice none 0 0, .int .i64 0, .map none] #[.slice A2 k k, .int .i64 (mN : Int), .map (some w2.heap.size)] hk4.out rfl rfl (size_counting _ _ _) (counting_ones _ _ _ _ _) ?_; intro w5 hk5 hs5 hb5 ho5; have HS5 := Lib.hid (tap_cnt HS3.out hb4 hk4.out hk5.out hs5.out hb5 ho5); have HB5 := Lib.hid (HB3.out.trans ((hb4.trans (hb5 _ (Nat.le_refl _))).mono (Below.size HB3.out))); have q0 := cnt0 hk5.out; have q1 := cnt1 hk5.out; have q2 := cnt2 hk5.out; clear hk4 hs4 hb4 hk5 hs5 hb5 ho5)
        | (go_at_call 42; (with_reducible refine (HTA.out _ _ _ HS5.out).mono ?_); rintro e w6 ⟨B6, l6, c6, rfl, hn6, -, ho6⟩; have HN6 := Lib.hid hn6; have HO6 := Lib.hid ho6; clear hn6 ho6))
      go_ret2
      exact HN6.out.ret (HB5.out.trans (HO6.out.below HL.out (Below.size HB5.out)))
    · rw [wayN_no mN M l r hok]
      have HTU := Lib.hid (fun W (hW : Below w.heap.size w W) => (htu W hW).mono (R' := fun e w' => e = .returned (.tuple #[.slice none 0 0, .bool false]) ∧ Below w.heap.size w w') (fun e w' h => by
        rcases h with ⟨⟨h1, _⟩ | ⟨_, h1⟩, h2⟩
        · exact absurd h1 hok
        · exact ⟨h1, hW.trans (h2.mono hW.size)⟩))
      obtain ⟨S, hS⟩ : ∃ S, sumL l = S := ⟨_, rfl⟩
      rw [hS] at HTO HTU
      clear b0 b1 m0 m1 htu hto hwr hwo hzn hz hM hrm hrl hs hok hS hlm hkd hdm hn
      go_enter Tryz.func19, Tryz.ntmps19
      go_wp2_with (first
        | (go_at_call 40; (with_reducible refine HTO.out.mono ?_); rintro e w1 ⟨rfl, hb1⟩; have HB1 := Lib.hid hb1; clear hb1)
        | (go_at_call 41; (with_reducible refine (HTU.out _ HB1.out).mono ?_); rintro e w2 ⟨rfl, hb2⟩; have HB2 := Lib.hid hb2; clear hb2))
      go_ret2
      exact (NumR.zero _).ret HB2.out
  · have hwr : wayR M bits m l = (11, []) := by
      unfold wayR
      rw [if_pos hwo, if_neg hs]
    rw [hwr]
    rw [(tot_no hs).1, (tot_no hs).2] at hto
    have HTO := Lib.hid hto
    clear hto hwr hwo hz hM hrm hrl hs hlm hkd hdm hn
    go_enter Tryz.func19, Tryz.ntmps19
    go_wp2_with (first
      | (go_at_call 40; (with_reducible refine HTO.out.mono ?_); rintro e w1 ⟨rfl, hb1⟩; have HB1 := Lib.hid hb1; clear hb1))
    go_ret2
    exact RetNE.nil 11 HB1.out
end
section
open Go.ChangeShapes Go.WideShapes Go.ChangeAt Go.RowKit
theorem com_sameF {Vj V2 Z : Array Value} (h1 : Z.size = Vj.size) (h2 : Z.size = V2.size) : Vj.size = V2.size := h1.symm.trans h2
def MemF (w w' : World) (os : List Int) (AM : Option Addr) (k cM : Nat) : Prop := os.length = k ∧ Rd .i64 w' w'.heap.size AM k os ∧ k ≤ cM ∧ cM ≤ maxLen ∧ Frs w AM
theorem memF_nil (w w' : World) : MemF w w' [] none 0 0 := ⟨rfl, rd_nil _ _ _ _, Nat.le_refl _, by simp [maxLen], Frs.none w⟩
theorem com_retF {w w' : World} {s t : Src} {A0 A2 AM : Option Addr} {L c2 k cM : Nat} {V2 : Array Value} {zs os : List Int} {E : Int} {rr : List Int × Src × Int} (h0 : rr = (os, t, E)) (hV : srcV t A2 c2 = V2) (hsp : Sep w A0 A2) (hc : L ≤ c2) (hcm : c2 ≤ maxLen) (hr : Rd .u8 w' w'.heap.size A2 L zs) (hb : Below w.heap.size w w') (hm : MemF w w' os AM k cM) (hz : s.tape = zs) (hl : zs.length = L) :
    RetComm w s A0 rr (.returned (.tuple #[.slice AM k cM, .agg V2, .int .i64 E])) w' := by
  obtain ⟨m1, m2, m3, m4, m5⟩ := hm
  subst h0 m1 hV
  refine ⟨A2, c2, AM, cM, rfl, m2, m3, m4, m5, ?_, ?_, hcm, hsp, hb⟩
  · rw [hz, hl]; exact hr
  · rw [hz, hl]; exact hc
theorem rdp_ofF {A : Option Addr} {n : Nat} {zs : List Int} {w : World} (h : Rd .u8 w w.heap.size A n zs) : RdP A n zs w := h
theorem rdi_storeF {A : Option Addr} {n g : Nat} {zs : List Int} {w w' : World} {t : TypeId} {cs : Array Value} {k : IntKind} (h : Rd k w w.heap.size A n zs) (hk : Blk w g t cs) (ha : Apt n A g) (hs : w'.heap.size = w.heap.size) (ho : ∀ j, j ≠ g → w'.heap[j]? = w.heap[j]?) : Rd k w' w'.heap.size A n zs := Rd.other_ h ha hs ho
theorem comR_srcF (l : List Int) (C : Int) (s : Src) (a : Int) (ok : s.Ok) : (comR l C s a).2.1.Ok ∧ (comR l C s a).2.1.tape = s.tape := by
  unfold comR
  split
  · split
    · exact ⟨ok, rfl⟩
    · exact comGo_src a C.toNat l s ok
  · exact ⟨ok, rfl⟩
theorem zero_sum_le {l : List Int} (hz : ∀ z ∈ l, 0 ≤ z) (k : Nat) : sumL (l.set k 0) ≤ sumL l := by
  by_cases hk : k < l.length
  · have h := preL_set (l := l) 0 hk l.length
    have e1 : preL (l.set k 0) l.length = sumL (l.set k 0) := by
      have := preL_all (l.set k 0)
      rwa [List.length_set] at this
    rw [e1, preL_all, if_pos hk] at h
    have := hz _ (getD_in hk)
    omega
  · rw [List.set_eq_of_length_le (by omega)]
    exact Int.le_refl _
theorem set_zero_ok {l : List Int} (hz : ∀ z ∈ l, 0 ≤ z) (hs : sumL l < 9223372036854775808) {k : Nat} (hk : k < l.length) : setL l (k : Int) 0 = l.set k 0 ∧ setE l (k : Int) 0 = 0 := by
  have h1 := zero_sum_le hz k
  obtain ⟨a1, a2⟩ := setE_ok (l := l) (i := (k : Int)) (v := 0) ⟨by omega, by omega⟩ (by rw [Int.toNat_natCast]; omega)
  rw [Int.toNat_natCast] at a2
  exact ⟨a2, a1⟩
theorem mem_lt_sum {l : List Int} (hz : ∀ z ∈ l, 0 ≤ z) (hs : sumL l < 9223372036854775808) : ∀ z ∈ l, 0 ≤ z ∧ z < 18446744073709551616 := fun z h => by
  obtain ⟨j, hj, e⟩ := List.getElem_of_mem h
  have h1 := sum_ge hz hj
  rw [List.getD_eq_getElem?_getD, List.getElem?_eq_getElem hj] at h1
  have h2 : z ≤ sumL l := by rw [← e]; exact h1
  have := hz z h
  omega
theorem com_ne13 {w0 w w5 : World} {g3 g7 gF n cF L : Nat} {V Z : Array Value} {A AF : Option Addr} {zs l os : List Int} {ov : Value} (h : ComF w0 g3 g7 gF V Z A L zs AF n cF l ov os w) (hb : Below w.heap.size w w5) : w5.heap.size ≠ g3 := by
  have h1 := h.src.lt3
  have h2 := hb.size
  omega
theorem com_start {w wF w5 w6 : World} {g3 g7 m c L C : Nat} {V Z : Array Value} {A0 AF : Option Addr} {zs l : List Int} (hrf : Rd .u64 w w.heap.size AF m (treeL l)) (hrd : Rd .u8 w w.heap.size A0 L zs) (hbF : Below w.heap.size w wF) (hS : DrS wF g3 g7 V A0 L zs w6) (hZ : Blk w6 g7 28 Z)
    (hT : Blk w6 w.heap.size 40 #[.slice AF m c]) (hT2 : Rd .u64 w6 w6.heap.size AF m (treeL l)) (ho : ∀ base, base ≤ w5.heap.size → OwnI w6 base 3 .i64 (.slice (some ⟨w5.heap.size, 0, none⟩) 0 C) []) (hb5 : Below w.heap.size w w5) (hr5 : Rd .u8 w5 w5.heap.size A0 L zs) :
    ComF w g3 g7 w.heap.size V Z A0 L zs AF m c l (.slice (some ⟨w5.heap.size, 0, none⟩) 0 C) [] w6 := by
  have h2 := hS.from_ hbF
  have l3 : w.heap.size ≤ g3 := h2.le3
  exact ⟨h2, hZ, hT, hT2, ho _ hb5.size, Nat.le_refl _, Apt.of_lt hrf l3, Apt.of_lt hrf (by have := h2.lt; omega), Apt.of_lt hrf (Nat.le_refl _), Apt.of_lt hrd (Nat.le_refl _), fun g e => by
    injection e with e
    subst e
    exact Apt.of_lt hr5 (Nat.le_refl _), fun g e => by
    injection e with e
    subst e
    exact Apt.of_lt hrf hb5.size⟩
theorem run_makeI (C : Nat) (hC : C ≤ 1000) (w : World) : (Instr.makeSlice 31 (.int .i64 0) (.int .i64 (C : Int))).run Tryz.prog w = .ok (.slice (some ⟨w.heap.size, 0, none⟩) 0 C) (w.alloc (.cells (madeCells #[.int .i64 0] C) 3)) := by
  obtain ⟨i, hi, hz0, hz1, hz2⟩ := info_parts info_intd
  have hr := run_make (P := Tryz.prog) w 31 3 i _ Tryz.underlying31 hi hz0 .i64 .i64 0 (C : Int) (by omega) (by omega) (by rw [hz2]; omega) (by omega)
  simp only [Int.toNat_natCast, hz1, Nat.mul_one] at hr
  exact hr
theorem wpList_makeI {ops : Array Oper} {rest : List Oper} {o : Oper} {a : Act} {w : World} {Q : Exit → Act → World → Prop} (hg : o.guard = none) (x : Operand) (ho : o.op = .makeSlice 31 (.const (.int .i64 0)) x) (C : Nat) (hx : a.eval x = .int .i64 (C : Int)) (hC : C ≤ 256)
    (h : ∀ w', (∀ base, base ≤ w.heap.size → OwnI w' base 3 .i64 (.slice (some ⟨w.heap.size, 0, none⟩) 0 C) []) → Below w.heap.size w w' → wpList Tryz.prog ops Q rest (a.put o.dst (.slice (some ⟨w.heap.size, 0, none⟩) 0 C)) w') : wpList Tryz.prog ops Q (o :: rest) a w := by
  have hr := run_makeI C (by omega) w
  refine wpList_plain hg fun K hK => ?_
  unfold Oper.wp execOp
  have e0 : a.eval (.const (.int .i64 0)) = .int .i64 0 := rfl
  simp only [ho, e0, hx, Sem.run_bind, hr, Result.andThen_ok, Sem.run_pure]
  refine hK _ _ (h _ (fun base hb => ⟨rfl, .inr ⟨w.heap.size, C, _, rfl, hb, Blk.new w _ _, Nat.zero_le _, by simp only [maxLen]; omega, by rw [size_madeCells, Nat.mul_one], by simp⟩⟩) ((Below.refl _ _).alloc (Nat.le_refl _) _))
set_option maxHeartbeats 16000000 in
theorem q17draw_c (l : List Int) (hz : ∀ z ∈ l, 0 ≤ z) (hs : sumL l < 9223372036854775808) (hl : l.length ≤ 1000000) (AF : Option Addr) (m c : Nat) (hm : l.length = m) (hfc : m ≤ c) (hfm : c ≤ maxLen) (Ci : Int) (C0 : -9223372036854775808 ≤ Ci) (C1 : Ci < 9223372036854775808) (s : Src) (ok : s.Ok) (a : Int) (a0 : -9223372036854775808 ≤ a) (a1 : a < 9223372036854775808) (A0 : Option Addr) (c0 : Nat) (hc : s.tape.length ≤ c0) (hcm : c0 ≤ maxLen) (w : World) (hrf : Rd .u64 w w.heap.size AF m (treeL l)) (hrd : Rd .u8 w w.heap.size A0 s.tape.length s.tape) (hkst : Kst w) :
    Calls Tryz.prog 15 #[.agg #[.slice AF m c], .int .i64 Ci, .agg (srcV s A0 c0), .int .i64 a] w (RetComm w s A0 (comR l Ci s a)) := by
  have HKS := Lib.hid hkst
  have HZ0 := Lib.hid zero_src
  have HRF := Lib.hid hrf
  have HLN := Lib.hid hm
  have HFC := Lib.hid hfc
  have HFM := Lib.hid hfm
  have hz6 := mem_lt_sum hz hs
  have HZSS := Lib.hid (fun (t : Src) (h : t.seed.length = 32) A c => srcV_same Src.zero t rfl h none A 0 c)
  obtain ⟨Z, hZ⟩ : ∃ Z, srcV Src.zero none 0 = Z := ⟨_, rfl⟩
  rw [hZ] at HZ0 HZSS
  have SV := Lib.hid (sizedS s ok.sl A0 c0)
  have OV := Lib.hid (srcV_ones s A0 c0)
  have ZV := Lib.hid (HZSS.out s ok.sl A0 c0)
  have hrt := fun W => qsright_c s ok A0 c0 W
  have HSK := Lib.hid (fun W hT h => calls_l (q11stakes_c l hz hs (by omega) AF m c hm hfc hfm W hT h) hm)
  have HPO := Lib.hid (fun A c W h => q12pos_c l hz6 A m c (by omega) W h)
  have HRET : Hid (∀ E wF, Below w.heap.size w wF → ∀ (w' : World), RdP A0 s.tape.length s.tape w' → Below wF.heap.size wF w' → RetComm w s A0 ([], s, E) (.returned (.tuple #[.slice none 0 0, .agg (srcV s A0 c0), .int .i64 E])) w') := Lib.hid (fun E wF h0 w' h1 h2 => ⟨A0, c0, none, 0, rfl, rd_nil _ _ _ _, Nat.le_refl _, by simp [maxLen], Frs.none w, h1, hc, hcm, .inl rfl, h0.trans (h2.mono h0.size)⟩)
  have HZL := Lib.hid hz
  have HSL := Lib.hid hs
  have hm6 : m ≤ 1000000 := by omega
  have OK := Lib.hid ok
  have hcb := hc
  have HCM := Lib.hid hcm
  obtain ⟨V, hV⟩ : ∃ V, srcV s A0 c0 = V := ⟨_, rfl⟩
  have HV := Lib.hid hV
  rw [hV] at SV OV ZV HRET hrt ⊢
  obtain ⟨zs, hzs⟩ : ∃ zs, s.tape = zs := ⟨_, rfl⟩
  obtain ⟨L, hL⟩ : ∃ L, zs.length = L := ⟨_, rfl⟩
  have HZS := Lib.hid hzs
  have HLZ := Lib.hid hL
  rw [hzs, hL] at HRET hrd hcb
  have HCB := Lib.hid hcb
  have hRd := Lib.hid hrd
  clear hz hZ ok hc hcm hcb hV hrf hrd hzs hL hl hm hfc hfm hs hz6 hkst
  by_cases hb : comB Ci s a = true
  · have hb2 := hb
    unfold comB at hb2
    rw [Bool.and_eq_true] at hb2
    obtain ⟨hr, hb3⟩ := hb2
    obtain ⟨b1, b2, b3, b4⟩ := of_decide_eq_true hb3
    rw [hr] at hrt
    have HRT := Lib.hid hrt
    obtain ⟨C, rfl⟩ := Int.eq_ofNat_of_zero_le b1
    have b5 : (C : Int) ≤ 256 := b2
    have b6 : ¬ (C : Int) < 0 := by omega
    have dA : decide ((C : Int) < 0) = false := decide_eq_false b6
    have dB : decide (256 < (C : Int)) = false := decide_eq_false (by omega)
    have dC : decide (a < 1) = false := decide_eq_false (by omega)
    have dD : decide (64 < a) = false := decide_eq_false (by omega)
    have hR : comR l (C : Int) s a = if (posL l : Int) < (C : Int) then ([], s, 12) else comGo a C l s := by
      unfold comR
      rw [if_pos hb, Int.toNat_natCast]
    rw [hR]
    clear hb hb3 hr hrt hR C0 C1
    by_cases hlow : (posL l : Int) < (C : Int)
    · rw [if_pos hlow]
      have HLOW := Lib.hid (fun wF h0 w' h1 h2 => HRET.out 12 wF h0 w' h1 h2)
      go_enter Tryz.func15, Tryz.ntmps15
      go_wp2_with (first
        | (with_reducible refine at_any ?_; refine at_dst 4 rfl ?_; refine wpList_box_any rfl 40 (.tmp 0) rfl #[.slice AF m c] rfl ?_; intro wF hkF hsF hbF; have G0 := Lib.hid (fx_start hkF.out HRF.out hbF); have HBF := Lib.hid hbF; have HRdF := Lib.hid ((hRd.out.below hbF).mono (Below.size hbF)); clear hkF hsF hbF)
        | (with_reducible refine at_any ?_; refine at_dst 6 rfl ?_; refine wpList_box_any rfl 28 (.tmp 2) rfl V rfl ?_; intro w1 hk1 hs1 hb1)
        | (with_reducible refine at_any ?_; refine at_dst 9 rfl ?_; refine wpList_alloc_any rfl 28 rfl Z HZ0.out ?_; intro w2 hk2 hs2 hb2; have HS2 := Lib.hid (DrS.mk2 HRdF.out hk1.out hb1 hk2.out hb2 (Below.refl _ _)); have HZ2 := Lib.hid (fx1 hk2.out); have G2 := Lib.hid (Fx.below (Fx.below G0.out hb1) hb2); clear G0 hs1 hb1 hs2 hb2)
        | (with_reducible refine at_any ?_; refine at_dst 22 rfl ?_; refine wpList_load_gdb (by kernel_rfl) 28 (.tmp 6) rfl wF.heap.size rfl 28 V HS2.out.blk _ Tryz.underlying28 rfl SV.out ?_)
        | (go_at_call 29; (with_reducible refine (HRT.out _).mono ?_); rintro e w3 ⟨rfl, hb3⟩; have HS3 := Lib.hid (DrS.below HS2.out hb3); have HZ3 := Lib.hid (Fx.below HZ2.out hb3); have G3 := Lib.hid (Fx.below G2.out hb3); clear hb3)
        | (with_reducible refine at_any ?_; refine at_dst 35 rfl ?_; refine wpList_load_fen (by kernel_rfl) (.tmp 4) rfl w.heap.size rfl 40 (.slice AF m c) (Fx.b0 G3.out) ?_)
        | (go_at_call 31; (with_reducible refine (HSK.out _ (Kst.tz (HKS.out.below (Fx.e2 G3.out))) (Fx.r1 G3.out)).mono ?_); rintro e w4 ⟨A4, c4, rfl, hr4, hc4, hm4, hb4⟩; have HR4 := Lib.hid hr4; have HB4 := Lib.hid hb4; clear hr4 hc4 hm4 hb4)
        | (go_at_call 30; (with_reducible refine (HPO.out _ _ _ HR4.out).mono ?_); rintro e w5 ⟨rfl, hb5⟩; have hb45 := HB4.out.trans (hb5.mono (Below.size HB4.out)); have HS5 := Lib.hid (DrS.below HS3.out hb45); have HZ5 := Lib.hid (Fx.below HZ3.out hb45); have G5 := Lib.hid (Fx.below G3.out hb45); clear hb5 hb45 HB4 HR4 HS3 HZ3 G3 HS2 HZ2 G2))
      obtain ⟨g3, hg3⟩ : ∃ g, wF.heap.size = g := ⟨_, rfl⟩
      obtain ⟨g7, hg7⟩ : ∃ g, w1.heap.size = g := ⟨_, rfl⟩
      have HS9 := HS5.out
      have HZ9 := HZ5.out
      rw [hg3, hg7] at HS9
      rw [hg7] at HZ9
      rw [hg3, hg7]
      clear hg3 hg7 hk1 hk2
      have HZ7 := HZ9.drew
      refine wp_region_held_drew (S := (DrS wF g3 g7 V A0 L zs)) (by kernel_rfl) HS9.drew (fun hH => ?_)
      refine wpAnyH_letter #[false, false, false, false] (by kernel_rfl) (fun _ _ d _ _ h => by cases d <;> exact h) (fun QL HQ1 HQ2 => ?_)
      refine held_row 0 (some 40) rfl (by kernel_rfl) (by kernel_rfl) (by kernel_rfl) (by kernel_rfl) (fun c a v w h => HQ2.out c a _ v w h) (by kernel_rfl) 28 (.tmp 6) rfl g3 (by kernel_rfl) 28 V (fun _ h => h.blk) _ Tryz.underlying28 rfl SV.out hH ?_
      try simp only [Act.put, List.setIfInBounds_toArray, List.set_cons_zero, List.set_cons_succ]
      refine held_v 1 (some 8) rfl (by kernel_rfl) (by kernel_rfl) (by kernel_rfl) (by kernel_rfl) (fun c a v w h => HQ2.out c a _ v w h) (by kernel_rfl) (.slice none 0 0) (fun W h => by kernel_rfl) hH ?_
      try simp only [Act.put, List.setIfInBounds_toArray, List.set_cons_zero, List.set_cons_succ]
      refine wpAnyH_ready (rs := [2]) (by kernel_rfl) (by decide) ?_
      refine AllReadyH.cons rfl (fun K hK => ?_) AllReadyH.nil
      refine step_store none (by kernel_rfl) (by kernel_rfl) 28 (.tmp 9) (.tmp 40) rfl g7 (by kernel_rfl) 28 Z V HZ7.1 (by kernel_rfl) ZV.out SV.out OV.out ?_
      intro w41 hkw41 hsw41 hbw41 how41
      have ex42 : Fx [.blk g7 28 V] w41 := ⟨hkw41.out, trivial⟩
      refine hK.out _ _ (hH.store HZ7.1 hH.store7 hsw41.out hbw41 how41) (fun hw41 => ?_)
      clear hK K
      try simp only [Act.put, List.setIfInBounds_toArray, List.set_cons_zero, List.set_cons_succ]
      refine held_v 3 (some 10) rfl (by kernel_rfl) (by kernel_rfl) (by kernel_rfl) (by kernel_rfl) (fun c a v w h => HQ2.out c a _ v w h) (by kernel_rfl) (.int .i64 12) (fun W h => by kernel_rfl) hw41 ?_
      try simp only [Act.put, List.setIfInBounds_toArray, List.set_cons_zero, List.set_cons_succ]
      refine wpAnyH_done (by kernel_rfl) ?_ _
      refine HQ1.out _ _ ?_
      clear HQ1 HQ2
      go_wp2_with (refine bodyPost_mid 8 9 10 28 rfl g7 rfl (.slice none 0 0) (.int .i64 12) rfl rfl 28 V ex42.1 _ Tryz.underlying28 rfl SV.out rfl ?_)
      exact HLOW.out wF HBF.out _ hw41.rd hw41.bel
    · rw [if_neg hlow]
      have HCC : Hid (C ≤ 256) := Lib.hid (by omega)
      obtain ⟨ii, hii, hiz0, hiz1, hizb⟩ := info_parts info_intd
      obtain ⟨rr, hrr⟩ : ∃ r, comGo a C l s = r := ⟨_, rfl⟩
      have HACC : Hid (rr = comAcc [] (comGo a (C - 0) l s)) := Lib.hid (by rw [Nat.sub_zero, comAcc_nil, hrr])
      rw [hrr]
      clear hrr HRET
      go_enter Tryz.func15, Tryz.ntmps15
      go_wp2_with (first
        | (with_reducible refine at_any ?_; refine at_dst 4 rfl ?_; refine wpList_box_any rfl 40 (.tmp 0) rfl #[.slice AF m c] rfl ?_; intro wF hkF hsF hbF; have G0 := Lib.hid (fx_start hkF.out HRF.out hbF); have HBF := Lib.hid hbF; have HRdF := Lib.hid ((hRd.out.below hbF).mono (Below.size hbF)); clear hkF hsF hbF)
        | (with_reducible refine at_any ?_; refine at_dst 6 rfl ?_; refine wpList_box_any rfl 28 (.tmp 2) rfl V rfl ?_; intro w1 hk1 hs1 hb1)
        | (with_reducible refine at_any ?_; refine at_dst 9 rfl ?_; refine wpList_alloc_any rfl 28 rfl Z HZ0.out ?_; intro w2 hk2 hs2 hb2; have HS2 := Lib.hid (DrS.mk2 HRdF.out hk1.out hb1 hk2.out hb2 (Below.refl _ _)); have HZ2 := Lib.hid (fx1 hk2.out); have G2 := Lib.hid (Fx.below (Fx.below G0.out hb1) hb2); clear G0 hs1 hb1 hs2 hb2)
        | (with_reducible refine at_any ?_; refine at_dst 22 rfl ?_; refine wpList_load_gdb (by kernel_rfl) 28 (.tmp 6) rfl wF.heap.size rfl 28 V HS2.out.blk _ Tryz.underlying28 rfl SV.out ?_)
        | (go_at_call 29; (with_reducible refine (HRT.out _).mono ?_); rintro e w3 ⟨rfl, hb3⟩; have HS3 := Lib.hid (DrS.below HS2.out hb3); have HZ3 := Lib.hid (Fx.below HZ2.out hb3); have G3 := Lib.hid (Fx.below G2.out hb3); clear hb3)
        | (with_reducible refine at_any ?_; refine at_dst 35 rfl ?_; refine wpList_load_fen (by kernel_rfl) (.tmp 4) rfl w.heap.size rfl 40 (.slice AF m c) (Fx.b0 G3.out) ?_)
        | (go_at_call 31; (with_reducible refine (HSK.out _ (Kst.tz (HKS.out.below (Fx.e2 G3.out))) (Fx.r1 G3.out)).mono ?_); rintro e w4 ⟨A4, c4, rfl, hr4, hc4, hm4, hb4⟩; have HR4 := Lib.hid hr4; have HB4 := Lib.hid hb4; clear hr4 hc4 hm4 hb4)
        | (go_at_call 30; (with_reducible refine (HPO.out _ _ _ HR4.out).mono ?_); rintro e w5 ⟨rfl, hb5⟩; have hb45 := HB4.out.trans (hb5.mono (Below.size HB4.out)); have HS5 := Lib.hid (DrS.below HS3.out hb45); have HZ5 := Lib.hid (Fx.below HZ3.out hb45); have G5 := Lib.hid (Fx.below G3.out hb45); clear hb5 hb45 HB4 HR4 HS3 HZ3 G3 HS2 HZ2 G2)
        | (with_reducible refine at_any ?_; refine at_dst 42 rfl ?_; refine wpList_makeI rfl (.tmp 41) rfl C rfl HCC.out ?_; intro w6 ho6 hb6; have HS6 := Lib.hid (DrS.below HS5.out hb6); have HZ6 := Lib.hid (Fx.below HZ5.out hb6); have G6 := Lib.hid (Fx.below G5.out hb6); have HO6 := Lib.hid ho6; have HB6 := Lib.hid hb6; clear ho6 hb6))
      obtain ⟨g3, hg3⟩ : ∃ g, wF.heap.size = g := ⟨_, rfl⟩
      obtain ⟨g7, hg7⟩ : ∃ g, w1.heap.size = g := ⟨_, rfl⟩
      have HS9 := HS6.out
      have HZ9 := HZ6.out
      rw [hg3, hg7] at HS9
      rw [hg7] at HZ9
      rw [hg3, hg7]
      clear hg3 hg7 hk1 hk2
      obtain ⟨gF, hgF⟩ : ∃ g, w.heap.size = g := ⟨_, rfl⟩
      have HC4 : Hid (ComF w g3 g7 gF V Z A0 L zs AF m c l (.slice (some ⟨w5.heap.size, 0, none⟩) 0 C) [] w6) := Lib.hid (by rw [← hgF]; exact com_start HRF.out hRd.out HBF.out HS9 HZ9.1 (Fx.b0 G6.out) (Fx.r1 G6.out) HO6.out (Fx.e2 G5.out) HS5.out.rd.rd)
      rw [hgF]
      clear HS9 HZ9 HO6 HB6 HS6 HZ6 G6 HS5 HZ5 G5
      go_loopw [11, 44] (fun oo ii' wr => ∃ (j : Nat) (sj : Src) (Aj : Option Addr) (cj : Nat) (lj os : List Int) (AFj : Option Addr) (cFj : Nat), j ≤ C ∧ ii' = .int .i64 (j : Int) ∧ os.length = j ∧ ComF w g3 g7 gF (srcV sj Aj cj) Z Aj L zs AFj m cFj lj oo os wr ∧ sj.Ok ∧ sj.tape = zs ∧ L ≤ cj ∧ cj ≤ maxLen ∧ Sep w A0 Aj ∧ lj.length = m ∧ (∀ z ∈ lj, 0 ≤ z) ∧ sumL lj < 9223372036854775808 ∧ m ≤ cFj ∧ cFj ≤ maxLen ∧ rr = comAcc os (comGo a (C - j) lj sj)) (fun _ ii' _ => C - (intOf ii').toNat)
      case atStart => exact ⟨0, s, A0, c0, l, [], AF, c, Nat.zero_le _, rfl, rfl, by rw [HV.out]; exact HC4.out, OK.out, HZS.out, HCB.out, HCM.out, .inl rfl, HLN.out, HZL.out, HSL.out, HFC.out, HFM.out, HACC.out⟩
      case round =>
        clear HC4 HACC
        obtain ⟨j, sj, Aj, cj, lj, os, AFj, cFj, hj, rfl, hos, hC, okj, htj, hcj, hcmj, hsp, hlj, hzj, hsj, hfc, hfm, hacc⟩ := hrel
        obtain ⟨AO, cO, rfl, hO1, hO2⟩ := hC.out.form
        rw [hos] at hC hO1 ⊢
        obtain ⟨Vj, hVj⟩ : ∃ V, srcV sj Aj cj = V := ⟨_, rfl⟩
        have SVj := Lib.hid (sizedS sj okj.sl Aj cj)
        have OVj := Lib.hid (srcV_ones sj Aj cj)
        have ZVj := Lib.hid (HZSS.out sj okj.sl Aj cj)
        rw [hVj] at hC SVj OVj ZVj
        have HC := Lib.hid hC
        clear hC
        have hjI : (j : Int) ≤ (C : Int) := by omega
        have hj0 : (0 : Int) ≤ (j : Int) := by omega
        by_cases hlt : j < C
        · have hltI : (j : Int) < (C : Int) := by omega
          have hdr := fun W h1 h2 h3 => q13draw_c lj hzj hsj (by omega) AFj m cFj hlj hfc hfm sj okj a a0 a1 Aj cj (by rw [htj, HLZ.out]; exact hcj) hcmj W h1 h2 h3
          obtain ⟨okt, htt⟩ := ledT_in lj sj a okj
          have hin := ledR_ok (l := lj) (fun z h => hzj z h) (s := sj) (a := a)
          have hno := comAcc_no (c := C - j - 1) (l := lj) (s := sj) (a := a) os
          have hon := comAcc_on (c := C - j - 1) (l := lj) (s := sj) (a := a) os
          rw [led_ok sj a hsj] at hin hno hon
          rw [show C - j - 1 + 1 = C - j by omega, ← hacc] at hno hon
          unfold RetLead at hdr
          rw [hVj, htj, HLZ.out] at hdr
          rw [htj] at htt
          obtain ⟨lr, hlr⟩ : ∃ r, ledT lj sj a = r := ⟨_, rfl⟩
          rw [hlr] at hdr okt htt hin hno hon
          obtain ⟨x, t, E⟩ := lr
          simp only at hdr okt htt hin hno hon
          have HDR := Lib.hid hdr
          have ST := Lib.hid (fun A c => sizedS t okt.sl A c)
          have OT := Lib.hid (fun A c => srcV_ones t A c)
          have ZT := Lib.hid (fun A c => HZSS.out t okt.sl A c)
          have HSP := Lib.hid hsp
          have HLT := Lib.hid hlt
          by_cases hE : E = 0
          · subst hE
            obtain ⟨k, hk, hxk, hkp, -⟩ := hin rfl
            subst hxk
            have hon2 := hon rfl
            rw [Int.toNat_natCast] at hon2
            have HON := Lib.hid hon2
            have hkI : (k : Int) < (m : Int) := by omega
            have hk0 : (0 : Int) ≤ (k : Int) := by omega
            have hss := zero_sum_le hzj k
            have hst := fun W h1 h2 => q11setF_c lj hzj hsj (by omega) AFj m cFj hlj hfc hfm (k : Int) 0 (by omega) (by omega) (by omega) (by omega) W h1 h2
            obtain ⟨e1, e2⟩ := set_zero_ok hzj hsj hk
            rw [e1, e2] at hst
            have HTL : Hid ((treeL (lj.set k 0)).length = m) := Lib.hid ((treeL_len _).trans (by rw [List.length_set]; exact hlj))
            have HST := Lib.hid hst
            have HZJ := Lib.hid (set_nn hzj k)
            have HSJ : Hid (sumL (lj.set k 0) < 9223372036854775808) := Lib.hid (Int.lt_of_le_of_lt hss hsj)
            have HOS := Lib.hid hos
            have HLJ : Hid ((lj.set k 0).length = m) := Lib.hid (by rw [List.length_set]; exact hlj)
            have HOKT := Lib.hid okt
            have HTT := Lib.hid htt
            have t2 : ((0 : Int) != 0) = false := rfl
            clear hon hon2 hno hin hdr hlr hacc hzj hlj okt htt hsp hos okj htj hcj hcmj hVj hk hkp hj hst e1 e2 hss hsj hfc hfm
            go_wp2_with (first
              | (with_reducible refine at_any ?_; refine at_dst 47 rfl ?_; refine wpList_load_fen (by kernel_rfl) (.tmp 4) rfl gF rfl 40 (.slice AFj m cFj) HC.out.tre ?_)
              | (with_reducible refine at_any ?_; refine at_dst 48 rfl ?_; refine wpList_load_blk rfl 28 (.tmp 6) rfl g3 rfl 28 Vj HC.out.src.blk _ Tryz.underlying28 rfl SVj.out ?_)
              | (go_at_call 32; (with_reducible refine (HDR.out _ HC.out.trd HC.out.src.rd.rd (HKS.out.below HC.out.src.bel)).mono ?_); rintro e w5 ⟨A2, c2, rfl, hrd2, hc2, hm2, hsp2, hb5⟩; obtain ⟨V2, hV2⟩ : ∃ V2, srcV t A2 c2 = V2 := ⟨_, rfl⟩; have SV2 := Lib.hid (ST.out A2 c2); have OV2 := Lib.hid (OT.out A2 c2); have ZV2 := Lib.hid (ZT.out A2 c2); have HV2 := Lib.hid hV2; rw [hV2] at SV2 OV2 ZV2 ⊢; clear hV2)
              | (with_reducible refine at_any ?_; refine at_dst 13 rfl ?_; refine wpList_alloc_any rfl 28 rfl Z HZ0.out ?_; intro w6 hk6 hs6 hb6)
              | (with_reducible refine at_any ?_; refine at_store 13 rfl ?_; refine wpList_store_any rfl 28 (.tmp 13) (.tmp 52) rfl w5.heap.size rfl 28 Z V2 hk6.out rfl ZV2.out SV2.out OV2.out ?_; intro w7 hk7 hs7 hb7 ho7; have TT := Lib.hid (ComF.took HC.out hrd2 hsp2 hb5 hb6 hk6.out hk7.out hs7.out hb7 ho7); have HS5 := Lib.hid (Sep.trans HSP.out hsp2 HC.out.size); have HC2 := Lib.hid hc2; have HM2 := Lib.hid hm2; have H13 := Lib.hid (com_ne13 HC.out hb5); clear hrd2 hsp2 hb5 hb6 hk6 hs6 hk7 hs7 hb7 ho7 hc2 hm2))
            obtain ⟨g13, hg13⟩ : ∃ g, w5.heap.size = g := ⟨_, rfl⟩
            have HC9 := TT.out.1
            have HN9 := TT.out.2
            have HN13 := H13
            rw [hg13] at HN9 HN13
            rw [hg13]
            clear TT hg13 H13
            have CD := HC9.drew
            have ND := HN9.drew
            refine wp_region_held_drew (S := fun W => Blk W g13 28 V2) (by kernel_rfl) ND.hand.blk (fun hH => ?_)
            refine wpAnyH_letter #[false, false, false, false, false, false, false] (by kernel_rfl) (fun _ _ d _ _ h => by cases d <;> exact h) (fun QL HQ1 HQ2 => ?_)
            refine held_v 0 (some 58) rfl (by kernel_rfl) (by kernel_rfl) (by kernel_rfl) (by kernel_rfl) (fun c a v w h => HQ2.out c a _ v w h) (by kernel_rfl) (.slice AO j cO) (fun W h => by kernel_rfl) hH ?_
            try simp only [Act.put, List.setIfInBounds_toArray, List.set_cons_zero, List.set_cons_succ]
            refine held_v 1 (some 59) rfl (by kernel_rfl) (by kernel_rfl) (by kernel_rfl) (by kernel_rfl) (fun c a v w h => HQ2.out c a _ v w h) (by kernel_rfl) (.int .i64 (k : Int)) (fun W h => by kernel_rfl) hH ?_
            try simp only [Act.put, List.setIfInBounds_toArray, List.set_cons_zero, List.set_cons_succ]
            refine held_row 4 (some 62) rfl (by kernel_rfl) (by kernel_rfl) (by kernel_rfl) (by kernel_rfl) (fun c a v w h => HQ2.out c a _ v w h) (by kernel_rfl) 28 (.tmp 13) rfl g13 (by kernel_rfl) 28 V2 (fun _ h => h) _ Tryz.underlying28 rfl SV2.out hH ?_
            try simp only [Act.put, List.setIfInBounds_toArray, List.set_cons_zero, List.set_cons_succ]
            refine wpAnyH_ready (rs := [2]) (by kernel_rfl) (by decide) ?_
            refine AllReadyH.cons rfl (fun K hK => ?_) AllReadyH.nil
            refine step_bldI (some 60) (by kernel_rfl) (by kernel_rfl) (.tmp 59) (by kernel_rfl) (k : Int) (by kernel_rfl) ?_
            intro bw61 w61 hrw61 hbw61
            have Cw61 := CD.below hbw61
            have Nw61 := ND.below hbw61
            refine hK.out _ _ Nw61.hand.blk (fun hw61 => ?_)
            clear hK K
            try simp only [Act.put, List.setIfInBounds_toArray, List.set_cons_zero, List.set_cons_succ]
            refine wpAnyH_ready (rs := [3]) (by kernel_rfl) (by decide) ?_
            refine AllReadyH.cons rfl (fun K hK => ?_) AllReadyH.nil
            refine step_append_d _ (some 61) (by kernel_rfl) (by kernel_rfl) (.tmp 58) (.tmp 60) 31 (by kernel_rfl) w.heap.size 3 ii _ 8 .i64 Tryz.underlying31 hii hiz0 hiz1 hizb rfl _ os (by kernel_rfl) Cw61.out w61.heap.size (some ⟨bw61, 0, none⟩) 1 1 [(k : Int)] (by kernel_rfl) hrw61 (by have h1 := HOS.out; have h2 := HLT.out; have h3 := HCC.out; simp only [maxLen]; omega) (by have h1 := HOS.out; have h2 := HLT.out; have h3 := HCC.out; omega) Cw61.size ?_
            intro vw62 w62 how62 hgw62 hatw62
            have Cw62 := Cw61.app how62 hgw62 hatw62
            have Nw62 := Nw61.app Cw61.out hgw62 hatw62
            have Fw62 := how62.form
            obtain ⟨Aw62, cw62, rfl, F1w62, F2w62⟩ := Fw62
            rw [List.length_append, HOS.out] at Cw62 Nw62 F1w62 how62 ⊢
            refine hK.out _ _ Nw62.hand.blk (fun hw62 => ?_)
            clear hK K
            try simp only [Act.put, List.setIfInBounds_toArray, List.set_cons_zero, List.set_cons_succ]
            refine held_v 5 (some 11) rfl (by kernel_rfl) (by kernel_rfl) (by kernel_rfl) (by kernel_rfl) (fun c a v w h => HQ2.out c a _ v w h) (by kernel_rfl) (.slice Aw62 (j + [(k : Int)].length) cw62) (fun W h => by kernel_rfl) hw62 ?_
            try simp only [Act.put, List.setIfInBounds_toArray, List.set_cons_zero, List.set_cons_succ]
            refine wpAnyH_ready (rs := [6]) (by kernel_rfl) (by decide) ?_
            refine AllReadyH.cons rfl (fun K hK => ?_) AllReadyH.nil
            refine step_store none (by kernel_rfl) (by kernel_rfl) 28 (.tmp 6) (.tmp 62) rfl g3 (by kernel_rfl) 28 Vj V2 Cw62.src.blk (by kernel_rfl) (com_sameF ZVj.out ZV2.out) SV2.out OV2.out ?_
            intro w63 hkw63 hsw63 hbw63 how63
            have Cw63 := Cw62.put Nw62 hkw63.out hsw63.out hbw63 how63
            refine hK.out _ _ (Blk.other Nw62.hand.blk how63 HN13.out) (fun hw63 => ?_)
            clear hK K
            try simp only [Act.put, List.setIfInBounds_toArray, List.set_cons_zero, List.set_cons_succ]
            refine wpAnyH_done (by kernel_rfl) ?_ _
            refine HQ1.out _ _ ?_
            clear HQ1 HQ2
            have CX := Lib.hid Cw63
            clear hH
            go_wp2_with (first
              | (with_reducible refine at_any ?_; refine at_dst 64 rfl ?_; refine wpList_load_fen (by kernel_rfl) (.tmp 4) rfl gF rfl 40 (.slice AFj m cFj) CX.out.tre ?_)
              | (go_at_call 33; (with_reducible refine (HST.out _ (Kst.tz (HKS.out.below CX.out.src.bel)) CX.out.trd).mono ?_); rintro e wS ⟨AS, cS, rfl, hrS, hcS, hmS, hbS, hfS⟩; rw [HTL.out] at hrS hcS ⊢; have HCS := Lib.hid hcS; have HMS := Lib.hid hmS; have KS := Lib.hid (CX.out.tre.below hbS CX.out.tre.lt))
              | (with_reducible refine at_any ?_; refine at_store 4 rfl ?_; refine wpList_store_any rfl 40 (.tmp 4) (.tmp 67) rfl gF rfl 40 #[.slice AFj m cFj] #[.slice AS m cS] KS.out rfl (size1 _ _) (sizedF _) (fen_ones _ _ _) ?_; intro wT hkT hsT hbT hoT; have CY := Lib.hid (ComF.setf (l' := lj.set k 0) CX.out hrS hfS hbS hkT.out hsT.out hbT hoT); clear hrS hcS hmS hbS hfS hkT hsT hbT hoT))
            go_roundw
            case rel => exact ⟨j + 1, t, A2, c2, lj.set k 0, os ++ [(k : Int)], AS, cS, by have := HLT.out; omega, by go_num, by rw [List.length_append, HOS.out]; rfl, by rw [HV2.out]; exact CY.out, HOKT.out, HTT.out, HC2.out, HM2.out, HS5.out, HLJ.out, HZJ.out, HSJ.out, HCS.out, HMS.out, by rw [HON.out, Nat.sub_sub]⟩
            case measure => have h1 := HLT.out; simp [intOf]; omega
          · have hno2 := hno hE
            have HNO := Lib.hid hno2
            have t2 : (E == 0) = false := by rw [beq_eq_false_iff_ne]; exact hE
            have t3 : (E != 0) = true := by rw [bne, t2]; rfl
            clear hon hno hno2 hin hdr hlr hacc hzj hlj okt htt hsp hos okj htj hcj hcmj hVj hj hE hsj hfc hfm
            go_wp2_with (first
              | (with_reducible refine at_any ?_; refine at_dst 47 rfl ?_; refine wpList_load_fen (by kernel_rfl) (.tmp 4) rfl gF rfl 40 (.slice AFj m cFj) HC.out.tre ?_)
              | (with_reducible refine at_any ?_; refine at_dst 48 rfl ?_; refine wpList_load_blk rfl 28 (.tmp 6) rfl g3 rfl 28 Vj HC.out.src.blk _ Tryz.underlying28 rfl SVj.out ?_)
              | (go_at_call 32; (with_reducible refine (HDR.out _ HC.out.trd HC.out.src.rd.rd (HKS.out.below HC.out.src.bel)).mono ?_); rintro e w5 ⟨A2, c2, rfl, hrd2, hc2, hm2, hsp2, hb5⟩; obtain ⟨V2, hV2⟩ : ∃ V2, srcV t A2 c2 = V2 := ⟨_, rfl⟩; have SV2 := Lib.hid (ST.out A2 c2); have OV2 := Lib.hid (OT.out A2 c2); have ZV2 := Lib.hid (ZT.out A2 c2); have HV2 := Lib.hid hV2; rw [hV2] at SV2 OV2 ZV2 ⊢; clear hV2)
              | (with_reducible refine at_any ?_; refine at_dst 13 rfl ?_; refine wpList_alloc_any rfl 28 rfl Z HZ0.out ?_; intro w6 hk6 hs6 hb6)
              | (with_reducible refine at_any ?_; refine at_store 13 rfl ?_; refine wpList_store_any rfl 28 (.tmp 13) (.tmp 52) rfl w5.heap.size rfl 28 Z V2 hk6.out rfl ZV2.out SV2.out OV2.out ?_; intro w7 hk7 hs7 hb7 ho7; have TT := Lib.hid (ComF.took HC.out hrd2 hsp2 hb5 hb6 hk6.out hk7.out hs7.out hb7 ho7); have HS5 := Lib.hid (Sep.trans HSP.out hsp2 HC.out.size); have HC2 := Lib.hid hc2; have HM2 := Lib.hid hm2; have H13 := Lib.hid (com_ne13 HC.out hb5); clear hrd2 hsp2 hb5 hb6 hk6 hs6 hk7 hs7 hb7 ho7 hc2 hm2))
            obtain ⟨g13, hg13⟩ : ∃ g, w5.heap.size = g := ⟨_, rfl⟩
            have HC9 := TT.out.1
            have HN9 := TT.out.2
            have HN13 := H13
            rw [hg13] at HN9 HN13
            rw [hg13]
            have HZ9 := HC9.fx
            have HD9 := HN9.hand
            clear hg13
            have HZ7 := HZ9.drew
            refine wp_region_held_drew (S := (DrH w g7 g13 V2 A2 L zs)) (by kernel_rfl) HD9.drew (fun hH => ?_)
            refine wpAnyH_letter #[false, false, false, false, false] (by kernel_rfl) (fun _ _ d _ _ h => by cases d <;> exact h) (fun QL HQ1 HQ2 => ?_)
            refine held_row 0 (some 56) rfl (by kernel_rfl) (by kernel_rfl) (by kernel_rfl) (by kernel_rfl) (fun c a v w h => HQ2.out c a _ v w h) (by kernel_rfl) 28 (.tmp 13) rfl g13 (by kernel_rfl) 28 V2 (fun _ h => h.blk) _ Tryz.underlying28 rfl SV2.out hH ?_
            try simp only [Act.put, List.setIfInBounds_toArray, List.set_cons_zero, List.set_cons_succ]
            refine held_v 1 (some 57) rfl (by kernel_rfl) (by kernel_rfl) (by kernel_rfl) (by kernel_rfl) (fun c a v w h => HQ2.out c a _ v w h) (by kernel_rfl) (.int .i64 E) (fun W h => by kernel_rfl) hH ?_
            try simp only [Act.put, List.setIfInBounds_toArray, List.set_cons_zero, List.set_cons_succ]
            refine held_v 2 (some 8) rfl (by kernel_rfl) (by kernel_rfl) (by kernel_rfl) (by kernel_rfl) (fun c a v w h => HQ2.out c a _ v w h) (by kernel_rfl) (.slice none 0 0) (fun W h => by kernel_rfl) hH ?_
            try simp only [Act.put, List.setIfInBounds_toArray, List.set_cons_zero, List.set_cons_succ]
            refine wpAnyH_ready (rs := [3]) (by kernel_rfl) (by decide) ?_
            refine AllReadyH.cons rfl (fun K hK => ?_) AllReadyH.nil
            refine step_store none (by kernel_rfl) (by kernel_rfl) 28 (.tmp 9) (.tmp 56) rfl g7 (by kernel_rfl) 28 Z V2 HZ7.1 (by kernel_rfl) ZV2.out SV2.out OV2.out ?_
            intro w141 hkw141 hsw141 hbw141 how141
            have ex142 : Fx [.blk g7 28 V2] w141 := ⟨hkw141.out, trivial⟩
            refine hK.out _ _ (hH.store HZ7.1 hH.store7 hsw141.out hbw141 how141) (fun hw141 => ?_)
            clear hK K
            try simp only [Act.put, List.setIfInBounds_toArray, List.set_cons_zero, List.set_cons_succ]
            refine held_v 4 (some 10) rfl (by kernel_rfl) (by kernel_rfl) (by kernel_rfl) (by kernel_rfl) (fun c a v w h => HQ2.out c a _ v w h) (by kernel_rfl) (.int .i64 E) (fun W h => by kernel_rfl) hw141 ?_
            try simp only [Act.put, List.setIfInBounds_toArray, List.set_cons_zero, List.set_cons_succ]
            refine wpAnyH_done (by kernel_rfl) ?_ _
            refine HQ1.out _ _ ?_
            clear HQ1 HQ2
            go_wp2_with (refine bodyPost_mid 8 9 10 28 rfl g7 rfl (.slice none 0 0) (.int .i64 E) rfl rfl 28 V2 ex142.1 _ Tryz.underlying28 rfl SV2.out rfl ?_)
            exact com_retF HNO.out HV2.out HS5.out HC2.out HM2.out hw141.rd.rd hw141.bel (memF_nil _ _) HZS.out HLZ.out
        · obtain rfl : j = C := by omega
          have hend := hacc
          rw [Nat.sub_self, comAcc_end] at hend
          have HEND := Lib.hid hend
          have HSP := Lib.hid hsp
          have HCJ := Lib.hid hcj
          have HCMJ := Lib.hid hcmj
          have HVJ := Lib.hid hVj
          have HOS := Lib.hid hos
          have HO1 := Lib.hid hO1
          have HO2 := Lib.hid hO2
          have hF : FinS w g3 g7 Vj Aj L zs (.slice AO j cO) os wr := ⟨HC.out.src, HC.out.out⟩
          have HZ9 := HC.out.fx
          clear hend hacc hsp hcj hcmj hVj hos hO1 hO2 hzj hlj okj htj hj hlt hsj hfc hfm
          go_wp2
          have HZ7 := HZ9.drew
          refine wp_region_held_drew (S := (FinS w g3 g7 Vj Aj L zs (.slice AO j cO) os)) (by kernel_rfl) hF.drew (fun hH => ?_)
          refine wpAnyH_letter #[false, false, false, false, false] (by kernel_rfl) (fun _ _ d _ _ h => by cases d <;> exact h) (fun QL HQ1 HQ2 => ?_)
          refine held_v 0 (some 70) rfl (by kernel_rfl) (by kernel_rfl) (by kernel_rfl) (by kernel_rfl) (fun c a v w h => HQ2.out c a _ v w h) (by kernel_rfl) (.slice AO j cO) (fun W h => by kernel_rfl) hH ?_
          try simp only [Act.put, List.setIfInBounds_toArray, List.set_cons_zero, List.set_cons_succ]
          refine held_row 1 (some 71) rfl (by kernel_rfl) (by kernel_rfl) (by kernel_rfl) (by kernel_rfl) (fun c a v w h => HQ2.out c a _ v w h) (by kernel_rfl) 28 (.tmp 6) rfl g3 (by kernel_rfl) 28 Vj (fun _ h => h.blk) _ Tryz.underlying28 rfl SVj.out hH ?_
          try simp only [Act.put, List.setIfInBounds_toArray, List.set_cons_zero, List.set_cons_succ]
          refine held_v 2 (some 8) rfl (by kernel_rfl) (by kernel_rfl) (by kernel_rfl) (by kernel_rfl) (fun c a v w h => HQ2.out c a _ v w h) (by kernel_rfl) (.slice AO j cO) (fun W h => by kernel_rfl) hH ?_
          try simp only [Act.put, List.setIfInBounds_toArray, List.set_cons_zero, List.set_cons_succ]
          refine wpAnyH_ready (rs := [3]) (by kernel_rfl) (by decide) ?_
          refine AllReadyH.cons rfl (fun K hK => ?_) AllReadyH.nil
          refine step_store none (by kernel_rfl) (by kernel_rfl) 28 (.tmp 9) (.tmp 71) rfl g7 (by kernel_rfl) 28 Z Vj HZ7.1 (by kernel_rfl) ZVj.out SVj.out OVj.out ?_
          intro w241 hkw241 hsw241 hbw241 how241
          have ex242 : Fx [.blk g7 28 Vj] w241 := ⟨hkw241.out, trivial⟩
          refine hK.out _ _ (hH.store HZ7.1 hH.store7 hsw241.out hbw241 how241) (fun hw241 => ?_)
          clear hK K
          try simp only [Act.put, List.setIfInBounds_toArray, List.set_cons_zero, List.set_cons_succ]
          refine held_v 4 (some 10) rfl (by kernel_rfl) (by kernel_rfl) (by kernel_rfl) (by kernel_rfl) (fun c a v w h => HQ2.out c a _ v w h) (by kernel_rfl) (.int .i64 0) (fun W h => by kernel_rfl) hw241 ?_
          try simp only [Act.put, List.setIfInBounds_toArray, List.set_cons_zero, List.set_cons_succ]
          refine wpAnyH_done (by kernel_rfl) ?_ _
          refine HQ1.out _ _ ?_
          clear HQ1 HQ2
          go_wp2_with (refine bodyPost_mid 8 9 10 28 rfl g7 rfl (.slice AO j cO) (.int .i64 0) rfl rfl 28 Vj ex242.1 _ Tryz.underlying28 rfl SVj.out rfl ?_)
          exact com_retF HEND.out HVJ.out HSP.out HCJ.out HCMJ.out hw241.src.rd.rd hw241.src.bel ⟨HOS.out, OwnI.rd hw241.out HOS.out, HO1.out, HO2.out, Frs.of_own hw241.out⟩ HZS.out HLZ.out
  · have hR : comR l Ci s a = ([], s, 1) := by
      unfold comR
      rw [if_neg hb]
    rw [hR]
    have HBAD := Lib.hid (fun wF h0 w' h1 h2 => HRET.out 1 wF h0 w' h1 h2)
    clear hR HRET
    by_cases h1 : Ci < 0
    · clear hb hrt
      go_enter Tryz.func15, Tryz.ntmps15
      go_wp2_with (first
        | (with_reducible refine at_any ?_; refine at_dst 4 rfl ?_; refine wpList_box_any rfl 40 (.tmp 0) rfl #[.slice AF m c] rfl ?_; intro wF hkF hsF hbF; have G0 := Lib.hid (fx_start hkF.out HRF.out hbF); have HBF := Lib.hid hbF; have HRdF := Lib.hid ((hRd.out.below hbF).mono (Below.size hbF)); clear hkF hsF hbF)
        | (with_reducible refine at_any ?_; refine at_dst 6 rfl ?_; refine wpList_box_any rfl 28 (.tmp 2) rfl V rfl ?_; intro w1 hk1 hs1 hb1)
        | (with_reducible refine at_any ?_; refine at_dst 9 rfl ?_; refine wpList_alloc_any rfl 28 rfl Z HZ0.out ?_; intro w2 hk2 hs2 hb2; have HS2 := Lib.hid (DrS.mk2 HRdF.out hk1.out hb1 hk2.out hb2 (Below.refl _ _)); have HZ2 := Lib.hid (fx1 hk2.out); have G2 := Lib.hid (Fx.below (Fx.below G0.out hb1) hb2); clear G0 hs1 hb1 hs2 hb2))
      obtain ⟨g3, hg3⟩ : ∃ g, wF.heap.size = g := ⟨_, rfl⟩
      obtain ⟨g7, hg7⟩ : ∃ g, w1.heap.size = g := ⟨_, rfl⟩
      have HS9 := HS2.out
      have HZ9 := HZ2.out
      rw [hg3, hg7] at HS9
      rw [hg7] at HZ9
      rw [hg3, hg7]
      clear hg3 hg7 hk1 hk2
      have HZ7 := HZ9.drew
      refine wp_region_held_drew (S := (DrS wF g3 g7 V A0 L zs)) (by kernel_rfl) HS9.drew (fun hH => ?_)
      refine wpAnyH_letter #[false, false, false, false] (by kernel_rfl) (fun _ _ d _ _ h => by cases d <;> exact h) (fun QL HQ1 HQ2 => ?_)
      refine held_row 0 (some 34) rfl (by kernel_rfl) (by kernel_rfl) (by kernel_rfl) (by kernel_rfl) (fun c a v w h => HQ2.out c a _ v w h) (by kernel_rfl) 28 (.tmp 6) rfl g3 (by kernel_rfl) 28 V (fun _ h => h.blk) _ Tryz.underlying28 rfl SV.out hH ?_
      try simp only [Act.put, List.setIfInBounds_toArray, List.set_cons_zero, List.set_cons_succ]
      refine held_v 1 (some 8) rfl (by kernel_rfl) (by kernel_rfl) (by kernel_rfl) (by kernel_rfl) (fun c a v w h => HQ2.out c a _ v w h) (by kernel_rfl) (.slice none 0 0) (fun W h => by kernel_rfl) hH ?_
      try simp only [Act.put, List.setIfInBounds_toArray, List.set_cons_zero, List.set_cons_succ]
      refine wpAnyH_ready (rs := [2]) (by kernel_rfl) (by decide) ?_
      refine AllReadyH.cons rfl (fun K hK => ?_) AllReadyH.nil
      refine step_store none (by kernel_rfl) (by kernel_rfl) 28 (.tmp 9) (.tmp 34) rfl g7 (by kernel_rfl) 28 Z V HZ7.1 (by kernel_rfl) ZV.out SV.out OV.out ?_
      intro w41 hkw41 hsw41 hbw41 how41
      have ex42 : Fx [.blk g7 28 V] w41 := ⟨hkw41.out, trivial⟩
      refine hK.out _ _ (hH.store HZ7.1 hH.store7 hsw41.out hbw41 how41) (fun hw41 => ?_)
      clear hK K
      try simp only [Act.put, List.setIfInBounds_toArray, List.set_cons_zero, List.set_cons_succ]
      refine held_v 3 (some 10) rfl (by kernel_rfl) (by kernel_rfl) (by kernel_rfl) (by kernel_rfl) (fun c a v w h => HQ2.out c a _ v w h) (by kernel_rfl) (.int .i64 1) (fun W h => by kernel_rfl) hw41 ?_
      try simp only [Act.put, List.setIfInBounds_toArray, List.set_cons_zero, List.set_cons_succ]
      refine wpAnyH_done (by kernel_rfl) ?_ _
      refine HQ1.out _ _ ?_
      clear HQ1 HQ2
      go_wp2_with (refine bodyPost_mid 8 9 10 28 rfl g7 rfl (.slice none 0 0) (.int .i64 1) rfl rfl 28 V ex42.1 _ Tryz.underlying28 rfl SV.out rfl ?_)
      exact HBAD.out wF HBF.out _ hw41.rd hw41.bel
    · have h2 : 0 ≤ Ci := by omega
      have dA : decide (Ci < 0) = false := decide_eq_false h1
      by_cases h3 : 256 < Ci
      · clear hb hrt
        go_enter Tryz.func15, Tryz.ntmps15
        go_wp2_with (first
          | (with_reducible refine at_any ?_; refine at_dst 4 rfl ?_; refine wpList_box_any rfl 40 (.tmp 0) rfl #[.slice AF m c] rfl ?_; intro wF hkF hsF hbF; have G0 := Lib.hid (fx_start hkF.out HRF.out hbF); have HBF := Lib.hid hbF; have HRdF := Lib.hid ((hRd.out.below hbF).mono (Below.size hbF)); clear hkF hsF hbF)
          | (with_reducible refine at_any ?_; refine at_dst 6 rfl ?_; refine wpList_box_any rfl 28 (.tmp 2) rfl V rfl ?_; intro w1 hk1 hs1 hb1)
          | (with_reducible refine at_any ?_; refine at_dst 9 rfl ?_; refine wpList_alloc_any rfl 28 rfl Z HZ0.out ?_; intro w2 hk2 hs2 hb2; have HS2 := Lib.hid (DrS.mk2 HRdF.out hk1.out hb1 hk2.out hb2 (Below.refl _ _)); have HZ2 := Lib.hid (fx1 hk2.out); have G2 := Lib.hid (Fx.below (Fx.below G0.out hb1) hb2); clear G0 hs1 hb1 hs2 hb2))
        obtain ⟨g3, hg3⟩ : ∃ g, wF.heap.size = g := ⟨_, rfl⟩
        obtain ⟨g7, hg7⟩ : ∃ g, w1.heap.size = g := ⟨_, rfl⟩
        have HS9 := HS2.out
        have HZ9 := HZ2.out
        rw [hg3, hg7] at HS9
        rw [hg7] at HZ9
        rw [hg3, hg7]
        clear hg3 hg7 hk1 hk2
        have HZ7 := HZ9.drew
        refine wp_region_held_drew (S := (DrS wF g3 g7 V A0 L zs)) (by kernel_rfl) HS9.drew (fun hH => ?_)
        refine wpAnyH_letter #[false, false, false, false] (by kernel_rfl) (fun _ _ d _ _ h => by cases d <;> exact h) (fun QL HQ1 HQ2 => ?_)
        refine held_row 0 (some 34) rfl (by kernel_rfl) (by kernel_rfl) (by kernel_rfl) (by kernel_rfl) (fun c a v w h => HQ2.out c a _ v w h) (by kernel_rfl) 28 (.tmp 6) rfl g3 (by kernel_rfl) 28 V (fun _ h => h.blk) _ Tryz.underlying28 rfl SV.out hH ?_
        try simp only [Act.put, List.setIfInBounds_toArray, List.set_cons_zero, List.set_cons_succ]
        refine held_v 1 (some 8) rfl (by kernel_rfl) (by kernel_rfl) (by kernel_rfl) (by kernel_rfl) (fun c a v w h => HQ2.out c a _ v w h) (by kernel_rfl) (.slice none 0 0) (fun W h => by kernel_rfl) hH ?_
        try simp only [Act.put, List.setIfInBounds_toArray, List.set_cons_zero, List.set_cons_succ]
        refine wpAnyH_ready (rs := [2]) (by kernel_rfl) (by decide) ?_
        refine AllReadyH.cons rfl (fun K hK => ?_) AllReadyH.nil
        refine step_store none (by kernel_rfl) (by kernel_rfl) 28 (.tmp 9) (.tmp 34) rfl g7 (by kernel_rfl) 28 Z V HZ7.1 (by kernel_rfl) ZV.out SV.out OV.out ?_
        intro w41 hkw41 hsw41 hbw41 how41
        have ex42 : Fx [.blk g7 28 V] w41 := ⟨hkw41.out, trivial⟩
        refine hK.out _ _ (hH.store HZ7.1 hH.store7 hsw41.out hbw41 how41) (fun hw41 => ?_)
        clear hK K
        try simp only [Act.put, List.setIfInBounds_toArray, List.set_cons_zero, List.set_cons_succ]
        refine held_v 3 (some 10) rfl (by kernel_rfl) (by kernel_rfl) (by kernel_rfl) (by kernel_rfl) (fun c a v w h => HQ2.out c a _ v w h) (by kernel_rfl) (.int .i64 1) (fun W h => by kernel_rfl) hw41 ?_
        try simp only [Act.put, List.setIfInBounds_toArray, List.set_cons_zero, List.set_cons_succ]
        refine wpAnyH_done (by kernel_rfl) ?_ _
        refine HQ1.out _ _ ?_
        clear HQ1 HQ2
        go_wp2_with (refine bodyPost_mid 8 9 10 28 rfl g7 rfl (.slice none 0 0) (.int .i64 1) rfl rfl 28 V ex42.1 _ Tryz.underlying28 rfl SV.out rfl ?_)
        exact HBAD.out wF HBF.out _ hw41.rd hw41.bel
      · have h4 : Ci ≤ 256 := by omega
        have dB : decide (256 < Ci) = false := decide_eq_false h3
        have HRT := Lib.hid hrt
        by_cases hr : rightS s = true
        · rw [hr] at HRT
          by_cases h5 : a < 1
          · clear hb hrt hr
            go_enter Tryz.func15, Tryz.ntmps15
            go_wp2_with (first
              | (with_reducible refine at_any ?_; refine at_dst 4 rfl ?_; refine wpList_box_any rfl 40 (.tmp 0) rfl #[.slice AF m c] rfl ?_; intro wF hkF hsF hbF; have G0 := Lib.hid (fx_start hkF.out HRF.out hbF); have HBF := Lib.hid hbF; have HRdF := Lib.hid ((hRd.out.below hbF).mono (Below.size hbF)); clear hkF hsF hbF)
              | (with_reducible refine at_any ?_; refine at_dst 6 rfl ?_; refine wpList_box_any rfl 28 (.tmp 2) rfl V rfl ?_; intro w1 hk1 hs1 hb1)
              | (with_reducible refine at_any ?_; refine at_dst 9 rfl ?_; refine wpList_alloc_any rfl 28 rfl Z HZ0.out ?_; intro w2 hk2 hs2 hb2; have HS2 := Lib.hid (DrS.mk2 HRdF.out hk1.out hb1 hk2.out hb2 (Below.refl _ _)); have HZ2 := Lib.hid (fx1 hk2.out); have G2 := Lib.hid (Fx.below (Fx.below G0.out hb1) hb2); clear G0 hs1 hb1 hs2 hb2)
              | (with_reducible refine at_any ?_; refine at_dst 22 rfl ?_; refine wpList_load_gdb (by kernel_rfl) 28 (.tmp 6) rfl wF.heap.size rfl 28 V HS2.out.blk _ Tryz.underlying28 rfl SV.out ?_)
              | (go_at_call 29; (with_reducible refine (HRT.out _).mono ?_); rintro e w3 ⟨rfl, hb3⟩; have HS3 := Lib.hid (DrS.below HS2.out hb3); have HZ3 := Lib.hid (Fx.below HZ2.out hb3); have G3 := Lib.hid (Fx.below G2.out hb3); clear hb3))
            obtain ⟨g3, hg3⟩ : ∃ g, wF.heap.size = g := ⟨_, rfl⟩
            obtain ⟨g7, hg7⟩ : ∃ g, w1.heap.size = g := ⟨_, rfl⟩
            have HS9 := HS3.out
            have HZ9 := HZ3.out
            rw [hg3, hg7] at HS9
            rw [hg7] at HZ9
            rw [hg3, hg7]
            clear hg3 hg7 hk1 hk2
            have HZ7 := HZ9.drew
            refine wp_region_held_drew (S := (DrS wF g3 g7 V A0 L zs)) (by kernel_rfl) HS9.drew (fun hH => ?_)
            refine wpAnyH_letter #[false, false, false, false] (by kernel_rfl) (fun _ _ d _ _ h => by cases d <;> exact h) (fun QL HQ1 HQ2 => ?_)
            refine held_row 0 (some 34) rfl (by kernel_rfl) (by kernel_rfl) (by kernel_rfl) (by kernel_rfl) (fun c a v w h => HQ2.out c a _ v w h) (by kernel_rfl) 28 (.tmp 6) rfl g3 (by kernel_rfl) 28 V (fun _ h => h.blk) _ Tryz.underlying28 rfl SV.out hH ?_
            try simp only [Act.put, List.setIfInBounds_toArray, List.set_cons_zero, List.set_cons_succ]
            refine held_v 1 (some 8) rfl (by kernel_rfl) (by kernel_rfl) (by kernel_rfl) (by kernel_rfl) (fun c a v w h => HQ2.out c a _ v w h) (by kernel_rfl) (.slice none 0 0) (fun W h => by kernel_rfl) hH ?_
            try simp only [Act.put, List.setIfInBounds_toArray, List.set_cons_zero, List.set_cons_succ]
            refine wpAnyH_ready (rs := [2]) (by kernel_rfl) (by decide) ?_
            refine AllReadyH.cons rfl (fun K hK => ?_) AllReadyH.nil
            refine step_store none (by kernel_rfl) (by kernel_rfl) 28 (.tmp 9) (.tmp 34) rfl g7 (by kernel_rfl) 28 Z V HZ7.1 (by kernel_rfl) ZV.out SV.out OV.out ?_
            intro w41 hkw41 hsw41 hbw41 how41
            have ex42 : Fx [.blk g7 28 V] w41 := ⟨hkw41.out, trivial⟩
            refine hK.out _ _ (hH.store HZ7.1 hH.store7 hsw41.out hbw41 how41) (fun hw41 => ?_)
            clear hK K
            try simp only [Act.put, List.setIfInBounds_toArray, List.set_cons_zero, List.set_cons_succ]
            refine held_v 3 (some 10) rfl (by kernel_rfl) (by kernel_rfl) (by kernel_rfl) (by kernel_rfl) (fun c a v w h => HQ2.out c a _ v w h) (by kernel_rfl) (.int .i64 1) (fun W h => by kernel_rfl) hw41 ?_
            try simp only [Act.put, List.setIfInBounds_toArray, List.set_cons_zero, List.set_cons_succ]
            refine wpAnyH_done (by kernel_rfl) ?_ _
            refine HQ1.out _ _ ?_
            clear HQ1 HQ2
            go_wp2_with (refine bodyPost_mid 8 9 10 28 rfl g7 rfl (.slice none 0 0) (.int .i64 1) rfl rfl 28 V ex42.1 _ Tryz.underlying28 rfl SV.out rfl ?_)
            exact HBAD.out wF HBF.out _ hw41.rd hw41.bel
          · have h6 : 64 < a := by
              by_cases h7 : a ≤ 64
              · exact absurd (by unfold comB; rw [hr, decide_eq_true ⟨h2, h4, by omega, h7⟩]; rfl) hb
              · omega
            have h8 : 1 ≤ a := by omega
            have dC : decide (a < 1) = false := decide_eq_false h5
            clear hb hrt hr
            go_enter Tryz.func15, Tryz.ntmps15
            go_wp2_with (first
              | (with_reducible refine at_any ?_; refine at_dst 4 rfl ?_; refine wpList_box_any rfl 40 (.tmp 0) rfl #[.slice AF m c] rfl ?_; intro wF hkF hsF hbF; have G0 := Lib.hid (fx_start hkF.out HRF.out hbF); have HBF := Lib.hid hbF; have HRdF := Lib.hid ((hRd.out.below hbF).mono (Below.size hbF)); clear hkF hsF hbF)
              | (with_reducible refine at_any ?_; refine at_dst 6 rfl ?_; refine wpList_box_any rfl 28 (.tmp 2) rfl V rfl ?_; intro w1 hk1 hs1 hb1)
              | (with_reducible refine at_any ?_; refine at_dst 9 rfl ?_; refine wpList_alloc_any rfl 28 rfl Z HZ0.out ?_; intro w2 hk2 hs2 hb2; have HS2 := Lib.hid (DrS.mk2 HRdF.out hk1.out hb1 hk2.out hb2 (Below.refl _ _)); have HZ2 := Lib.hid (fx1 hk2.out); have G2 := Lib.hid (Fx.below (Fx.below G0.out hb1) hb2); clear G0 hs1 hb1 hs2 hb2)
              | (with_reducible refine at_any ?_; refine at_dst 22 rfl ?_; refine wpList_load_gdb (by kernel_rfl) 28 (.tmp 6) rfl wF.heap.size rfl 28 V HS2.out.blk _ Tryz.underlying28 rfl SV.out ?_)
              | (go_at_call 29; (with_reducible refine (HRT.out _).mono ?_); rintro e w3 ⟨rfl, hb3⟩; have HS3 := Lib.hid (DrS.below HS2.out hb3); have HZ3 := Lib.hid (Fx.below HZ2.out hb3); have G3 := Lib.hid (Fx.below G2.out hb3); clear hb3))
            obtain ⟨g3, hg3⟩ : ∃ g, wF.heap.size = g := ⟨_, rfl⟩
            obtain ⟨g7, hg7⟩ : ∃ g, w1.heap.size = g := ⟨_, rfl⟩
            have HS9 := HS3.out
            have HZ9 := HZ3.out
            rw [hg3, hg7] at HS9
            rw [hg7] at HZ9
            rw [hg3, hg7]
            clear hg3 hg7 hk1 hk2
            have HZ7 := HZ9.drew
            refine wp_region_held_drew (S := (DrS wF g3 g7 V A0 L zs)) (by kernel_rfl) HS9.drew (fun hH => ?_)
            refine wpAnyH_letter #[false, false, false, false] (by kernel_rfl) (fun _ _ d _ _ h => by cases d <;> exact h) (fun QL HQ1 HQ2 => ?_)
            refine held_row 0 (some 34) rfl (by kernel_rfl) (by kernel_rfl) (by kernel_rfl) (by kernel_rfl) (fun c a v w h => HQ2.out c a _ v w h) (by kernel_rfl) 28 (.tmp 6) rfl g3 (by kernel_rfl) 28 V (fun _ h => h.blk) _ Tryz.underlying28 rfl SV.out hH ?_
            try simp only [Act.put, List.setIfInBounds_toArray, List.set_cons_zero, List.set_cons_succ]
            refine held_v 1 (some 8) rfl (by kernel_rfl) (by kernel_rfl) (by kernel_rfl) (by kernel_rfl) (fun c a v w h => HQ2.out c a _ v w h) (by kernel_rfl) (.slice none 0 0) (fun W h => by kernel_rfl) hH ?_
            try simp only [Act.put, List.setIfInBounds_toArray, List.set_cons_zero, List.set_cons_succ]
            refine wpAnyH_ready (rs := [2]) (by kernel_rfl) (by decide) ?_
            refine AllReadyH.cons rfl (fun K hK => ?_) AllReadyH.nil
            refine step_store none (by kernel_rfl) (by kernel_rfl) 28 (.tmp 9) (.tmp 34) rfl g7 (by kernel_rfl) 28 Z V HZ7.1 (by kernel_rfl) ZV.out SV.out OV.out ?_
            intro w41 hkw41 hsw41 hbw41 how41
            have ex42 : Fx [.blk g7 28 V] w41 := ⟨hkw41.out, trivial⟩
            refine hK.out _ _ (hH.store HZ7.1 hH.store7 hsw41.out hbw41 how41) (fun hw41 => ?_)
            clear hK K
            try simp only [Act.put, List.setIfInBounds_toArray, List.set_cons_zero, List.set_cons_succ]
            refine held_v 3 (some 10) rfl (by kernel_rfl) (by kernel_rfl) (by kernel_rfl) (by kernel_rfl) (fun c a v w h => HQ2.out c a _ v w h) (by kernel_rfl) (.int .i64 1) (fun W h => by kernel_rfl) hw41 ?_
            try simp only [Act.put, List.setIfInBounds_toArray, List.set_cons_zero, List.set_cons_succ]
            refine wpAnyH_done (by kernel_rfl) ?_ _
            refine HQ1.out _ _ ?_
            clear HQ1 HQ2
            go_wp2_with (refine bodyPost_mid 8 9 10 28 rfl g7 rfl (.slice none 0 0) (.int .i64 1) rfl rfl 28 V ex42.1 _ Tryz.underlying28 rfl SV.out rfl ?_)
            exact HBAD.out wF HBF.out _ hw41.rd hw41.bel
        · have hr2 : rightS s = false := by
            cases hh : rightS s with
            | true => exact absurd hh hr
            | false => rfl
          rw [hr2] at HRT
          clear hb hrt hr hr2
          go_enter Tryz.func15, Tryz.ntmps15
          go_wp2_with (first
            | (with_reducible refine at_any ?_; refine at_dst 4 rfl ?_; refine wpList_box_any rfl 40 (.tmp 0) rfl #[.slice AF m c] rfl ?_; intro wF hkF hsF hbF; have G0 := Lib.hid (fx_start hkF.out HRF.out hbF); have HBF := Lib.hid hbF; have HRdF := Lib.hid ((hRd.out.below hbF).mono (Below.size hbF)); clear hkF hsF hbF)
            | (with_reducible refine at_any ?_; refine at_dst 6 rfl ?_; refine wpList_box_any rfl 28 (.tmp 2) rfl V rfl ?_; intro w1 hk1 hs1 hb1)
            | (with_reducible refine at_any ?_; refine at_dst 9 rfl ?_; refine wpList_alloc_any rfl 28 rfl Z HZ0.out ?_; intro w2 hk2 hs2 hb2; have HS2 := Lib.hid (DrS.mk2 HRdF.out hk1.out hb1 hk2.out hb2 (Below.refl _ _)); have HZ2 := Lib.hid (fx1 hk2.out); have G2 := Lib.hid (Fx.below (Fx.below G0.out hb1) hb2); clear G0 hs1 hb1 hs2 hb2)
            | (with_reducible refine at_any ?_; refine at_dst 22 rfl ?_; refine wpList_load_gdb (by kernel_rfl) 28 (.tmp 6) rfl wF.heap.size rfl 28 V HS2.out.blk _ Tryz.underlying28 rfl SV.out ?_)
            | (go_at_call 29; (with_reducible refine (HRT.out _).mono ?_); rintro e w3 ⟨rfl, hb3⟩; have HS3 := Lib.hid (DrS.below HS2.out hb3); have HZ3 := Lib.hid (Fx.below HZ2.out hb3); have G3 := Lib.hid (Fx.below G2.out hb3); clear hb3))
          obtain ⟨g3, hg3⟩ : ∃ g, wF.heap.size = g := ⟨_, rfl⟩
          obtain ⟨g7, hg7⟩ : ∃ g, w1.heap.size = g := ⟨_, rfl⟩
          have HS9 := HS3.out
          have HZ9 := HZ3.out
          rw [hg3, hg7] at HS9
          rw [hg7] at HZ9
          rw [hg3, hg7]
          clear hg3 hg7 hk1 hk2
          have HZ7 := HZ9.drew
          refine wp_region_held_drew (S := (DrS wF g3 g7 V A0 L zs)) (by kernel_rfl) HS9.drew (fun hH => ?_)
          refine wpAnyH_letter #[false, false, false, false] (by kernel_rfl) (fun _ _ d _ _ h => by cases d <;> exact h) (fun QL HQ1 HQ2 => ?_)
          refine held_row 0 (some 34) rfl (by kernel_rfl) (by kernel_rfl) (by kernel_rfl) (by kernel_rfl) (fun c a v w h => HQ2.out c a _ v w h) (by kernel_rfl) 28 (.tmp 6) rfl g3 (by kernel_rfl) 28 V (fun _ h => h.blk) _ Tryz.underlying28 rfl SV.out hH ?_
          try simp only [Act.put, List.setIfInBounds_toArray, List.set_cons_zero, List.set_cons_succ]
          refine held_v 1 (some 8) rfl (by kernel_rfl) (by kernel_rfl) (by kernel_rfl) (by kernel_rfl) (fun c a v w h => HQ2.out c a _ v w h) (by kernel_rfl) (.slice none 0 0) (fun W h => by kernel_rfl) hH ?_
          try simp only [Act.put, List.setIfInBounds_toArray, List.set_cons_zero, List.set_cons_succ]
          refine wpAnyH_ready (rs := [2]) (by kernel_rfl) (by decide) ?_
          refine AllReadyH.cons rfl (fun K hK => ?_) AllReadyH.nil
          refine step_store none (by kernel_rfl) (by kernel_rfl) 28 (.tmp 9) (.tmp 34) rfl g7 (by kernel_rfl) 28 Z V HZ7.1 (by kernel_rfl) ZV.out SV.out OV.out ?_
          intro w41 hkw41 hsw41 hbw41 how41
          have ex42 : Fx [.blk g7 28 V] w41 := ⟨hkw41.out, trivial⟩
          refine hK.out _ _ (hH.store HZ7.1 hH.store7 hsw41.out hbw41 how41) (fun hw41 => ?_)
          clear hK K
          try simp only [Act.put, List.setIfInBounds_toArray, List.set_cons_zero, List.set_cons_succ]
          refine held_v 3 (some 10) rfl (by kernel_rfl) (by kernel_rfl) (by kernel_rfl) (by kernel_rfl) (fun c a v w h => HQ2.out c a _ v w h) (by kernel_rfl) (.int .i64 1) (fun W h => by kernel_rfl) hw41 ?_
          try simp only [Act.put, List.setIfInBounds_toArray, List.set_cons_zero, List.set_cons_succ]
          refine wpAnyH_done (by kernel_rfl) ?_ _
          refine HQ1.out _ _ ?_
          clear HQ1 HQ2
          go_wp2_with (refine bodyPost_mid 8 9 10 28 rfl g7 rfl (.slice none 0 0) (.int .i64 1) rfl rfl 28 V ex42.1 _ Tryz.underlying28 rfl SV.out rfl ?_)
          exact HBAD.out wF HBF.out _ hw41.rd hw41.bel
set_option maxHeartbeats 16000000 in
theorem q17list_c (l : List Int) (hz : ∀ z ∈ l, 0 ≤ z ∧ z < 18446744073709551616) (AL : Option Addr) (n c : Nat) (hn : n ≤ 1000000) (Ci : Int) (C0 : -9223372036854775808 ≤ Ci) (C1 : Ci < 9223372036854775808) (s : Src) (ok : s.Ok) (a : Int) (a0 : -9223372036854775808 ≤ a) (a1 : a < 9223372036854775808) (A0 : Option Addr) (c0 : Nat) (hc : s.tape.length ≤ c0) (hcm : c0 ≤ maxLen) (w : World) (hrl : Rd .u64 w w.heap.size AL n l) (hrd : Rd .u8 w w.heap.size A0 s.tape.length s.tape) (hkst : Kst w) :
    Calls Tryz.prog 10 #[.int .i64 Ci, .agg (srcV s A0 c0), .int .i64 a, .slice AL n c] w (RetComm w s A0 (comL l Ci s a)) := by
  have HKS := Lib.hid hkst
  have HZ0 := Lib.hid zero_src
  have HRL := Lib.hid hrl
  have hlen := hrl.len
  have hz0 : ∀ z ∈ l, 0 ≤ z := fun z h => (hz z h).1
  have HZSS := Lib.hid (fun (t : Src) (h : t.seed.length = 32) A c => srcV_same Src.zero t rfl h none A 0 c)
  have hbu := fun W hW h => q11build_c l hz AL n c (by unfold maxLen; omega) W hW h
  obtain ⟨okt, htt⟩ := comR_srcF l Ci s a ok
  obtain ⟨Z, hZ⟩ : ∃ Z, srcV Src.zero none 0 = Z := ⟨_, rfl⟩
  rw [hZ] at HZ0 HZSS
  have SV := Lib.hid (sizedS s ok.sl A0 c0)
  have OV := Lib.hid (srcV_ones s A0 c0)
  have ZV := Lib.hid (HZSS.out s ok.sl A0 c0)
  have HBAD0 : Hid (∀ (w' : World), RdP A0 s.tape.length s.tape w' → Below w.heap.size w w' → RetComm w s A0 ([], s, 11) (.returned (.tuple #[.slice none 0 0, .agg (srcV s A0 c0), .int .i64 11])) w') := Lib.hid (fun w' h1 h2 => ⟨A0, c0, none, 0, rfl, rd_nil _ _ _ _, Nat.le_refl _, by simp [maxLen], Frs.none w, h1, hc, hcm, .inl rfl, h2⟩)
  by_cases hs : sumL l < 9223372036854775808
  · have hR : comL l Ci s a = comR l Ci s a := if_pos hs
    rw [hR]
    have e := bldE_ok (l := l) (by omega) hs
    have HBU := Lib.hid (fun W hW h => calls_fen (hbu W hW h) e.2 e.1 ((treeL_len l).trans hlen))
    have hdr := fun AF cF (h1 : n ≤ cF) (h2 : cF ≤ maxLen) W hf hr hk => q17draw_c l hz0 hs (by omega) AF n cF hlen h1 h2 Ci C0 C1 s ok a a0 a1 A0 c0 hc hcm W hf hr hk
    obtain ⟨ts, hts⟩ : ∃ x, treeL l = x := ⟨_, rfl⟩
    rw [hts] at HBU hdr
    unfold RetComm at hdr
    obtain ⟨V, hV⟩ : ∃ V, srcV s A0 c0 = V := ⟨_, rfl⟩
    rw [hV] at SV OV ZV hdr ⊢
    obtain ⟨zs, hzs⟩ : ∃ zs, s.tape = zs := ⟨_, rfl⟩
    obtain ⟨L, hL⟩ : ∃ L, zs.length = L := ⟨_, rfl⟩
    have HZS := Lib.hid hzs
    have HLZ := Lib.hid hL
    rw [hzs, hL] at hrd hdr
    have hRd := Lib.hid hrd
    obtain ⟨rr, hrr⟩ : ∃ r, comR l Ci s a = r := ⟨_, rfl⟩
    rw [hrr] at hdr okt htt ⊢
    obtain ⟨os, t, E⟩ := rr
    simp only at hdr okt htt
    obtain ⟨k1, hk1e⟩ : ∃ x, os.length = x := ⟨_, rfl⟩
    rw [hk1e] at hdr
    have HK1 := Lib.hid hk1e
    have HDR := Lib.hid hdr
    have ST := Lib.hid (fun A c => sizedS t okt.sl A c)
    have OT := Lib.hid (fun A c => srcV_ones t A c)
    have ZT := Lib.hid (fun A c => HZSS.out t okt.sl A c)
    clear hz hz0 hZ ok hc hcm hV hrl hrd hzs hL hs hR hrr hbu hdr okt htt HBAD0 C0 C1 a0 a1 hn hk1e hlen hkst e hts
    go_enter Tryz.func10, Tryz.ntmps10
    go_wp2_with (first
      | (with_reducible refine at_any ?_; refine at_dst 5 rfl ?_; refine wpList_box_any rfl 28 (.tmp 1) rfl V rfl ?_; intro w1 hk1 hs1 hb1)
      | (with_reducible refine at_any ?_; refine at_dst 9 rfl ?_; refine wpList_alloc_any rfl 28 rfl Z HZ0.out ?_; intro w2 hk2 hs2 hb2; have HS2 := Lib.hid (DrS.mk2 hRd.out hk1.out hb1 hk2.out hb2 (Below.refl _ _)); have HZ2 := Lib.hid (fx1 hk2.out); clear hs1 hb1 hs2 hb2)
      | (go_at_call 26; (with_reducible refine (HBU.out _ (Kst.tz (HKS.out.below HS2.out.bel)) (HR1 HRL.out HS2.out.bel)).mono ?_); rintro e w3 ⟨AF, cF, rfl, hrF, hlF, hmF, hb3⟩; have HS3 := Lib.hid (DrS.below HS2.out hb3); have HZ3 := Lib.hid (Fx.below HZ2.out hb3); have G3 := Lib.hid (fx_rdb hrF); have LF := Lib.hid hlF; have MF := Lib.hid hmF; clear hb3 HS2 HZ2 hrF hlF hmF)
      | (with_reducible refine at_any ?_; refine at_dst 11 rfl ?_; refine wpList_alloc_any rfl 40 rfl #[.slice none 0 0] zero_fen ?_; intro w4 hk4 hs4 hb4; have HS4 := Lib.hid (DrS.below HS3.out hb4); have HZ4 := Lib.hid (Fx.below HZ3.out hb4); have G4 := Lib.hid (Fx.below G3.out hb4); have L4 := Lib.hid (list_ne (Z := Z) HS3.out hk4.out); clear hs4 hb4 G3)
      | (with_reducible refine at_any ?_; refine at_store 11 rfl ?_; refine wpList_store_any rfl 40 (.tmp 11) (.tmp 16) rfl w3.heap.size rfl 40 #[.slice none 0 0] #[.slice AF n cF] hk4.out rfl (size1 _ _) (sizedF _) (fen_ones _ _ _) ?_; intro w5 hk5 hs5 hb5 ho5; have HS := Lib.hid (DrS.store HS4.out hk4.out L4.out.1 hs5.out hb5 ho5); have HZ := Lib.hid (Fx.store HZ4.out hk4.out L4.out.2 hs5.out hb5 ho5); have G5 := Lib.hid (fx_list G4.out hk4.out hk5.out hs5.out hb5 ho5); clear HS3 HZ3 HS4 HZ4 G4 hk4 hk5 hs5 hb5 ho5 L4)
      | (with_reducible refine at_any ?_; refine at_dst 22 rfl ?_; refine wpList_load_fen (by kernel_rfl) (.tmp 11) rfl w3.heap.size rfl 40 (.slice AF n cF) (Fx.b0 G5.out) ?_)
      | (with_reducible refine at_any ?_; refine at_dst 24 rfl ?_; refine wpList_load_blk rfl 28 (.tmp 5) rfl w.heap.size rfl 28 V HS.out.blk _ Tryz.underlying28 rfl SV.out ?_)
      | (go_at_call 15; (with_reducible refine (HDR.out _ _ LF.out MF.out _ (Fx.r1 G5.out) HS.out.rd.rd (HKS.out.below HS.out.bel)).mono ?_); rintro e w6 ⟨A2, c2, AM, cM, rfl, hrm, hlm, hmm, hfm, hrd2, hc2, hm2, hsp2, hb6⟩; obtain ⟨V2, hV2⟩ : ∃ V2, srcV t A2 c2 = V2 := ⟨_, rfl⟩; have SV2 := Lib.hid (ST.out A2 c2); have OV2 := Lib.hid (OT.out A2 c2); have ZV2 := Lib.hid (ZT.out A2 c2); have HV2 := Lib.hid hV2; have HZ6 := Lib.hid (Fx.below HZ.out hb6); have HB6 := Lib.hid (HS.out.bel.trans (hb6.mono HS.out.bel.size)); have HA2 := Lib.hid (Apt.of_sep hsp2 HS.out.apt7 HS.out.lt7); have HL7 := Lib.hid HS.out.le7; have HSP := Lib.hid (sep_from hsp2 HS.out.bel.size); have HC2 := Lib.hid hc2; have HM2 := Lib.hid hm2; have HRD2 := Lib.hid (rdp_ofF hrd2); have HAM := Lib.hid (Frs.apt (n := k1) hfm HS.out.lt7); have HFM := Lib.hid (Frs.from hfm HS.out.bel.size); have HRM := Lib.hid hrm; have HLM := Lib.hid hlm; have HMM := Lib.hid hmm; rw [hV2] at SV2 OV2 ZV2 ⊢; clear hV2 hc2 hm2 hsp2 hb6 hrd2 hfm hrm hlm hmm)
      | (with_reducible refine at_any ?_; refine at_store 9 rfl ?_; refine wpList_store_any rfl 28 (.tmp 9) (.tmp 28) rfl w1.heap.size rfl 28 Z V2 (Fx.b0 HZ6.out) rfl ZV2.out SV2.out OV2.out ?_; intro w7 hk7 hs7 hb7 ho7; have HR7 := Lib.hid (RdP.store HRD2.out (Fx.b0 HZ6.out) HA2.out hs7.out hb7 ho7); have HM7 := Lib.hid (rdi_storeF HRM.out (Fx.b0 HZ6.out) HAM.out hs7.out ho7); have HB7 := Lib.hid (HB6.out.trans (hb7 _ HL7.out)); have HK7 := Lib.hid hk7.out; clear hk7 hs7 hb7 ho7)
      | (refine bodyPost_mid 8 9 10 28 rfl w1.heap.size rfl (.slice AM k1 cM) (.int .i64 E) rfl rfl 28 V2 HK7.out _ Tryz.underlying28 rfl SV2.out rfl ?_))
    exact com_retF rfl HV2.out HSP.out HC2.out HM2.out HR7.out HB7.out ⟨HK1.out, HM7.out, HLM.out, HMM.out, HFM.out⟩ HZS.out HLZ.out
  · have hR : comL l Ci s a = ([], s, 11) := if_neg hs
    rw [hR]
    have e := bldE_big (l := l) (by omega) hs
    have HBU := Lib.hid (fun W hW h => calls_fen (hbu W hW h) e.2 e.1 (n := 0) rfl)
    obtain ⟨V, hV⟩ : ∃ V, srcV s A0 c0 = V := ⟨_, rfl⟩
    rw [hV] at SV OV ZV HBAD0 ⊢
    obtain ⟨zs, hzs⟩ : ∃ zs, s.tape = zs := ⟨_, rfl⟩
    obtain ⟨L, hL⟩ : ∃ L, zs.length = L := ⟨_, rfl⟩
    rw [hzs, hL] at hrd HBAD0
    have hRd := Lib.hid hrd
    have HBAD := HBAD0
    clear HBAD0 hz hz0 hZ ok hc hcm hV hrl hrd hzs hL hs hR hbu okt htt C0 C1 a0 a1 hn hlen hkst e HZSS
    go_enter Tryz.func10, Tryz.ntmps10
    go_wp2_with (first
      | (with_reducible refine at_any ?_; refine at_dst 5 rfl ?_; refine wpList_box_any rfl 28 (.tmp 1) rfl V rfl ?_; intro w1 hk1 hs1 hb1)
      | (with_reducible refine at_any ?_; refine at_dst 9 rfl ?_; refine wpList_alloc_any rfl 28 rfl Z HZ0.out ?_; intro w2 hk2 hs2 hb2; have HS2 := Lib.hid (DrS.mk2 hRd.out hk1.out hb1 hk2.out hb2 (Below.refl _ _)); have HZ2 := Lib.hid (fx1 hk2.out); clear hs1 hb1 hs2 hb2)
      | (go_at_call 26; (with_reducible refine (HBU.out _ (Kst.tz (HKS.out.below HS2.out.bel)) (HR1 HRL.out HS2.out.bel)).mono ?_); rintro e w3 ⟨AF, cF, rfl, hrF, hlF, hmF, hb3⟩; have HS3 := Lib.hid (DrS.below HS2.out hb3); have HZ3 := Lib.hid (Fx.below HZ2.out hb3); have G3 := Lib.hid (fx_rdb hrF); have LF := Lib.hid hlF; have MF := Lib.hid hmF; clear hb3 HS2 HZ2 hrF hlF hmF)
      | (with_reducible refine at_any ?_; refine at_dst 11 rfl ?_; refine wpList_alloc_any rfl 40 rfl #[.slice none 0 0] zero_fen ?_; intro w4 hk4 hs4 hb4; have HS4 := Lib.hid (DrS.below HS3.out hb4); have HZ4 := Lib.hid (Fx.below HZ3.out hb4); have G4 := Lib.hid (Fx.below G3.out hb4); have L4 := Lib.hid (list_ne (Z := Z) HS3.out hk4.out); clear hs4 hb4 G3)
      | (with_reducible refine at_any ?_; refine at_store 11 rfl ?_; refine wpList_store_any rfl 40 (.tmp 11) (.tmp 16) rfl w3.heap.size rfl 40 #[.slice none 0 0] #[.slice AF 0 cF] hk4.out rfl (size1 _ _) (sizedF _) (fen_ones _ _ _) ?_; intro w5 hk5 hs5 hb5 ho5; have HS := Lib.hid (DrS.store HS4.out hk4.out L4.out.1 hs5.out hb5 ho5); have HZ := Lib.hid (Fx.store HZ4.out hk4.out L4.out.2 hs5.out hb5 ho5); have G5 := Lib.hid (fx_list G4.out hk4.out hk5.out hs5.out hb5 ho5); clear HS3 HZ3 HS4 HZ4 G4 hk4 hk5 hs5 hb5 ho5 L4))
    obtain ⟨g3, hg3⟩ : ∃ g, w.heap.size = g := ⟨_, rfl⟩
    obtain ⟨g7, hg7⟩ : ∃ g, w1.heap.size = g := ⟨_, rfl⟩
    have HS9 := HS.out
    have HZ9 := HZ.out
    rw [hg3, hg7] at HS9
    rw [hg7] at HZ9
    rw [hg3, hg7]
    clear hg3 hg7 hk1 hk2 HS HZ
    have HZ7 := HZ9.drew
    refine wp_region_held_drew (S := (DrS w g3 g7 V A0 L zs)) (by kernel_rfl) HS9.drew (fun hH => ?_)
    refine wpAnyH_letter #[false, false, false, false, false] (by kernel_rfl) (fun _ _ d _ _ h => by cases d <;> exact h) (fun QL HQ1 HQ2 => ?_)
    refine held_row 0 (some 20) rfl (by kernel_rfl) (by kernel_rfl) (by kernel_rfl) (by kernel_rfl) (fun c a v w h => HQ2.out c a _ v w h) (by kernel_rfl) 28 (.tmp 5) rfl g3 (by kernel_rfl) 28 V (fun _ h => h.blk) _ Tryz.underlying28 rfl SV.out hH ?_
    try simp only [Act.put, List.setIfInBounds_toArray, List.set_cons_zero, List.set_cons_succ]
    refine held_v 1 (some 21) rfl (by kernel_rfl) (by kernel_rfl) (by kernel_rfl) (by kernel_rfl) (fun c a v w h => HQ2.out c a _ v w h) (by kernel_rfl) (.int .i64 11) (fun W h => by kernel_rfl) hH ?_
    try simp only [Act.put, List.setIfInBounds_toArray, List.set_cons_zero, List.set_cons_succ]
    refine held_v 2 (some 8) rfl (by kernel_rfl) (by kernel_rfl) (by kernel_rfl) (by kernel_rfl) (fun c a v w h => HQ2.out c a _ v w h) (by kernel_rfl) (.slice none 0 0) (fun W h => by kernel_rfl) hH ?_
    try simp only [Act.put, List.setIfInBounds_toArray, List.set_cons_zero, List.set_cons_succ]
    refine wpAnyH_ready (rs := [3]) (by kernel_rfl) (by decide) ?_
    refine AllReadyH.cons rfl (fun K hK => ?_) AllReadyH.nil
    refine step_store none (by kernel_rfl) (by kernel_rfl) 28 (.tmp 9) (.tmp 20) rfl g7 (by kernel_rfl) 28 Z V HZ7.1 (by kernel_rfl) ZV.out SV.out OV.out ?_
    intro w41 hkw41 hsw41 hbw41 how41
    have ex42 : Fx [.blk g7 28 V] w41 := ⟨hkw41.out, trivial⟩
    refine hK.out _ _ (hH.store HZ7.1 hH.store7 hsw41.out hbw41 how41) (fun hw41 => ?_)
    clear hK K
    try simp only [Act.put, List.setIfInBounds_toArray, List.set_cons_zero, List.set_cons_succ]
    refine held_v 4 (some 10) rfl (by kernel_rfl) (by kernel_rfl) (by kernel_rfl) (by kernel_rfl) (fun c a v w h => HQ2.out c a _ v w h) (by kernel_rfl) (.int .i64 11) (fun W h => by kernel_rfl) hw41 ?_
    try simp only [Act.put, List.setIfInBounds_toArray, List.set_cons_zero, List.set_cons_succ]
    refine wpAnyH_done (by kernel_rfl) ?_ _
    refine HQ1.out _ _ ?_
    clear HQ1 HQ2
    go_wp2_with (refine bodyPost_mid 8 9 10 28 rfl g7 rfl (.slice none 0 0) (.int .i64 11) rfl rfl 28 V ex42.1 _ Tryz.underlying28 rfl SV.out rfl ?_)
    exact HBAD.out _ hw41.rd hw41.bel
end
section
open Go.ChangeShapes Go.WideShapes Go.ChangeAt Go.RowKit
theorem tapeOf_okC (zs : List Int) (hl : zs.length ≤ 1000) (hz : ∀ z ∈ zs, 0 ≤ z ∧ z < 256) (b : Int) (b0 : 0 ≤ b) (b1 : b < 18446744073709551616) : (Src.tapeOf zs b).Ok :=
  ⟨(by show (-9223372036854775808 : Int) ≤ 1; omega), (by show (1 : Int) < 9223372036854775808; omega), (by show zs.length ≤ _; omega), hz, b0, b1, rfl, (fun z h => by obtain ⟨_, rfl⟩ := List.mem_replicate.1 h; exact ⟨by omega, by omega⟩), Int.le_refl _, (by show (0 : Int) < 18446744073709551616; omega), Int.le_refl _, (by show (0 : Int) < 18446744073709551616; omega)⟩
set_option maxHeartbeats 8000000 in
theorem alive17_c (w : World) (hkst : Kst w) : Calls Tryz.prog 8 #[] w fun e w' => e = .returned (.bool true) ∧ Below w.heap.size w w' := by
  have ok1 := tapeOf_okC [128] (by simp) (by decide) 8 (by omega) (by omega)
  have hTP : ∀ A W, Rd .u8 W W.heap.size A 1 [128] → Calls Tryz.prog 23 #[.slice A 1 1, .int .u64 8] W (fun e w' => ∃ A' c', e = .returned (.tuple #[.agg (srcV (Src.tapeOf [128] 8) A' c'), .int .i64 0]) ∧ Rd .u8 w' w'.heap.size A' 1 [128] ∧ 1 ≤ c' ∧ c' ≤ maxLen ∧ Below W.heap.size W w') := fun A W h => rstape_c [128] (by simp) 8 (by omega) (by omega) A 1 1 W h (Nat.le_refl _)
  have hTR := fun A c W h => calls_tree (r11tree_c [1, 0, 1] (by decide) (by decide) A 3 c (by omega) W h) (n := 3) rfl
  have hd1 : ∀ AF c, 3 ≤ c → c ≤ maxLen → ∀ A c0, 1 ≤ c0 → c0 ≤ maxLen → ∀ W, Rd .u64 W W.heap.size AF 3 (treeL [1, 0, 1]) → Rd .u8 W W.heap.size A 1 [128] → Kst W → Calls Tryz.prog 15 #[.agg #[.slice AF 3 c], .int .i64 2, .agg (srcV (Src.tapeOf [128] 8) A c0), .int .i64 1] W (fun e w' => ∃ A' c' AM cM, e = .returned (.tuple #[.slice AM 2 cM, .agg (srcV ((Src.tapeOf [128] 8).to 1) A' c'), .int .i64 0]) ∧ Rd .i64 w' w'.heap.size AM 2 [2, 0] ∧ 2 ≤ cM ∧ cM ≤ maxLen ∧ Frs W AM ∧ Rd .u8 w' w'.heap.size A' 1 [128] ∧ 1 ≤ c' ∧ c' ≤ maxLen ∧ Sep W A A' ∧ Below W.heap.size W w') := fun AF c g1 g2 A c0 h1 h2 W h0 h3 h4 => by
    have h := q17draw_c [1, 0, 1] (by decide) (by decide) (by decide) AF 3 c rfl g1 g2 2 (by omega) (by omega) (Src.tapeOf [128] 8) ok1 1 (by omega) (by omega) A c0 h1 h2 W h0 h3 h4
    unfold RetComm at h
    rw [show comR [1, 0, 1] 2 (Src.tapeOf [128] 8) 1 = ([2, 0], ((Src.tapeOf [128] 8).to 1), 0) by kernel_rfl] at h
    exact h
  have hd2 : ∀ AF c, 3 ≤ c → c ≤ maxLen → ∀ A c0, 1 ≤ c0 → c0 ≤ maxLen → ∀ W, Rd .u64 W W.heap.size AF 3 (treeL [1, 0, 1]) → Rd .u8 W W.heap.size A 1 [128] → Kst W → Calls Tryz.prog 15 #[.agg #[.slice AF 3 c], .int .i64 3, .agg (srcV (Src.tapeOf [128] 8) A c0), .int .i64 1] W (fun e w' => ∃ A' c' AM cM, e = .returned (.tuple #[.slice AM 0 cM, .agg (srcV (Src.tapeOf [128] 8) A' c'), .int .i64 12]) ∧ Rd .i64 w' w'.heap.size AM 0 [] ∧ 0 ≤ cM ∧ cM ≤ maxLen ∧ Frs W AM ∧ Rd .u8 w' w'.heap.size A' 1 [128] ∧ 1 ≤ c' ∧ c' ≤ maxLen ∧ Sep W A A' ∧ Below W.heap.size W w') := fun AF c g1 g2 A c0 h1 h2 W h0 h3 h4 => by
    have h := q17draw_c [1, 0, 1] (by decide) (by decide) (by decide) AF 3 c rfl g1 g2 3 (by omega) (by omega) (Src.tapeOf [128] 8) ok1 1 (by omega) (by omega) A c0 h1 h2 W h0 h3 h4
    unfold RetComm at h
    rw [show comR [1, 0, 1] 3 (Src.tapeOf [128] 8) 1 = ([], (Src.tapeOf [128] 8), 12) by kernel_rfl] at h
    exact h
  have hd3 : ∀ AF c, 3 ≤ c → c ≤ maxLen → ∀ A c0, 1 ≤ c0 → c0 ≤ maxLen → ∀ W, Rd .u64 W W.heap.size AF 3 (treeL [1, 0, 1]) → Rd .u8 W W.heap.size A 1 [128] → Kst W → Calls Tryz.prog 15 #[.agg #[.slice AF 3 c], .int .i64 257, .agg (srcV (Src.tapeOf [128] 8) A c0), .int .i64 1] W (fun e w' => ∃ A' c' AM cM, e = .returned (.tuple #[.slice AM 0 cM, .agg (srcV (Src.tapeOf [128] 8) A' c'), .int .i64 1]) ∧ Rd .i64 w' w'.heap.size AM 0 [] ∧ 0 ≤ cM ∧ cM ≤ maxLen ∧ Frs W AM ∧ Rd .u8 w' w'.heap.size A' 1 [128] ∧ 1 ≤ c' ∧ c' ≤ maxLen ∧ Sep W A A' ∧ Below W.heap.size W w') := fun AF c g1 g2 A c0 h1 h2 W h0 h3 h4 => by
    have h := q17draw_c [1, 0, 1] (by decide) (by decide) (by decide) AF 3 c rfl g1 g2 257 (by omega) (by omega) (Src.tapeOf [128] 8) ok1 1 (by omega) (by omega) A c0 h1 h2 W h0 h3 h4
    unfold RetComm at h
    rw [show comR [1, 0, 1] 257 (Src.tapeOf [128] 8) 1 = ([], (Src.tapeOf [128] 8), 1) by kernel_rfl] at h
    exact h
  have hd4 : ∀ AF c, 3 ≤ c → c ≤ maxLen → ∀ A c0, 1 ≤ c0 → c0 ≤ maxLen → ∀ W, Rd .u64 W W.heap.size AF 3 (treeL [1, 0, 1]) → Rd .u8 W W.heap.size A 1 [128] → Kst W → Calls Tryz.prog 15 #[.agg #[.slice AF 3 c], .int .i64 0, .agg (srcV (Src.tapeOf [128] 8) A c0), .int .i64 1] W (fun e w' => ∃ A' c' AM cM, e = .returned (.tuple #[.slice AM 0 cM, .agg (srcV (Src.tapeOf [128] 8) A' c'), .int .i64 0]) ∧ Rd .i64 w' w'.heap.size AM 0 [] ∧ 0 ≤ cM ∧ cM ≤ maxLen ∧ Frs W AM ∧ Rd .u8 w' w'.heap.size A' 1 [128] ∧ 1 ≤ c' ∧ c' ≤ maxLen ∧ Sep W A A' ∧ Below W.heap.size W w') := fun AF c g1 g2 A c0 h1 h2 W h0 h3 h4 => by
    have h := q17draw_c [1, 0, 1] (by decide) (by decide) (by decide) AF 3 c rfl g1 g2 0 (by omega) (by omega) (Src.tapeOf [128] 8) ok1 1 (by omega) (by omega) A c0 h1 h2 W h0 h3 h4
    unfold RetComm at h
    rw [show comR [1, 0, 1] 0 (Src.tapeOf [128] 8) 1 = ([], (Src.tapeOf [128] 8), 0) by kernel_rfl] at h
    exact h
  have hl1 : ∀ AL c, ∀ A c0, 1 ≤ c0 → c0 ≤ maxLen → ∀ W, Rd .u64 W W.heap.size AL 3 [1, 0, 1] → Rd .u8 W W.heap.size A 1 [128] → Kst W → Calls Tryz.prog 10 #[.int .i64 2, .agg (srcV (Src.tapeOf [128] 8) A c0), .int .i64 1, .slice AL 3 c] W (fun e w' => ∃ A' c' AM cM, e = .returned (.tuple #[.slice AM 2 cM, .agg (srcV ((Src.tapeOf [128] 8).to 1) A' c'), .int .i64 0]) ∧ Rd .i64 w' w'.heap.size AM 2 [2, 0] ∧ 2 ≤ cM ∧ cM ≤ maxLen ∧ Frs W AM ∧ Rd .u8 w' w'.heap.size A' 1 [128] ∧ 1 ≤ c' ∧ c' ≤ maxLen ∧ Sep W A A' ∧ Below W.heap.size W w') := fun AL c A c0 h1 h2 W h0 h3 h4 => by
    have h := q17list_c [1, 0, 1] (by decide) AL 3 c (by decide) 2 (by omega) (by omega) (Src.tapeOf [128] 8) ok1 1 (by omega) (by omega) A c0 h1 h2 W h0 h3 h4
    unfold RetComm at h
    rw [show comL [1, 0, 1] 2 (Src.tapeOf [128] 8) 1 = ([2, 0], (Src.tapeOf [128] 8).to 1, 0) by kernel_rfl] at h
    exact h
  have hw1 := fun AM d AL c (W : World) (h1 : Rd .i64 W W.heap.size AM 2 [2, 0]) (h2 : Rd .u64 W W.heap.size AL 3 [1, 0, 1]) (h3 : Kst W) (h4 : 2 ≤ d) (h5 : d ≤ maxLen) => q17ways_c [2, 0] (by decide) AM 2 d h4 h5 3 1 (by omega) (by omega) (by omega) (by omega) [1, 0, 1] (by decide) AL 3 c (by omega) W h1 h2
  rw [show wayR [2, 0] 3 1 [1, 0, 1] = (0, [4]) from (by show ((0 : Int), natL (wayN 1 [2, 0] [1, 0, 1] 3)) = _; rw [show wayN 1 [2, 0] [1, 0, 1] 3 = 4 by decide +kernel, natL_pos (by decide), show 4 / 4294967296 = 0 by decide, natL_zero]; rfl)] at hw1
  unfold RetNE at hw1
  dsimp only [List.length_cons, List.length_nil] at hw1
  have hw2 := fun AM d AL c (W : World) (h1 : Rd .i64 W W.heap.size AM 2 [0, 0]) (h2 : Rd .u64 W W.heap.size AL 3 [1, 0, 1]) (h3 : Kst W) (h4 : 2 ≤ d) (h5 : d ≤ maxLen) => q17ways_c [0, 0] (by decide) AM 2 d h4 h5 3 1 (by omega) (by omega) (by omega) (by omega) [1, 0, 1] (by decide) AL 3 c (by omega) W h1 h2
  rw [show wayR [0, 0] 3 1 [1, 0, 1] = (0, []) from (by show ((0 : Int), natL (wayN 1 [0, 0] [1, 0, 1] 3)) = _; rw [show wayN 1 [0, 0] [1, 0, 1] 3 = 0 by decide +kernel, natL_zero])] at hw2
  unfold RetNE at hw2
  dsimp only [List.length_cons, List.length_nil] at hw2
  have hs1 := fun A B c d (W : World) (h1 : Rd .i64 W W.heap.size A 2 [2, 0]) (h2 : Rd .i64 W W.heap.size B 2 [2, 0]) => r17same_c [2, 0] [2, 0] A B 2 2 c d (by simp [maxLen]) (by simp [maxLen]) W h1 h2
  rw [decide_eq_true (show ([2, 0] : List Int) = [2, 0] from rfl)] at hs1
  have hs2 := fun A B c d (W : World) (h1 : Rd .u32 W W.heap.size A 1 [4]) (h2 : Rd .u32 W W.heap.size B 1 [4]) => r10same_c [4] [4] A B 1 1 c d (by simp [maxLen]) (by simp [maxLen]) W h1 h2
  rw [decide_eq_true (show ([4] : List Int) = [4] from rfl)] at hs2
  have hc1 := fun (W : World) (g : Nat) A c (h : Blk W g 28 (srcV ((Src.tapeOf [128] 8).to 1) A c)) => (h.cell 36).trans (srcV_at ((Src.tapeOf [128] 8).to 1) rfl A c)
  rw [show ((Src.tapeOf [128] 8).to 1).at_ = 1 from rfl] at hc1
  have hc2 := fun (W : World) (g : Nat) A c (h : Blk W g 28 (srcV (Src.tapeOf [128] 8) A c)) => (h.cell 36).trans (srcV_at (Src.tapeOf [128] 8) rfl A c)
  rw [show (Src.tapeOf [128] 8).at_ = 0 from rfl] at hc2
  have hl0 : (Src.tapeOf [128] 8).seed.length = 32 := rfl
  have hm1 : ((Src.tapeOf [128] 8).to 1).seed.length = 32 := rfl
  have HZZ := Lib.hid (fun (s : Src) (h : s.seed.length = 32) (A : Option Addr) (c : Nat) => srcV_same Src.zero s rfl h none A 0 c)
  have HZ0 := Lib.hid zero_src
  obtain ⟨T1, hT1'⟩ : ∃ S, (Src.tapeOf [128] 8).to 1 = S := ⟨_, rfl⟩
  rw [hT1'] at hd1 hl1 hc1 hm1
  obtain ⟨S1, hS1⟩ : ∃ S, Src.tapeOf [128] 8 = S := ⟨_, rfl⟩
  rw [hS1] at hTP hd1 hd2 hd3 hd4 hl1 hc2 hl0
  obtain ⟨Z, hZ⟩ : ∃ Z, srcV Src.zero none 0 = Z := ⟨_, rfl⟩
  rw [hZ] at HZ0 HZZ
  obtain ⟨TF, hTF⟩ : ∃ x, treeL [1, 0, 1] = x := ⟨_, rfl⟩
  rw [hTF] at hd1 hd2 hd3 hd4 hTR
  have HLS1 := Lib.hid hl0
  have HLT1 := Lib.hid hm1
  have HTP := Lib.hid hTP
  have HTR := Lib.hid hTR
  have HD1 := Lib.hid hd1
  have HD2 := Lib.hid hd2
  have HD3 := Lib.hid hd3
  have HD4 := Lib.hid hd4
  have HL1 := Lib.hid hl1
  have HW1 := Lib.hid hw1
  have HW2 := Lib.hid hw2
  have HS1 := Lib.hid hs1
  have HS2 := Lib.hid hs2
  have HC1 := Lib.hid hc1
  have HC2 := Lib.hid hc2
  have HKS := Lib.hid hkst
  have G0 := Lib.hid (Fx.bel0 w)
  clear ok1 hTP hTR hd1 hd2 hd3 hd4 hl1 hw1 hw2 hs1 hs2 hc1 hc2 hl0 hm1 hT1' hS1 hZ hTF hkst
  go_enter Tryz.func8, Tryz.ntmps8
  go_wp2_with (first
    | (go_at_call 23; (with_reducible refine (HTP.out _ _ (Rd.fit (rd_one _ _ _ _))).mono ?_); rintro e w1 ⟨A1, c1, rfl, hrw1, hlw1, hmw1, hbw1⟩; have lc1 := Lib.hid hlw1; have mc1 := Lib.hid hmw1; have G2 := Lib.hid (Fx.addR (Fx.alloc G0.out _) hbw1 hrw1); clear G0; clear hrw1 hbw1 hlw1 hmw1)
    | (with_reducible refine at_any ?_; refine at_dst 1 rfl ?_; refine wpList_alloc_any rfl 28 rfl Z HZ0.out ?_; intro w3 hkw3 hsw3 hbw3; have U4 := Lib.hid (Fx.under_new G2.out rfl); have G5 := Lib.hid (Fx.newB G2.out hkw3.out hbw3); clear G2; clear hkw3 hsw3 hbw3)
    | (with_reducible refine at_any ?_; refine at_store 1 rfl ?_; refine wpList_store_any rfl 28 (.tmp 1) (.tmp 26) rfl w1.heap.size rfl 28 Z (srcV S1 A1 c1) (Fx.b0 G5.out) rfl (HZZ.out S1 HLS1.out _ _) (sizedS S1 HLS1.out _ _) (srcV_ones _ _ _) ?_; intro w6 hkw6 hsw6 hbw6 how6; have G7 := Lib.hid (Fx.put1B G5.out U4.out hkw6.out hsw6.out hbw6 how6); clear G5; clear hkw6 hsw6 hbw6 how6)
    | (with_reducible refine at_any ?_; refine at_dst 28 rfl ?_; refine wpList_build3 (by kernel_rfl) (.const (.int .u64 1)) (.const (.int .u64 0)) (.const (.int .u64 1)) rfl 1 0 1 rfl rfl rfl ?_; intro gl9 w8 hrw8 hbw8; have G10 := Lib.hid (Fx.addR G7.out hbw8 hrw8); clear G7; clear hrw8 hbw8)
    | (go_at_call 18; (with_reducible refine (HTR.out _ _ _ (Fx.r0 G10.out)).mono ?_); rintro e w11 ⟨A12, c13, rfl, hrw11, hlw11, hmw11, hbw11⟩; have lc13 := Lib.hid hlw11; have mc13 := Lib.hid hmw11; have G14 := Lib.hid (Fx.addR G10.out hbw11 hrw11); clear G10; clear hrw11 hbw11 hlw11 hmw11)
    | (with_reducible refine at_any ?_; refine at_dst 3 rfl ?_; refine wpList_alloc_any rfl 40 rfl #[.slice none 0 0] zero_fen ?_; intro w15 hkw15 hsw15 hbw15; have U16 := Lib.hid (Fx.under_new G14.out rfl); have G17 := Lib.hid (Fx.newB G14.out hkw15.out hbw15); clear G14; clear hkw15 hsw15 hbw15)
    | (with_reducible refine at_any ?_; refine at_store 3 rfl ?_; refine wpList_store_any rfl 40 (.tmp 3) (.tmp 29) rfl w11.heap.size rfl 40 #[.slice none 0 0] (#[.slice A12 3 c13]) (Fx.b0 G17.out) rfl (size1 _ _) (sizedF _) (fen_ones _ _ _) ?_; intro w18 hkw18 hsw18 hbw18 how18; have G19 := Lib.hid (Fx.put1B G17.out U16.out hkw18.out hsw18.out hbw18 how18); clear G17; clear hkw18 hsw18 hbw18 how18)
    | (with_reducible refine at_any ?_; refine at_dst 31 rfl ?_; refine wpList_load_fen (by kernel_rfl) (.tmp 3) rfl w11.heap.size rfl 40 (.slice A12 3 c13) (Fx.b0 G19.out) ?_)
    | (with_reducible refine at_any ?_; refine at_dst 32 rfl ?_; refine wpList_load_blk rfl 28 (.tmp 1) rfl w1.heap.size rfl 28 (srcV S1 A1 c1) (Fx.b3 G19.out) _ Tryz.underlying28 rfl (sizedS S1 HLS1.out _ _) ?_)
    | (go_at_call 15; (with_reducible refine (HD1.out _ _ lc13.out mc13.out _ _ lc1.out mc1.out _ (Fx.r1 G19.out) (Fx.r4 G19.out) (HKS.out.below (Fx.e5 G19.out))).mono ?_); rintro e w20 ⟨A21, c22, M23, d24, rfl, hnw20, _, _, _, hrw20, hlw20, hmw20, _, hbw20⟩; have lc22 := Lib.hid hlw20; have mc22 := Lib.hid hmw20; have G25 := Lib.hid (Fx.addR (Fx.addR G19.out hbw20 hrw20) (Below.refl _ _) hnw20); clear G19; clear hrw20 hbw20 hlw20 hmw20 hnw20)
    | (with_reducible refine at_any ?_; refine at_dst 5 rfl ?_; refine wpList_alloc_any rfl 28 rfl Z HZ0.out ?_; intro w26 hkw26 hsw26 hbw26; have U27 := Lib.hid (Fx.under_new G25.out rfl); have G28 := Lib.hid (Fx.newB G25.out hkw26.out hbw26); clear G25; clear hkw26 hsw26 hbw26)
    | (with_reducible refine at_any ?_; refine at_store 5 rfl ?_; refine wpList_store_any rfl 28 (.tmp 5) (.tmp 35) rfl w20.heap.size rfl 28 Z (srcV T1 A21 c22) (Fx.b0 G28.out) rfl (HZZ.out T1 HLT1.out _ _) (sizedS T1 HLT1.out _ _) (srcV_ones _ _ _) ?_; intro w29 hkw29 hsw29 hbw29 how29; have G30 := Lib.hid (Fx.put1B G28.out U27.out hkw29.out hsw29.out hbw29 how29); clear G28; clear hkw29 hsw29 hbw29 how29)
    | (with_reducible refine at_any ?_; refine at_dst 38 rfl ?_; refine wpList_load_blk rfl 28 (.tmp 1) rfl w1.heap.size rfl 28 (srcV S1 A1 c1) (Fx.b6 G30.out) _ Tryz.underlying28 rfl (sizedS S1 HLS1.out _ _) ?_)
    | (with_reducible refine at_any ?_; refine at_dst 39 rfl ?_; refine wpList_build3 (by kernel_rfl) (.const (.int .u64 1)) (.const (.int .u64 0)) (.const (.int .u64 1)) rfl 1 0 1 rfl rfl rfl ?_; intro gl32 w31 hrw31 hbw31; have G33 := Lib.hid (Fx.addR G30.out hbw31 hrw31); clear G30; clear hrw31 hbw31)
    | (go_at_call 10; (with_reducible refine (HL1.out _ _ _ _ lc1.out mc1.out _ (Fx.r0 G33.out) (Fx.r8 G33.out) (HKS.out.below (Fx.e9 G33.out))).mono ?_); rintro e w34 ⟨A35, c36, M37, d38, rfl, hnw34, _, _, _, hrw34, hlw34, hmw34, _, hbw34⟩; have lc36 := Lib.hid hlw34; have mc36 := Lib.hid hmw34; have G39 := Lib.hid (Fx.addR (Fx.addR G33.out hbw34 hrw34) (Below.refl _ _) hnw34); clear G33; clear hrw34 hbw34 hlw34 hmw34 hnw34)
    | (with_reducible refine at_any ?_; refine at_dst 8 rfl ?_; refine wpList_alloc_any rfl 28 rfl Z HZ0.out ?_; intro w40 hkw40 hsw40 hbw40; have U41 := Lib.hid (Fx.under_new G39.out rfl); have G42 := Lib.hid (Fx.newB G39.out hkw40.out hbw40); clear G39; clear hkw40 hsw40 hbw40)
    | (with_reducible refine at_any ?_; refine at_store 8 rfl ?_; refine wpList_store_any rfl 28 (.tmp 8) (.tmp 42) rfl w34.heap.size rfl 28 Z (srcV T1 A35 c36) (Fx.b0 G42.out) rfl (HZZ.out T1 HLT1.out _ _) (sizedS T1 HLT1.out _ _) (srcV_ones _ _ _) ?_; intro w43 hkw43 hsw43 hbw43 how43; have G44 := Lib.hid (Fx.put1B G42.out U41.out hkw43.out hsw43.out hbw43 how43); clear G42; clear hkw43 hsw43 hbw43 how43)
    | (with_reducible refine at_any ?_; refine at_dst 45 rfl ?_; refine wpList_load_fen (by kernel_rfl) (.tmp 3) rfl w11.heap.size rfl 40 (.slice A12 3 c13) (Fx.b7 G44.out) ?_)
    | (with_reducible refine at_any ?_; refine at_dst 46 rfl ?_; refine wpList_load_blk rfl 28 (.tmp 1) rfl w1.heap.size rfl 28 (srcV S1 A1 c1) (Fx.b10 G44.out) _ Tryz.underlying28 rfl (sizedS S1 HLS1.out _ _) ?_)
    | (go_at_call 15; (with_reducible refine (HD2.out _ _ lc13.out mc13.out _ _ lc1.out mc1.out _ (Fx.r8 G44.out) (Fx.r11 G44.out) (HKS.out.below (Fx.e12 G44.out))).mono ?_); rintro e w45 ⟨A46, c47, M48, d49, rfl, hnw45, _, _, _, hrw45, hlw45, hmw45, _, hbw45⟩; have lc47 := Lib.hid hlw45; have mc47 := Lib.hid hmw45; have G50 := Lib.hid (Fx.addR (Fx.addR G44.out hbw45 hrw45) (Below.refl _ _) hnw45); clear G44; clear hrw45 hbw45 hlw45 hmw45 hnw45)
    | (with_reducible refine at_any ?_; refine at_dst 11 rfl ?_; refine wpList_alloc_any rfl 28 rfl Z HZ0.out ?_; intro w51 hkw51 hsw51 hbw51; have U52 := Lib.hid (Fx.under_new G50.out rfl); have G53 := Lib.hid (Fx.newB G50.out hkw51.out hbw51); clear G50; clear hkw51 hsw51 hbw51)
    | (with_reducible refine at_any ?_; refine at_store 11 rfl ?_; refine wpList_store_any rfl 28 (.tmp 11) (.tmp 49) rfl w45.heap.size rfl 28 Z (srcV S1 A46 c47) (Fx.b0 G53.out) rfl (HZZ.out S1 HLS1.out _ _) (sizedS S1 HLS1.out _ _) (srcV_ones _ _ _) ?_; intro w54 hkw54 hsw54 hbw54 how54; have G55 := Lib.hid (Fx.put1B G53.out U52.out hkw54.out hsw54.out hbw54 how54); clear G53; clear hkw54 hsw54 hbw54 how54)
    | (with_reducible refine at_any ?_; refine at_dst 52 rfl ?_; refine wpList_load_fen (by kernel_rfl) (.tmp 3) rfl w11.heap.size rfl 40 (.slice A12 3 c13) (Fx.b10 G55.out) ?_)
    | (with_reducible refine at_any ?_; refine at_dst 53 rfl ?_; refine wpList_load_blk rfl 28 (.tmp 1) rfl w1.heap.size rfl 28 (srcV S1 A1 c1) (Fx.b13 G55.out) _ Tryz.underlying28 rfl (sizedS S1 HLS1.out _ _) ?_)
    | (go_at_call 15; (with_reducible refine (HD3.out _ _ lc13.out mc13.out _ _ lc1.out mc1.out _ (Fx.r11 G55.out) (Fx.r14 G55.out) (HKS.out.below (Fx.e15 G55.out))).mono ?_); rintro e w56 ⟨A57, c58, M59, d60, rfl, hnw56, _, _, _, hrw56, hlw56, hmw56, _, hbw56⟩; have lc58 := Lib.hid hlw56; have mc58 := Lib.hid hmw56; have G61 := Lib.hid (Fx.addR (Fx.addR G55.out hbw56 hrw56) (Below.refl _ _) hnw56); clear G55; clear hrw56 hbw56 hlw56 hmw56 hnw56)
    | (with_reducible refine at_any ?_; refine at_dst 14 rfl ?_; refine wpList_alloc_any rfl 28 rfl Z HZ0.out ?_; intro w62 hkw62 hsw62 hbw62; have U63 := Lib.hid (Fx.under_new G61.out rfl); have G64 := Lib.hid (Fx.newB G61.out hkw62.out hbw62); clear G61; clear hkw62 hsw62 hbw62)
    | (with_reducible refine at_any ?_; refine at_store 14 rfl ?_; refine wpList_store_any rfl 28 (.tmp 14) (.tmp 56) rfl w56.heap.size rfl 28 Z (srcV S1 A57 c58) (Fx.b0 G64.out) rfl (HZZ.out S1 HLS1.out _ _) (sizedS S1 HLS1.out _ _) (srcV_ones _ _ _) ?_; intro w65 hkw65 hsw65 hbw65 how65; have G66 := Lib.hid (Fx.put1B G64.out U63.out hkw65.out hsw65.out hbw65 how65); clear G64; clear hkw65 hsw65 hbw65 how65)
    | (with_reducible refine at_any ?_; refine at_dst 59 rfl ?_; refine wpList_build2i (by kernel_rfl) (.const (.int .i64 2)) (.const (.int .i64 0)) rfl 2 0 rfl rfl ?_; intro gl68 w67 hrw67 hbw67; have G69 := Lib.hid (Fx.addR G66.out hbw67 hrw67); clear G66; clear hrw67 hbw67)
    | (with_reducible refine at_any ?_; refine at_dst 60 rfl ?_; refine wpList_build3 (by kernel_rfl) (.const (.int .u64 1)) (.const (.int .u64 0)) (.const (.int .u64 1)) rfl 1 0 1 rfl rfl rfl ?_; intro gl71 w70 hrw70 hbw70; have G72 := Lib.hid (Fx.addR G69.out hbw70 hrw70); clear G69; clear hrw70 hbw70)
    | (go_at_call 19; (with_reducible refine (HW1.out _ _ _ _ _ (Fx.r1 G72.out) (Fx.r0 G72.out) (HKS.out.below (Fx.e20 G72.out)) (by decide) (by simp [maxLen])).mono ?_); rintro e w73 ⟨A74, c75, rfl, hlw73, hmw73, hrw73, hbw73⟩; have lc75 := Lib.hid hlw73; have mc75 := Lib.hid hmw73; have G76 := Lib.hid (Fx.addR G72.out hbw73 hrw73); clear G72; clear hrw73 hbw73 hlw73 hmw73)
    | (with_reducible refine at_any ?_; refine at_dst 65 rfl ?_; refine wpList_build2i (by kernel_rfl) (.const (.int .i64 0)) (.const (.int .i64 0)) rfl 0 0 rfl rfl ?_; intro gl78 w77 hrw77 hbw77; have G79 := Lib.hid (Fx.addR G76.out hbw77 hrw77); clear G76; clear hrw77 hbw77)
    | (with_reducible refine at_any ?_; refine at_dst 66 rfl ?_; refine wpList_build3 (by kernel_rfl) (.const (.int .u64 1)) (.const (.int .u64 0)) (.const (.int .u64 1)) rfl 1 0 1 rfl rfl rfl ?_; intro gl81 w80 hrw80 hbw80; have G82 := Lib.hid (Fx.addR G79.out hbw80 hrw80); clear G79; clear hrw80 hbw80)
    | (go_at_call 19; (with_reducible refine (HW2.out _ _ _ _ _ (Fx.r1 G82.out) (Fx.r0 G82.out) (HKS.out.below (Fx.e23 G82.out)) (by decide) (by simp [maxLen])).mono ?_); rintro e w83 ⟨A84, c85, rfl, hlw83, hmw83, hrw83, hbw83⟩; have lc85 := Lib.hid hlw83; have mc85 := Lib.hid hmw83; have G86 := Lib.hid (Fx.addR G82.out hbw83 hrw83); clear G82; clear hrw83 hbw83 hlw83 hmw83)
    | (with_reducible refine at_any ?_; refine at_dst 71 rfl ?_; refine wpList_load_fen (by kernel_rfl) (.tmp 3) rfl w11.heap.size rfl 40 (.slice A12 3 c13) (Fx.b19 G86.out) ?_)
    | (with_reducible refine at_any ?_; refine at_dst 72 rfl ?_; refine wpList_load_blk rfl 28 (.tmp 1) rfl w1.heap.size rfl 28 (srcV S1 A1 c1) (Fx.b22 G86.out) _ Tryz.underlying28 rfl (sizedS S1 HLS1.out _ _) ?_)
    | (go_at_call 15; (with_reducible refine (HD4.out _ _ lc13.out mc13.out _ _ lc1.out mc1.out _ (Fx.r20 G86.out) (Fx.r23 G86.out) (HKS.out.below (Fx.e24 G86.out))).mono ?_); rintro e w87 ⟨A88, c89, M90, d91, rfl, hnw87, _, _, _, hrw87, hlw87, hmw87, _, hbw87⟩; have lc89 := Lib.hid hlw87; have mc89 := Lib.hid hmw87; have G92 := Lib.hid (Fx.addR (Fx.addR G86.out hbw87 hrw87) (Below.refl _ _) hnw87); clear G86; clear hrw87 hbw87 hlw87 hmw87 hnw87)
    | (with_reducible refine at_any ?_; refine at_dst 21 rfl ?_; refine wpList_alloc_any rfl 28 rfl Z HZ0.out ?_; intro w93 hkw93 hsw93 hbw93; have U94 := Lib.hid (Fx.under_new G92.out rfl); have G95 := Lib.hid (Fx.newB G92.out hkw93.out hbw93); clear G92; clear hkw93 hsw93 hbw93)
    | (with_reducible refine at_any ?_; refine at_store 21 rfl ?_; refine wpList_store_any rfl 28 (.tmp 21) (.tmp 75) rfl w87.heap.size rfl 28 Z (srcV S1 A88 c89) (Fx.b0 G95.out) rfl (HZZ.out S1 HLS1.out _ _) (sizedS S1 HLS1.out _ _) (srcV_ones _ _ _) ?_; intro w96 hkw96 hsw96 hbw96 how96; have G97 := Lib.hid (Fx.put1B G95.out U94.out hkw96.out hsw96.out hbw96 how96); clear G95; clear hkw96 hsw96 hbw96 how96)
    | (go_at_call 12; (with_reducible refine (HS1.out _ _ _ _ _ (Fx.r21 (Fx.lit2i G97.out 2 0)) (Fx.r0 (Fx.lit2i G97.out 2 0))).mono ?_); rintro e w98 ⟨rfl, hbw98⟩; have G99 := Lib.hid (Fx.below (Fx.lit2i G97.out 2 0) hbw98); clear G97; clear hbw98)
    | (go_at_call 12; (with_reducible refine (HS1.out _ _ _ _ _ (Fx.r17 G99.out) (Fx.r21 G99.out)).mono ?_); rintro e w100 ⟨rfl, hbw100⟩; have G101 := Lib.hid (Fx.below G99.out hbw100); clear G99; clear hbw100; have z5 := HC1.out _ _ A21 c22 (Fx.b20 G101.out); have z11 := HC2.out _ _ A46 c47 (Fx.b13 G101.out))
    | (go_at_call 21; (with_reducible refine (HS2.out _ _ _ _ _ (Fx.r8 (Fx.lit1n G101.out 4)) (Fx.r0 (Fx.lit1n G101.out 4))).mono ?_); rintro e w102 ⟨rfl, hbw102⟩; have G103 := Lib.hid (Fx.below (Fx.lit1n G101.out 4) hbw102); clear G101; clear hbw102))
  go_ret
  exact ⟨rfl, (Fx.e29 G103.out)⟩
end
section
variable {l : List Int} {c : Int} {s : Src} {a : Int}
theorem comL_src (ok : s.Ok) : (comL l c s a).2.1.Ok ∧ (comL l c s a).2.1.tape = s.tape := by
  unfold comL
  split
  · unfold comR
    split
    · split
      · exact ⟨ok, rfl⟩
      · exact comGo_src a _ _ _ ok
    · exact ⟨ok, rfl⟩
  · exact ⟨ok, rfl⟩
end
section
open Go.ChangeShapes Go.WideShapes Go.ChangeAt Go.RowKit
theorem open_rd {H : Type} {enc : TypeId × Value → H} {P : Program} {w : World} {base : Nat} {spare : Nat → Bool} {held : Bool} {t e : TypeId} {k : IntKind} {a : Option Addr} {len cap : Nat} {d : DataW H} {p : List MemPlace}
    (ht : P.underlying t = some (.slice e)) (he : P.underlying e = some (.int k)) (hc : P.cellsOf e = 1) (h : DataW.Trod enc P w base spare held t (.slice a len cap) d p) :
    ∃ zs : List Int, Rd k w w.heap.size a len zs ∧ len ≤ cap ∧ cap ≤ maxLen ∧ ∀ z ∈ zs, (Lit.int k z).wf = true := by
  obtain ⟨fuel, hf⟩ := h
  rcases open_ints ht he hc hf with ⟨hcs, _⟩ | ⟨x, l, c, zs, hcs, _, hl, hm, hz, _, hcell, hwz⟩
  · simp [Value.cells] at hcs
    obtain ⟨rfl, rfl, rfl⟩ := hcs
    exact ⟨[], Rd.none_, Nat.le_refl _, by simp [maxLen], fun _ h => by cases h⟩
  · simp [Value.cells] at hcs
    obtain ⟨rfl, rfl, rfl⟩ := hcs
    refine ⟨zs.take len, ⟨?_, fun hn => ?_⟩, hl, hm, fun z hz' => hwz z (List.mem_of_mem_take hz')⟩
    · have : len ≤ zs.length := by rw [hz]; split <;> omega
      rw [List.length_take]; omega
    · have hlen : len ≤ zs.length := by rw [hz]; split <;> omega
      obtain ⟨b, off, spot⟩ := x
      have h0 := hcell 0 (by omega)
      have hspot : spot = none := by simpa [Addr.add] using World.cell?_spot h0
      subst hspot
      have h1 : w.cell? ⟨b, off, none⟩ = some (.int k (zs.getD 0 0)) := by simpa [Addr.add] using h0
      refine ⟨b, off, rfl, World.block_lt_of_cell? w _ h1, fun j hj => ?_⟩
      have h2 := hcell j (by omega)
      rw [add_flat] at h2
      rw [h2]
      congr 2
      simp only [List.getD_eq_getElem?_getD, List.getElem?_take]
      rw [if_pos hj]
end
section
open Go.ChangeShapes Go.WideShapes Go.ChangeAt Go.RowKit
theorem rd_of_cells {k : IntKind} {w : World} {A : Option Addr} {L C : Nat} {Z : List Int} (hl : L ≤ C) (hz : Z.length = C) (h0 : A = none → C = 0) (hc : ∀ a', A = some a' → ∀ c, c < C → w.cell? (a'.add c) = some (.int k (Z.getD c 0))) : Rd k w w.heap.size A L (Z.take L) := by
  refine ⟨by rw [List.length_take]; omega, fun hn => ?_⟩
  rcases A with _ | ⟨b, off, spot⟩
  · have := h0 rfl; omega
  · have h1 := hc _ rfl 0 (by omega)
    have hspot : spot = none := by simpa [Addr.add] using World.cell?_spot h1
    subst hspot
    have h2 : w.cell? ⟨b, off, none⟩ = some (.int k (Z.getD 0 0)) := by simpa [Addr.add] using h1
    refine ⟨b, off, rfl, World.block_lt_of_cell? w _ h2, fun j hj => ?_⟩
    have h3 := hc _ rfl j (by omega)
    rw [add_flat] at h3
    rw [h3]
    congr 2
    simp only [List.getD_eq_getElem?_getD, List.getElem?_take]
    rw [if_pos hj]
section
variable {H : Type} {enc : TypeId × Value → H} {P : Program} {w : World} {base : Nat} {spare : Nat → Bool} {held : Bool}
theorem trod_ints {fuel n : Nat} {t e : TypeId} {q : IntKind} {cs : List Value} {x : DataW H × List MemPlace} (ht : P.underlying t = some (.array n e)) (he : P.underlying e = some (.int q)) (hc : P.cellsOf e = 1) (hC : P.cellsOf t = n)
    (hf : DataW.trod enc P w base spare held fuel t cs = some x) : ∃ zs : List Int, zs.length = n ∧ cs = zs.map (Value.int q) ∧ ∀ z ∈ zs, (Lit.int q z).wf = true := by
  obtain ⟨xs, m, _, hx, hl, hxl, hat⟩ := DataW.trod_array ht hf
  rw [hC] at hl
  rw [hc] at hat
  have hz : ∀ i (hi : i < n), ∃ z : Int, cs[i]? = some (.int q z) ∧ (Lit.int q z).wf = true := by
    intro i hi
    have h1 := hat i hi
    have e1 : List.take 1 (List.drop (i * 1) cs) = [cs[i]'(by omega)] := by
      rw [Nat.mul_one, List.drop_eq_getElem_cons (show i < cs.length by omega), List.take_succ_cons, List.take_zero]
    rw [e1] at h1
    have hxi : xs[i]? = some (xs[i]'(by omega)) := List.getElem?_eq_getElem (by omega)
    rw [hxi] at h1
    obtain ⟨a, ea, _, wa⟩ := DataW.trod_int he h1
    refine ⟨a, ?_, wa⟩
    rw [List.getElem?_eq_getElem (by omega)]
    simpa using ea
  obtain ⟨zs, hzl, hzs⟩ := list_of n hz
  refine ⟨zs, hzl, ?_, ?_⟩
  · apply List.ext_getElem?
    intro i
    by_cases hi : i < n
    · obtain ⟨z, e1, e2, _⟩ := hzs i hi
      rw [e2, List.getElem?_map, e1]
      rfl
    · rw [List.getElem?_eq_none (by omega), List.getElem?_eq_none (by simp; omega)]
  · intro z hz'
    obtain ⟨i, hi, e⟩ := List.mem_iff_getElem.1 hz'
    obtain ⟨z', e1, _, e4⟩ := hzs i (by omega)
    rw [List.getElem?_eq_getElem hi, e] at e1
    injection e1 with e1
    rw [e1]
    exact e4
end
end
section
open Go.ChangeShapes Go.WideShapes Go.ChangeAt Go.RowKit
theorem Src.ok_mk {kd bt dm at_ : Int} {zs sd : List Int} (k0 : -9223372036854775808 ≤ kd) (k1 : kd < 9223372036854775808) (ti : ∀ z ∈ zs, 0 ≤ z ∧ z < 256) (b0 : 0 ≤ bt) (b1 : bt < 18446744073709551616) (sl : sd.length = 32) (si : ∀ z ∈ sd, 0 ≤ z ∧ z < 256) (d0 : 0 ≤ dm) (d1 : dm < 18446744073709551616) (a0 : 0 ≤ at_) (a1 : at_ < 18446744073709551616) :
    (⟨kd, zs, bt, sd, dm, at_⟩ : Src).tape.length ≤ 140737488355328 → (⟨kd, zs, bt, sd, dm, at_⟩ : Src).Ok := fun tl => ⟨k0, k1, tl, ti, b0, b1, sl, si, d0, d1, a0, a1⟩
set_option maxHeartbeats 1000000 in
theorem open_src {H : Type} {enc : TypeId × Value → H} {w : World} {base b0 : Nat} {spare : Nat → Bool} {held : Bool} {r : Reach} {v : Value} {d : DataW H} {p : List MemPlace}
    (hv : Value.okWide Tryz.prog w r b0 28 v) (h : DataW.Trod enc Tryz.prog w base spare held 28 v d p) :
    ∃ (s : Src) (A : Option Addr) (c : Nat), v = .agg (srcV s A c) ∧ (s.tape.length ≤ 140737488355328 → s.Ok) ∧ Rd .u8 w w.heap.size A s.tape.length s.tape ∧ s.tape.length ≤ c ∧ c ≤ maxLen ∧ s.seed.length = 32 := by
  have hv' : ∃ cs : Array Value, v = .agg cs := by
    simp only [Value.okWide, Tryz.underlying28] at hv
    obtain ⟨cs, h1, _⟩ := hv
    exact ⟨cs, h1⟩
  obtain ⟨cs, rfl⟩ := hv'
  obtain ⟨fuel, hf⟩ := h
  obtain ⟨xs, m, _, _, hl, hxl, hat⟩ := DataW.trod_struct Tryz.underlying28 hf
  have hC : Tryz.prog.cellsOf 28 = 37 := by kernel_rfl
  rw [hC] at hl
  obtain ⟨ls, hls⟩ : ∃ ls, (Value.cells (.agg cs)).toList = ls := ⟨_, rfl⟩
  have hcs : cs = ls.toArray := by rw [← hls]; rfl
  rw [hls] at hl hat
  have ci : Tryz.prog.cellsOf 3 = 1 := by kernel_rfl
  have cl : Tryz.prog.cellsOf 23 = 1 := by kernel_rfl
  have cu : Tryz.prog.cellsOf 24 = 1 := by kernel_rfl
  have ch : Tryz.prog.cellsOf 26 = 32 := by kernel_rfl
  have g0 := hat 0 _ rfl
  have g1 := hat 1 _ rfl
  have g2 := hat 2 _ rfl
  have g3 := hat 3 _ rfl
  have g4 := hat 4 _ rfl
  have g5 := hat 5 _ rfl
  change DataW.trod enc Tryz.prog w base spare held m 3 (List.take (Tryz.prog.cellsOf 3) (List.drop 0 ls)) = xs[0]? at g0
  change DataW.trod enc Tryz.prog w base spare held m 23 (List.take (Tryz.prog.cellsOf 23) (List.drop 1 ls)) = xs[1]? at g1
  change DataW.trod enc Tryz.prog w base spare held m 24 (List.take (Tryz.prog.cellsOf 24) (List.drop 2 ls)) = xs[2]? at g2
  change DataW.trod enc Tryz.prog w base spare held m 26 (List.take (Tryz.prog.cellsOf 26) (List.drop 3 ls)) = xs[3]? at g3
  change DataW.trod enc Tryz.prog w base spare held m 24 (List.take (Tryz.prog.cellsOf 24) (List.drop 35 ls)) = xs[4]? at g4
  change DataW.trod enc Tryz.prog w base spare held m 24 (List.take (Tryz.prog.cellsOf 24) (List.drop 36 ls)) = xs[5]? at g5
  have hx6 : xs.length = 6 := hxl
  rw [ci, List.drop_zero, List.getElem?_eq_getElem (show 0 < xs.length by omega)] at g0
  rw [cl, List.getElem?_eq_getElem (show 1 < xs.length by omega)] at g1
  rw [cu, List.getElem?_eq_getElem (show 2 < xs.length by omega)] at g2
  rw [ch, List.getElem?_eq_getElem (show 3 < xs.length by omega)] at g3
  rw [cu, List.getElem?_eq_getElem (show 4 < xs.length by omega)] at g4
  rw [cu, List.getElem?_eq_getElem (show 5 < xs.length by omega)] at g5
  have one : ∀ i, i < 37 → List.take 1 (List.drop i ls) = [ls.getD i undef] := fun i hi => by
    rw [List.drop_eq_getElem_cons (show i < ls.length by omega), List.take_succ_cons, List.take_zero, List.getD_eq_getElem?_getD, List.getElem?_eq_getElem (show i < ls.length by omega), Option.getD_some]
  have g0' : DataW.trod enc Tryz.prog w base spare held m 3 [ls.getD 0 undef] = some (xs[0]'(by omega)) := by rw [← one 0 (by omega), List.drop_zero]; exact g0
  rw [one 1 (by omega)] at g1
  rw [one 2 (by omega)] at g2
  rw [one 35 (by omega)] at g4
  rw [one 36 (by omega)] at g5
  obtain ⟨kd, hk, _, wk⟩ := DataW.trod_int Tryz.underlying3 g0'
  obtain ⟨bt, hb, _, wb⟩ := DataW.trod_int Tryz.underlying24 g2
  obtain ⟨dm, hd, _, wd⟩ := DataW.trod_int Tryz.underlying24 g4
  obtain ⟨at_, ha, _, wa⟩ := DataW.trod_int Tryz.underlying24 g5
  injection hk with hk _
  injection hb with hb _
  injection hd with hd _
  injection ha with ha _
  obtain ⟨sd, hsl, hs, hsw⟩ := trod_ints Tryz.underlying26 Tryz.underlying5 (by kernel_rfl) (by kernel_rfl) g3
  have hsplit : ls = [ls.getD 0 undef, ls.getD 1 undef, ls.getD 2 undef] ++ (List.take 32 (List.drop 3 ls) ++ [ls.getD 35 undef, ls.getD 36 undef]) := by
    have e1 : ls = ls.take 3 ++ ls.drop 3 := (List.take_append_drop 3 ls).symm
    have e2 : ls.drop 3 = (ls.drop 3).take 32 ++ (ls.drop 3).drop 32 := (List.take_append_drop 32 _).symm
    have e3 : ls.take 3 = [ls.getD 0 undef, ls.getD 1 undef, ls.getD 2 undef] := by
      match ls, hl with
      | a :: b :: c :: l, _ => rfl
    have e4 : (ls.drop 3).drop 32 = [ls.getD 35 undef, ls.getD 36 undef] := by
      rw [List.drop_drop, List.drop_eq_getElem_cons (show 3 + 32 < ls.length by omega), List.drop_eq_getElem_cons (show 3 + 32 + 1 < ls.length by omega), List.drop_eq_nil_of_le (by omega)]
      simp [List.getD_eq_getElem?_getD, List.getElem?_eq_getElem (show 35 < ls.length by omega), List.getElem?_eq_getElem (show 36 < ls.length by omega)]
    conv => lhs; rw [e1, e2, e3, e4]
  have bk := bounds_i64 wk
  have bb := bounds_u64 wb
  have bd := bounds_u64 wd
  have ba := bounds_u64 wa
  rcases open_ints Tryz.underlying23 Tryz.underlying5 (by kernel_rfl) g1 with ⟨hcs1, _⟩ | ⟨x, l, c, zs, hcs1, _, hl1, hm1, hz1, _, hcell, hwz⟩
  · injection hcs1 with hcs1 _
    refine ⟨⟨kd, [], bt, sd, dm, at_⟩, none, 0, ?_, Src.ok_mk (by omega) (by omega) (fun _ h => (by cases h)) (by omega) (by omega) hsl (u8b hsw) (by omega) (by omega) (by omega) (by omega), Rd.none_, Nat.le_refl _, by simp [maxLen], hsl⟩
    rw [hcs, hsplit, hs, hk, hcs1, hb, hd, ha]
    rfl
  · injection hcs1 with hcs1 _
    have hlz : l ≤ zs.length := by rw [hz1]; split <;> omega
    have htl : (zs.take l).length = l := by rw [List.length_take]; omega
    refine ⟨⟨kd, zs.take l, bt, sd, dm, at_⟩, some x, c, ?_, Src.ok_mk (by omega) (by omega) (fun z hz => u8b hwz z (List.mem_of_mem_take hz)) (by omega) (by omega) hsl (u8b hsw) (by omega) (by omega) (by omega) (by omega), ?_, by rw [htl]; exact hl1, hm1, hsl⟩
    · rw [hcs, hsplit, hs, hk, hcs1, hb, hd, ha]
      unfold srcV
      rw [htl]
    · rw [htl]
      exact rd_of_cells hlz rfl (fun h => by cases h) (fun a' e' c' hc' => by injection e' with e'; subst e'; exact hcell c' hc')
end
end Go.Proofs.YtgnclifmfefbcaaGreatDoor

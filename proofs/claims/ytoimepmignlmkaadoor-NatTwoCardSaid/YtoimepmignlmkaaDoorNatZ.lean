/-
  What the program's nat returns: Text, told in parts of eighteen digits.
  Conditions: limbs lie in their type's range; the table of the powers of ten is as the program's text lays it.
-/
import Derived.Test.YtoimepmignlmkaaDoorNatJ
set_option maxRecDepth 100000
set_option linter.unusedSimpArgs false
namespace Go.Proofs.YtoimepmignlmkaaDoor
open Go.ChangeShapes Go.WideShapes Go.ChangeAt Go.RowKit
set_option linter.unusedVariables false
/-- The last k decimal digits. -/
def digK : Nat → Nat → List Int
  | 0, _ => []
  | k + 1, n => digK k (n / 10) ++ [48 + ((n % 10 : Nat) : Int)]
theorem decL_parts (k : Nat) : ∀ n, n / 10 ^ k ≠ 0 → decL n = decL (n / 10 ^ k) ++ digK k n := by
  induction k with
  | zero => intro n _; rw [Nat.pow_zero, Nat.div_one]; show _ = _ ++ []; rw [List.append_nil]
  | succ k ih =>
    intro n h
    have e : n / 10 / 10 ^ k = n / 10 ^ (k + 1) := by rw [Nat.div_div_eq_div_mul, Nat.pow_succ, Nat.mul_comm]
    have h1 : ¬ n < 10 := fun hlt => h (by rw [← e, Nat.div_eq_of_lt hlt, Nat.zero_div])
    rw [decL_big h1, ih (n / 10) (by rw [e]; exact h), e, List.append_assoc]
    rfl
theorem digK_mod (k : Nat) : ∀ n, digK k n = digK k (n % 10 ^ k) := by
  induction k with
  | zero => intro n; rfl
  | succ k ih =>
    intro n
    have e1 : n % 10 ^ (k + 1) / 10 = n / 10 % 10 ^ k := by rw [Nat.pow_succ, Nat.mul_comm, Nat.mod_mul_right_div_self]
    have e2 : n % 10 ^ (k + 1) % 10 = n % 10 := by rw [Nat.pow_succ, Nat.mul_comm, Nat.mod_mul_right_mod]
    show digK k (n / 10) ++ _ = digK k (n % 10 ^ (k + 1) / 10) ++ [48 + ((n % 10 ^ (k + 1) % 10 : Nat) : Int)]
    rw [e1, e2, ih (n / 10)]
theorem digK_len (k : Nat) : ∀ n, (digK k n).length = k := by
  induction k with
  | zero => intro n; rfl
  | succ k ih => intro n; show (digK k (n / 10) ++ _).length = _; rw [List.length_append, ih]; rfl
theorem digK_pad (k : Nat) : ∀ m, m < 10 ^ (k + 1) → digK (k + 1) m = List.replicate (k + 1 - (decL m).length) 48 ++ decL m := by
  induction k with
  | zero =>
    intro m hm
    have h : m < 10 := hm
    rw [decL_small h]
    show [48 + ((m % 10 : Nat) : Int)] = [48 + (m : Int)]
    rw [Nat.mod_eq_of_lt h]
  | succ k ih =>
    intro m hm
    have h1 := ih (m / 10) (by rw [Nat.div_lt_iff_lt_mul (by omega)]; rw [Nat.pow_succ] at hm; exact hm)
    show digK (k + 1) (m / 10) ++ [48 + ((m % 10 : Nat) : Int)] = _
    rw [h1]
    by_cases h : m < 10
    · rw [Nat.div_eq_of_lt h, decL_small (n := 0) (by omega), decL_small h, Nat.mod_eq_of_lt h]
      show (List.replicate k 48 ++ [48 + ((0 : Nat) : Int)]) ++ [48 + (m : Int)] = List.replicate (k + 1) 48 ++ [48 + (m : Int)]
      rw [List.replicate_succ']
      rfl
    · rw [decL_big h, List.length_append, List.length_singleton, ← List.append_assoc]
      congr 3
      omega
theorem dec_len (k m : Nat) (h : m < 10 ^ (k + 1)) : (decL m).length ≤ k + 1 := by
  have h1 := digK_len (k + 1) m
  rw [digK_pad k m h, List.length_append, List.length_replicate] at h1
  omega
theorem decL_pos (n : Nat) : 1 ≤ (decL n).length := by
  by_cases h : n < 10
  · rw [decL_small h]; simp
  · rw [decL_big h]; simp
/-- A number's digits, the last eighteen told apart. -/
theorem decL_cut (n : Nat) (h : n / 1000000000000000000 ≠ 0) : decL n = decL (n / 1000000000000000000) ++ (List.replicate (18 - (decL (n % 1000000000000000000)).length) 48 ++ decL (n % 1000000000000000000)) := by
  have h1 := decL_parts 18 n h
  rw [digK_mod, digK_pad 17 _ (Nat.mod_lt _ (by decide))] at h1
  exact h1
theorem div18 (n : Nat) (h : (natL n).length ≤ 256) : divV (natL n) 1000000000000000000 = n / 1000000000000000000 ∧ divL (natL n) 1000000000000000000 = n % 1000000000000000000 ∧ divE (natL n) 1000000000000000000 = 0 := by
  have hr := rightN_natL h
  refine ⟨?_, ?_, ?_⟩
  · unfold divV; rw [if_pos ⟨hr, by omega, by omega⟩, natL_val]; rfl
  · unfold divL; rw [if_pos ⟨hr, by omega, by omega⟩, natL_val]; rfl
  · unfold divE; rw [if_pos ⟨hr, by omega, by omega⟩]
theorem natL_len18 (n : Nat) (h : (natL n).length ≤ 256) : (natL (n / 1000000000000000000)).length ≤ 256 := by
  rw [natL_len] at h ⊢
  exact Nat.lt_of_le_of_lt (Nat.div_le_self _ _) h
theorem zeros_fin : ∀ c : Fin 18, ({ data := #[48, 48, 48, 48, 48, 48, 48, 48, 48, 48, 48, 48, 48, 48, 48, 48, 48, 48, 48, 48, 48, 48, 48, 48, 48, 48, 48, 48, 48, 48, 48, 48, 48, 48, 48, 48, 48, 48, 48, 48, 48, 48, 48, 48, 48, 48, 48, 48, 48, 48, 48, 48, 48, 48, 48, 48, 48, 48, 48, 48, 48, 48, 48, 48] } : ByteArray).extract 0 c.val = strB (List.replicate c.val 48) := by decide +kernel
theorem zeros_at {c : Nat} (h : c ≤ 17) : ({ data := #[48, 48, 48, 48, 48, 48, 48, 48, 48, 48, 48, 48, 48, 48, 48, 48, 48, 48, 48, 48, 48, 48, 48, 48, 48, 48, 48, 48, 48, 48, 48, 48, 48, 48, 48, 48, 48, 48, 48, 48, 48, 48, 48, 48, 48, 48, 48, 48, 48, 48, 48, 48, 48, 48, 48, 48, 48, 48, 48, 48, 48, 48, 48, 48] } : ByteArray).extract 0 c = strB (List.replicate c 48) := zeros_fin ⟨c, by omega⟩
set_option maxHeartbeats 4000000 in
theorem rep0_c (c : Nat) (hc : c ≤ 17) (w : World) : Calls Tryd.prog 48 #[.string { data := #[48] }, .int .i64 (c : Int)] w fun e w' => e = .returned (.string (strB (List.replicate c 48))) ∧ w = w' := by
  by_cases h0 : c = 0
  · subst h0
    go_enter Tryd.func48, Tryd.ntmps48
    go_wp2
    go_ret
    exact ⟨rfl, rfl⟩
  · by_cases h1 : c = 1
    · subst h1
      go_enter Tryd.func48, Tryd.ntmps48
      go_wp2
      go_ret
      exact ⟨rfl, rfl⟩
    · have HMUL := Lib.hid (fun W => mul1_c c (by omega) W)
      have t0 : ((c : Int) == 0) = false := by rw [beq_eq_false_iff_ne]; omega
      have t1 : ((c : Int) == 1) = false := by rw [beq_eq_false_iff_ne]; omega
      have f1 : IntKind.u64.wrap (c : Int) = (c : Int) := by rw [IntKind.wrap_u64]; omega
      have f2 : IntKind.i64.wrap (c : Int) = (c : Int) := by rw [IntKind.wrap_i64]; omega
      have c17 : (c : Int) ≤ 17 := by omega
      have HPRE : Hid (∀ (s : ByteArray) (W : World), Calls Tryd.prog 54 #[.string s, .string { data := #[48] }] W fun e w' => e = .returned (.bool (Lib.hasPrefix s.data.toList [48])) ∧ W = w') := Lib.hid (fun s W => (Any.strings_HasPrefix lays99 s { data := #[48] } W).mono fun e w' h => ⟨h.1, h.2.symm⟩)
      have HC := Lib.hid hc
      clear h0 h1 hc
      go_enter Tryd.func48, Tryd.ntmps48
      go_wp2_with (first
        | (go_at_call 52; (with_reducible refine (HMUL.out _).mono ?_); rintro e _ ⟨rfl, rfl⟩)
        | (go_at_call 54; (with_reducible refine (HPRE.out _ _).mono ?_); rintro e _ ⟨he, rfl⟩; (first | (replace he := he.trans (ret_boolN (q := false) (by decide +kernel))) | (replace he := he.trans (ret_boolN (q := true) (by decide +kernel)))); subst he))
      go_ret
      exact ⟨ret_str (zeros_at HC.out), rfl⟩
set_option maxHeartbeats 4000000 in
theorem q10text_c (xs : List Int) (hx : Lim xs) (A : Option Addr) (n c : Nat) (hnc : n ≤ c) (hcm : c ≤ maxLen) (w : World) (hP : PowT w) (hra : Rd .u32 w w.heap.size A n xs) : Calls Tryd.prog 30 #[.slice A n c] w fun e w' => e = .returned (.string (strB (textR xs))) ∧ Below w.heap.size w w' := by
  have hr1 := fun W h => q10right_c xs A n c (by omega) W h
  have HRA := Lib.hid hra
  cases h1 : rightN xs with
  | false =>
    have e1 : textR xs = [] := by unfold textR; rw [h1]; rfl
    have HE1 : Hid (strB (textR xs) = { data := #[] }) := Lib.hid (by rw [e1]; rfl)
    rw [h1] at hr1
    have HR1 := Lib.hid hr1
    clear hr1 h1 e1 hra hx hnc hcm hP
    go_enter Tryd.func30, Tryd.ntmps30
    go_wp2_with (first
      | (go_at_call 22; (with_reducible refine (HR1.out _ HRA.out).mono ?_); rintro e _ ⟨rfl, rfl⟩))
    go_ret
    rw [HE1.out]
    exact ⟨rfl, Below.refl _ _⟩
  | true =>
    have e1 : textR xs = decL (valL xs) := by unfold textR; rw [h1]; rfl
    have hcan := rightN_can hx h1
    have hla := hra.len
    have hn256 : n ≤ 256 := by rw [← hla]; exact rightN_len h1
    rw [h1] at hr1
    have HR1 := Lib.hid hr1
    have hln : (natL (valL xs)).length = n := by rw [← hcan]; exact hla
    have HR0 : Hid (Rd .u32 w w.heap.size A (natL (valL xs)).length (natL (valL xs))) := Lib.hid (by rw [hln, ← hcan]; exact hra)
    have HS0 : Hid (decL (valL xs) ++ [] = textR xs) := Lib.hid (by rw [e1, List.append_nil])
    have HTL : Hid ((textR xs).length ≤ 8193) := Lib.hid (by rw [e1]; exact textR_len hx h1)
    have HLN := Lib.hid hln
    have HNC := Lib.hid hnc
    have HCM := Lib.hid hcm
    have HP := Lib.hid hP
    obtain ⟨D, hD⟩ : ∃ D, textR xs = D := ⟨_, rfl⟩
    rw [hD] at HS0 HTL ⊢
    clear hr1 h1 e1 hcan hra hx hnc hcm hD hla hln hP
    go_enter Tryd.func30, Tryd.ntmps30
    go_wp2_with (first
      | (go_at_call 22; (with_reducible refine (HR1.out _ HRA.out).mono ?_); rintro e _ ⟨rfl, rfl⟩))
    go_loopw [0, 3] (fun a s wr => ∃ (cur : Nat) (acc : List Int) (A' : Option Addr) (c' : Nat), a = .slice A' (natL cur).length c' ∧ s = .string (strB acc) ∧ decL cur ++ acc = D ∧ (natL cur).length ≤ 256 ∧ (natL cur).length ≤ c' ∧ c' ≤ maxLen ∧ Rd .u32 wr wr.heap.size A' (natL cur).length (natL cur) ∧ Below w.heap.size w wr) (fun _ s _ => D.length - sizeOfS s)
    case atStart => exact ⟨valL xs, [], A, c, by rw [HLN.out], rfl, HS0.out, by rw [HLN.out]; exact hn256, by rw [HLN.out]; exact HNC.out, HCM.out, HR0.out, Below.refl _ _⟩
    case round =>
      clear HS0 HR0 HLN
      obtain ⟨cur, acc, A', c', rfl, rfl, hdec, hl, hlc, hcm, hrd, hbl⟩ := hrel
      obtain ⟨d1, d2, d3⟩ := div18 cur hl
      have hdv := fun W h => q10div_c (natL cur) (natL_lim cur) A' (natL cur).length c' (by omega) 1000000000000000000 (by omega) (by omega) W h
      rw [d1, d2, d3] at hdv
      have hl18 := natL_len18 cur hl
      have hz18 := natL_len0 (n := cur / 1000000000000000000)
      have hcut := decL_cut cur
      obtain ⟨r, hr⟩ : ∃ r, cur % 1000000000000000000 = r := ⟨_, rfl⟩
      have hr18 : r < 1000000000000000000 := by rw [← hr]; exact Nat.mod_lt _ (by decide)
      rw [hr] at hdv hcut
      have hfm := fun W (hb : Below w.heap.size w W) => fmtu_c r hr18 W (HP.out.below hb)
      have hrl := dec_len 17 r hr18
      have hrp := decL_pos r
      have HRD := Lib.hid hrd
      have HBL := Lib.hid hbl
      obtain ⟨R, hR⟩ : ∃ R, decL r = R := ⟨_, rfl⟩
      rw [hR] at hfm hrl hrp hcut
      have HFM := Lib.hid hfm
      by_cases hq : cur / 1000000000000000000 = 0
      · have hcr : cur = r := by rw [← hr]; exact (Nat.mod_eq_of_lt (Nat.lt_of_div_eq_zero (by decide) hq)).symm
        rw [hcr, hR] at hdec
        have HD : Hid (strB R ++ strB acc = strB D) := Lib.hid (by rw [← hdec, strB_app])
        rw [hq, natL_zero] at hdv
        have HDV := Lib.hid hdv
        have hss : ¬ (9223372036854775807 < (strB R).size + (strB acc).size) := by
          rw [strB_size, strB_size]
          have h1 : acc.length ≤ D.length := by rw [← hdec, List.length_append]; omega
          have h2 := HTL.out
          omega
        clear hdv hz18 hl18 d1 d2 d3 hdec hrd hbl hl hlc hcm hq hcr hr hr18 hfm hrl hrp hR hcut
        go_wp2_with (first
          | (go_at_call 17; (with_reducible refine (HDV.out _ HRD.out).mono ?_); rintro e w5 ⟨A5, c5, rfl, hl5, hm5, hr5, hb5⟩; have HB5 := Lib.hid (HBL.out.trans (hb5.mono HBL.out.size)); clear hl5 hm5 hr5 hb5)
          | (go_at_call 47; (with_reducible refine (HFM.out _ HB5.out).mono ?_); rintro e w6 ⟨rfl, hb6⟩; have HB6 := Lib.hid (HB5.out.trans (hb6.mono HB5.out.size)); clear hb6))
        go_ret
        exact ⟨ret_str HD.out, HB6.out⟩
      · have hdec2 : decL (cur / 1000000000000000000) ++ (List.replicate (18 - R.length) 48 ++ R ++ acc) = D := by rw [← hdec, hcut hq]; simp only [List.append_assoc]
        have hlen : (natL (cur / 1000000000000000000)).length ≠ 0 := fun h => hq (hz18.1 h)
        obtain ⟨q, hqq⟩ : ∃ q, cur / 1000000000000000000 = q := ⟨_, rfl⟩
        rw [hqq] at hdv hl18 hdec2 hlen
        obtain ⟨Z, hZ⟩ : ∃ Z, natL q = Z := ⟨_, rfl⟩
        have HZ := Lib.hid hZ
        rw [hZ] at hdv hl18 hlen
        have hZ0 : ((Z.length : Int) == 0) = false := by rw [beq_eq_false_iff_ne]; omega
        have hZ1 : ¬ Z = [] := fun h => hlen (by rw [h]; rfl)
        have HDV := Lib.hid hdv
        obtain ⟨p, hp⟩ : ∃ p, 18 - R.length = p := ⟨_, rfl⟩
        rw [hp] at hdec2
        have hpI : (18 : Int) - ((strB R).size : Int) = (p : Int) := by rw [strB_size]; omega
        have hrp0 := fun W => rep0_c p (by omega) W
        obtain ⟨O, hO⟩ : ∃ O, List.replicate p (48 : Int) = O := ⟨_, rfl⟩
        have hOl : O.length = p := by rw [← hO, List.length_replicate]
        rw [hO] at hrp0 hdec2
        have HRP := Lib.hid hrp0
        have HD := Lib.hid hdec2
        have HL18 := Lib.hid hl18
        have HA1 : Hid (strB O ++ strB R ++ strB acc = strB (O ++ R ++ acc)) := Lib.hid (by rw [strB_app, strB_app])
        have hlD : (decL q ++ (O ++ R ++ acc)).length = D.length := by rw [hdec2]
        rw [List.length_append, List.length_append, List.length_append] at hlD
        have hs1 : ¬ (9223372036854775807 < (strB O).size + (strB R).size) := by
          rw [strB_size, strB_size]
          omega
        have hs2 : ¬ (9223372036854775807 < (strB O ++ strB R).size + (strB acc).size) := by
          rw [← strB_app, strB_size, strB_size, List.length_append]
          have h2 := HTL.out
          omega
        have HMS : Hid (D.length - (strB (O ++ R ++ acc)).size < D.length - (strB acc).size) := Lib.hid (by
          rw [strB_size, strB_size, List.length_append, List.length_append]
          omega)
        have hRs : ((strB R).size : Int) ≤ 18 := by rw [strB_size]; omega
        clear hdv hz18 d1 d2 d3 hdec hdec2 hrd hbl hl hlc hcm hq hr hr18 hlen hl18 hZ hqq hfm hrl hrp hR hcut hp hrp0 hO hOl hlD
        go_wp2_with (first
          | (go_at_call 17; (with_reducible refine (HDV.out _ HRD.out).mono ?_); rintro e w5 ⟨A5, c5, rfl, hl5, hm5, hr5, hb5⟩; have HB5 := Lib.hid (HBL.out.trans (hb5.mono HBL.out.size)); have HL5 := Lib.hid hl5; have HM5 := Lib.hid hm5; have HR5 := Lib.hid hr5; clear hl5 hm5 hr5 hb5)
          | (go_at_call 47; (with_reducible refine (HFM.out _ HB5.out).mono ?_); rintro e w6 ⟨rfl, hb6⟩; have HB6 := Lib.hid (HB5.out.trans (hb6.mono HB5.out.size)); have HR6 := Lib.hid (HR5.out.below hb6).fit; clear hb6)
          | (go_at_call 48; (with_reducible refine (HRP.out _).mono ?_); rintro e _ ⟨rfl, rfl⟩))
        go_roundw
        case rel => exact ⟨q, O ++ R ++ acc, A5, c5, by rw [HZ.out], by rw [HA1.out], HD.out, by rw [HZ.out]; exact HL18.out, by rw [HZ.out]; exact HL5.out, HM5.out, by rw [HZ.out]; exact HR6.out, HB6.out⟩
        case measure => rw [HA1.out]; exact HMS.out
end Go.Proofs.YtoimepmignlmkaaDoor

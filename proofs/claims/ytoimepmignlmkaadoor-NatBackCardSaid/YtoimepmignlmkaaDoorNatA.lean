/-
  What the program's nat returns: Right, trim, Of.
  Conditions: limbs lie in their type's range; the numbers have at most 100,000 limbs.
-/
import Derived.Test.YtoimepmignlmkaaDoorNatM
set_option maxRecDepth 100000
set_option linter.unusedSimpArgs false
namespace Go.Proofs.YtoimepmignlmkaaDoor
open Go.ChangeShapes Go.WideShapes Go.ChangeAt Go.RowKit
set_option linter.unusedVariables false
theorem q10right_c (zs : List Int) (A : Option Addr) (n c : Nat) (hn : n ≤ maxLen) (w : World) (hrd : Rd .u32 w w.heap.size A n zs) : Calls Tryd.prog 22 #[.slice A n c] w fun e w' => e = .returned (.bool (rightN zs)) ∧ w = w' := by
  have hlen := hrd.len
  have hnm : (n : Int) ≤ 9223372036854775807 := by unfold maxLen at hn; omega
  by_cases hb : 256 < n
  · have HV := Lib.hid (rightN_big (l := zs) (by omega))
    have h1 : (256 : Int) < (n : Int) := by omega
    clear hrd hn
    go_enter Tryd.func22, Tryd.ntmps22
    go_wp2
    go_ret
    exact ⟨ret_boolN HV.out.symm, rfl⟩
  · have h1 : (n : Int) ≤ 256 := by omega
    rcases n with _ | m
    · obtain rfl := List.eq_nil_of_length_eq_zero hlen
      have HV := Lib.hid (show rightN [] = true from rfl)
      clear hrd hn hb
      go_enter Tryd.func22, Tryd.ntmps22
      go_wp2
      go_ret
      exact ⟨ret_boolN HV.out.symm, rfl⟩
    · obtain ⟨b, off, rfl, _, hc⟩ := hrd.at_ (by omega)
      have hcm := hc m (by omega)
      have hv := rightN_at (l := zs) (m := m) hlen (by omega)
      obtain ⟨z, hz⟩ : ∃ z, zs.getD m 0 = z := ⟨_, rfl⟩
      rw [hz] at hcm hv
      have HV := Lib.hid hv
      have m0 : ((m + 1 : Nat) : Int) = (m : Int) + 1 := by omega
      have m1 : ((m : Int) + 1 == 0) = false := by rw [beq_eq_false_iff_ne]; omega
      have m2 : (m : Int) ≤ 255 := by omega
      have m3 : (m : Int) + 1 - 1 = (m : Int) := by omega
      clear hrd hc hn hb hnm hlen hz hv
      go_enter Tryd.func22, Tryd.ntmps22
      go_wp2
      go_ret
      exact ⟨ret_boolN HV.out.symm, rfl⟩
theorem q10trim_c (zs : List Int) (A : Option Addr) (n c : Nat) (hn : n ≤ maxLen) (hnc : n ≤ c) (w : World) (hrd : Rd .u32 w w.heap.size A n zs) : Calls Tryd.prog 42 #[.slice A n c] w fun e w' => e = .returned (.slice A (trimL zs).length c) ∧ w = w' := by
  have HR := Lib.hid hrd
  have hlen := hrd.len
  have htk : zs.take n = zs := by rw [← hlen, List.take_length]
  have HTZ := Lib.hid (fun k h1 h2 => trimL_zero (l := zs) (k := k) h1 h2)
  have HTS := Lib.hid (fun k h1 h2 => trimL_stop (l := zs) (k := k) h1 h2)
  have hnm : (n : Int) ≤ 9223372036854775807 := by unfold maxLen at hn; omega
  have hnc' : (n : Int) ≤ (c : Int) := by omega
  clear hrd hn
  go_enter Tryd.func42, Tryd.ntmps42
  go_wp2
  go_loop [0] (fun v => ∃ k : Nat, k ≤ n ∧ v = .slice A k c ∧ trimL (zs.take k) = trimL zs) (fun v => match v with | .slice _ k _ => k | _ => 0)
  case atStart => exact ⟨n, Nat.le_refl _, rfl, by rw [htk]⟩
  case round =>
    obtain ⟨k, hk, rfl, htr⟩ := hrel
    have HTR := Lib.hid htr
    clear htr
    rcases k with _ | m
    · have HL : Hid ((trimL zs).length = 0) := Lib.hid (by rw [← HTR.out]; rfl)
      go_wp2
      go_ret
      exact ⟨ret_slice HL.out.symm, rfl⟩
    · obtain ⟨b, off, rfl, _, hc⟩ := HR.out.at_ (by omega)
      have hcm := hc m (by omega)
      have m0 : ((m + 1 : Nat) : Int) = (m : Int) + 1 := by omega
      have m3 : (m : Int) + 1 - 1 = (m : Int) := by omega
      have m2 : (m : Int) + 1 ≤ (n : Int) := by omega
      have m4 : (m : Int) ≤ (c : Int) := by omega
      by_cases hz : zs.getD m 0 = 0
      · rw [hz] at hcm
        have HN := Lib.hid ((HTZ.out m (by omega) hz).trans HTR.out)
        clear hc hz
        go_wp2
        go_round
        case rel => exact ⟨m, by omega, rfl, HN.out⟩
        case measure => simp
      · have hl := HTS.out m (by omega) hz
        rw [HTR.out] at hl
        have HL := Lib.hid hl
        obtain ⟨z, hzz⟩ : ∃ z, zs.getD m 0 = z := ⟨_, rfl⟩
        rw [hzz] at hcm hz
        have tz : (z == 0) = false := by rw [beq_eq_false_iff_ne]; exact hz
        clear hc hl hzz
        go_wp2
        go_ret
        exact ⟨ret_slice HL.out.symm, rfl⟩
theorem q10of_c (n : Int) (n0 : 0 ≤ n) (n1 : n < 18446744073709551616) (w : World) : Calls Tryd.prog 24 #[.int .u64 n] w (RetN w (natL n.toNat)) := by
  have hl : trimL [n % 4294967296, n / 4294967296] = natL n.toNat := by
    rw [trimL_eq (Lim.cons ⟨by omega, by omega⟩ (Lim.cons ⟨by omega, by omega⟩ Lim.nil))]
    congr 1
    show (n % 4294967296).toNat + 4294967296 * ((n / 4294967296).toNat + 4294967296 * 0) = n.toNat
    omega
  have e1 : IntKind.u32.wrap (n % 4294967296) = n % 4294967296 := by rw [IntKind.wrap_u32]; omega
  have e2 : IntKind.u32.wrap (n / 4294967296) = n / 4294967296 := by rw [IntKind.wrap_u32]; omega
  have ht : ∀ (A : Option Addr) W, Rd .u32 W W.heap.size A 2 [n % 4294967296, n / 4294967296] → Calls Tryd.prog 42 #[.slice A 2 2] W fun e w' => e = .returned (.slice A (trimL [n % 4294967296, n / 4294967296]).length 2) ∧ W = w' := fun A W h => q10trim_c _ A 2 2 (by simp [maxLen]) (Nat.le_refl _) W h
  have hrt := fun A W (h : Rd .u32 W W.heap.size A 2 [n % 4294967296, n / 4294967296]) => rd_trim h
  rw [hl] at ht hrt
  have hlt := trimL_len [n % 4294967296, n / 4294967296]
  rw [hl] at hlt
  have HLT := Lib.hid hlt
  obtain ⟨p, hp⟩ : ∃ p, n % 4294967296 = p := ⟨_, rfl⟩
  obtain ⟨q, hq⟩ : ∃ p, n / 4294967296 = p := ⟨_, rfl⟩
  obtain ⟨R, hR⟩ : ∃ p, natL n.toNat = p := ⟨_, rfl⟩
  rw [hp] at e1
  rw [hq] at e2
  rw [hp, hq, hR] at ht hrt
  rw [hR] at HLT ⊢
  have HT := Lib.hid ht
  have HRT := Lib.hid hrt
  have HRD := Lib.hid (rd_two32 w 45 p q)
  have HBL := Lib.hid ((Below.refl w.heap.size w).alloc (Nat.le_refl _) (.cells #[.int .u32 p, .int .u32 q] 45))
  clear ht hrt hl hlt hR
  go_enter Tryd.func24, Tryd.ntmps24
  go_wp2_with (first
    | (go_at_call 42; (with_reducible refine (HT.out _ _ HRD.out).mono ?_); rintro e _ ⟨rfl, rfl⟩))
  go_ret
  exact ⟨_, _, rfl, HLT.out, by simp [maxLen], HRT.out _ _ HRD.out, HBL.out⟩
end Go.Proofs.YtoimepmignlmkaaDoor

/-
  What 'great' of stage 10's laws returns.
  Conditions: the slice has at most 2^63 - 1 rows.
-/
import Derived.Test.YtoimepmignlmkaaDoorLawM
set_option maxRecDepth 100000
set_option linter.unusedSimpArgs false
namespace Go.Proofs.YtoimepmignlmkaaDoor
open Go.ChangeShapes Go.WideShapes Go.ChangeAt Go.RowKit
set_option linter.unusedVariables false
def anyBig (rs : List NRow) : Bool := rs.any fun r => decide (260 < r.n)
def greatN (rs : List NRow) : Bool := decide (6 < rs.length) || anyBig rs
theorem anyBig_step {rs : List NRow} {r : NRow} {k : Nat} (h : rs.drop k = r :: rs.drop (k + 1)) : anyBig (rs.drop k) = (decide (260 < r.n) || anyBig (rs.drop (k + 1))) := by rw [h]; rfl
set_option maxHeartbeats 2000000 in
theorem great_c (rs : List NRow) (A : Option Addr) (n c : Nat) (hn : n ≤ maxLen) (w : World) (hrd : RdNs w w.heap.size A n rs) : Calls Tryd.prog 9 #[.slice A n c] w fun e w' => e = .returned (.bool (greatN rs)) ∧ w = w' := by
  have HR := Lib.hid hrd
  have hnI : (n : Int) ≤ 9223372036854775807 := by unfold maxLen at hn; omega
  have hlen := hrd.1
  have HE := Lib.hid (drop_end hrd.1)
  by_cases hbig : 6 < n
  · have HG : Hid (greatN rs = true) := Lib.hid (by unfold greatN; rw [decide_eq_true (by omega)]; rfl)
    have h6 : (6 : Int) < (n : Int) := by omega
    clear hrd hn hbig hlen
    go_enter Tryd.func9, Tryd.ntmps9
    go_wp2
    go_ret
    exact ⟨ret_boolN HG.out.symm, rfl⟩
  · have HG : Hid (greatN rs = anyBig rs) := Lib.hid (by unfold greatN; rw [decide_eq_false (by omega)]; rfl)
    have h6 : (n : Int) ≤ 6 := by omega
    clear hrd hn hbig hlen hnI
    go_enter Tryd.func9, Tryd.ntmps9
    go_wp2
    go_loopw [3] (fun ii wr => ∃ k : Nat, k ≤ n ∧ ii = .int .i64 (k : Int) ∧ anyBig (rs.drop k) = anyBig rs ∧ wr = w) (fun ii _ => n - (intOf ii).toNat)
    case atStart => exact ⟨0, by omega, rfl, by rw [List.drop_zero], by first | rfl | trivial⟩
    case round =>
      obtain ⟨k, hk, rfl, hall, rfl⟩ := hrel
      by_cases hlt : k < n
      · obtain ⟨r, b, off, hr, rfl, hcell, hrr, hrc, hrm, hrl, hdr⟩ := HR.out.row hlt
        have hst := anyBig_step hdr
        rw [hall] at hst
        have h3 : (k : Int) < (n : Int) := by omega
        have hrn : (r.n : Int) ≤ 9223372036854775807 := by unfold maxLen at hrm; omega
        obtain ⟨RA, hRA⟩ : ∃ x, r.A = x := ⟨_, rfl⟩
        obtain ⟨Rn, hRn⟩ : ∃ x, r.n = x := ⟨_, rfl⟩
        obtain ⟨Rc, hRc⟩ : ∃ x, r.c = x := ⟨_, rfl⟩
        rw [hRA, hRn, hRc] at hcell
        rw [hRn] at hst hrn
        by_cases h260 : 260 < Rn
        · rw [decide_eq_true h260, Bool.true_or] at hst
          have HST := Lib.hid (HG.out.trans hst)
          have h261 : (260 : Int) < (Rn : Int) := by omega
          clear hst hall hr hrr hrc hrm hrl hdr hRA hRn hRc h260
          go_wp2
          go_ret
          exact ⟨ret_boolN HST.out.symm, by first | rfl | trivial⟩
        · rw [decide_eq_false h260, Bool.false_or] at hst
          have HST := Lib.hid hst.symm
          have h261 : (Rn : Int) ≤ 260 := by omega
          clear hst hall hr hrr hrc hrm hrl hdr hRA hRn hRc h260 hrn
          go_wp2
          go_roundw
          case rel => exact ⟨k + 1, by omega, by go_num, HST.out, by first | rfl | trivial⟩
          case measure => simp [intOf]; omega
      · obtain rfl : k = n := by omega
        rw [HE.out] at hall
        have HST := Lib.hid (HG.out.trans (show anyBig rs = false from hall.symm))
        clear hall
        go_wp2
        go_ret
        exact ⟨ret_boolN HST.out.symm, by first | rfl | trivial⟩
end Go.Proofs.YtoimepmignlmkaaDoor

/-
  Any numbers' sum is the document's, or refused; of up to 1000.
  Conditions: none.
-/
import Derived.Test.YtacoknbibgkpbaaLawL
import Derived.Test.YtacoknbibgkpbaaOwnD
import Derived.Test.YtacoknbibgkpbaaOpenA
import Derived.ShutString
import Derived.ChangeOld
namespace Go.Proofs.Ytacoknbibgkpbaa.safeTotals
open Go.ChangeShapes Go.WideShapes Go.ChangeAt Go.RowKit
set_option linter.unusedVariables false
set_option linter.unusedSimpArgs false
set_option maxRecDepth 100000

theorem own : ownKnob Try.prog.godebug = none := by kernel_rfl
theorem laidOut : laidOutB Try.prog = true := by kernel_rfl

set_option maxHeartbeats 4000000 in
theorem walk (a0 : Option Addr) (n c : Nat) (zs : List Int) (w : World) (hrd : Rd .u64 w w.heap.size a0 n zs) (lc : n ≤ c) (cm : c ≤ maxLen) (hw : ∀ z ∈ zs, (Lit.int .u64 z).wf = true) :
    Calls Try.prog 4 #[.slice a0 n c] w fun e w' => e = .returned (.bool true) ∧ Below w.heap.size w w' := by
  have HR := Lib.hid hrd
  have hlen := hrd.len
  have hz : ∀ z ∈ zs, 0 ≤ z ∧ z < 18446744073709551616 := fun z h => by
    obtain ⟨h1, h2⟩ := bounds_u64 (hw z h)
    omega
  by_cases hg : 1000 < n
  · have hg2 : (1000 : Int) < (n : Int) := by omega
    clear hrd hw hz hg
    go_enter Try.func4, Try.ntmps4
    go_wp2_with (first
      | (go_at_call 7; (with_reducible refine (alive9_c w).mono ?_); rintro e wa ⟨rfl, hba⟩; have HB := Lib.hid hba; clear hba))
    go_ret
    exact ⟨rfl, HB.out⟩
  · have hg2 : (n : Int) ≤ 1000 := by omega
    have hn5 : n ≤ 100000000 := by omega
    have hnm : n ≤ maxLen := by omega
    have h1 := fun A c W (h : Rd .u64 W W.heap.size A n zs) => q9total_c zs hz A n c hnm W h
    have h2 := fun A c W (h : Rd .u64 W W.heap.size A n zs) => r9total_c zs hz A n c hnm W h
    have h3 := fun A B c d W h h' => r9same_c zs zs A B n n c d hnm hnm W h h'
    rw [decide_eq_true rfl] at h3
    obtain ⟨x, hx⟩ : ∃ x, sumV zs = x := ⟨_, rfl⟩
    obtain ⟨p, hp⟩ : ∃ x, sumO zs = x := ⟨_, rfl⟩
    rw [hx, hp] at h1 h2
    have H1 := Lib.hid h1
    have H2 := Lib.hid h2
    have H3 := Lib.hid h3
    have H5 := Lib.hid hn5
    have HL := Lib.hid hlen
    clear h1 h2 h3 hx hp hrd hw hz hg hn5 hnm lc cm hlen
    go_enter Try.func4, Try.ntmps4
    go_wp2_with (first
      | (go_at_call 7; (with_reducible refine (alive9_c w).mono ?_); rintro e wa ⟨rfl, hba⟩; have HB := Lib.hid hba; have HRA := Lib.hid ((HR.out.below hba).mono hba.size); clear hba)
      | (with_reducible refine at_any ?_; refine at_dst 15 rfl ?_; refine wpList_own_copy8 wa rfl (.tmp 13) (.tmp 14) rfl rfl a0 n c zs rfl HRA.out H5.out ?_; intro A7 c7 w7 hb7 hr7 _ _; rw [HL.out] at hr7; have HR7 := Lib.hid hr7; have HRB := Lib.hid ((HRA.out.below hb7).mono hb7.size); have HB7 := Lib.hid (HB.out.trans (hb7.mono HB.out.size)); clear hb7 hr7; rw [HL.out])
      | (go_at_call 15; (with_reducible refine (H1.out _ _ _ HR7.out).mono ?_); rintro e _ ⟨rfl, rfl⟩)
      | (go_at_call 16; (with_reducible refine (H2.out _ _ _ HRB.out).mono ?_); rintro e _ ⟨rfl, rfl⟩)
      | (go_at_call 17; (with_reducible refine (H3.out _ _ _ _ _ HR7.out HRB.out).mono ?_); rintro e w9 ⟨rfl, hb9⟩; have HB9 := Lib.hid (HB7.out.trans (hb9.mono HB7.out.size)); clear hb9))
    go_ret
    exact ⟨rfl, HB9.out⟩


set_option maxRecDepth 100000 in
theorem lifted (os : Os) (started : os.Started) (H : Type) (enc : TypeId × Value → H) :
    ReturnsInHanded {} Try.checked os 4 .any (Rows.safeTotalsSpec.pre6 enc Try.prog Try.f4 Rows.safeTotalsRow.domain false) (Rows.safeTotalsSpec.post enc Try.prog Try.f4 false true false false) := by
  refine returnsInHanded_of_change (C := Try.checked) own started (by kernel_rfl) Try.func4
    (ChangeSpec.witness6 (enc := enc) (C := Try.checked) false ⟨#[], #[.slice none 0 0], []⟩ 8 (by kernel_rfl) (by kernel_rfl) (by kernel_rfl) (by kernel_rfl)) ?_
  intro W base args ds gs before hval0 hW hcnd _
  have hval : ∀ (j : Nat) t v, Try.f4.params[j]? = some t → args[j]? = some v → Value.okWide Try.prog W .any base t v := hval0
  have hW' := hW
  obtain ⟨p, q, hA0, hV, rfl, hfz, hnd⟩ := hW
  have hA : DataW.TrodAll enc Try.prog W 0 (fun _ => true) true Try.f4.params.toList args.toList ds p := hA0
  rw [Try.params4] at hA hval
  obtain ⟨v0, vs0, d0, ds0, p0, q0, hargs, rfl, rfl, h0, r0⟩ := trodAll_cons hA
  obtain ⟨rfl, rfl, rfl⟩ := trodAll_nil r0
  obtain rfl : args = #[v0] := by cases args; simp_all
  obtain ⟨rfl, rfl⟩ := trodVars_none hV
  obtain ⟨a0, n0, c0, rfl⟩ := okWide_slice Try.underlying28 (hval 0 28 v0 rfl rfl)
  have k0 := h0
  have lt0 : ∀ x ∈ p0, x.block < W.heap.size := by obtain ⟨m, hm⟩ := k0; exact DataW.trod_lt m _ _ _ hm
  obtain ⟨z0, rd0, lc0, cm0, w0⟩ := open_rd Try.underlying28 Try.underlying22 (by kernel_rfl) h0
  clear hA0 hval0
  refine (walk a0 n0 c0 z0 W rd0 lc0 cm0 w0).mono fun e W' ⟨he, bel⟩ => ?_
  subst he
  exact ⟨_, rfl, _, _, _, [], _, [], hW', trodAll_mk1 (shut_bool Try.underlying4 _), (trodAll_cons_mk (Below.trod laidOut (by kernel_rfl) (of_decide_eq_true (by kernel_rfl)) k0 bel lt0) trodAll_mk0), rfl, bel.frame _, fun h => by cases h⟩

theorem over : Rows.safeTotalsRow.holds Try.pinned (OpenSpec.ofChange Rows.safeTotalsSpec) :=
  OpenClaim.holds_of_wide 4 Try.f4 rfl rfl rfl rfl rfl rfl rfl ⟨rfl, rfl, rfl, rfl, rfl⟩ rfl rfl rfl rfl rfl (by kernel_rfl) Try.func4 (by kernel_rfl)
    (of_decide_eq_true (by kernel_rfl)) (by unfold Func.isWrapper; first | (rw [if_pos (by decide +kernel)]; kernel_rfl) | (rw [if_neg (by decide +kernel)]; exact ⟨rfl, rfl⟩))
    (fun os started H enc _ => lifted os started H enc)

end Go.Proofs.Ytacoknbibgkpbaa.safeTotals
namespace Go.Proofs.Ytacoknbibgkpbaa
theorem safeTotals_holds : Rows.SafeTotalsSaid := safeTotals.over
#print axioms safeTotals_holds
end Go.Proofs.Ytacoknbibgkpbaa

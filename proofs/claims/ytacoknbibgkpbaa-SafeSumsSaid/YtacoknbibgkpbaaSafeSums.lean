/-
  A product is a sum of as many; of up to 255.
  Conditions: none.
-/
import Derived.Test.YtacoknbibgkpbaaLawL
import Derived.Test.YtacoknbibgkpbaaOwnD
import Derived.ShutString
import Derived.ChangeOld
namespace Go.Proofs.Ytacoknbibgkpbaa.safeSums
open Go.ChangeShapes Go.WideShapes Go.ChangeAt Go.RowKit
set_option linter.unusedVariables false
set_option linter.unusedSimpArgs false
set_option maxRecDepth 100000

theorem own : ownKnob Try.prog.godebug = none := by kernel_rfl
theorem laidOut : laidOutB Try.prog = true := by kernel_rfl

set_option maxHeartbeats 4000000 in
theorem walk (a m : Int) (w : World) (w0 : (Lit.int .u64 a).wf = true) (w1 : (Lit.int .u8 m).wf = true) :
    Calls Try.prog 6 #[.int .u64 a, .int .u8 m] w fun e w' => e = .returned (.bool true) ∧ Below w.heap.size w w' := by
  obtain ⟨a0, a1⟩ := bounds_u64 w0
  obtain ⟨m0, m1⟩ := bounds_u8 w1
  clear w0 w1
  obtain ⟨n, rfl⟩ := Int.eq_ofNat_of_zero_le m0
  have hn : n ≤ 255 := by omega
  obtain ⟨i0, hi0, hz0, hz1, hzb⟩ := info_parts info_u64d
  have h1 := fun W => q9mul_c a (n : Int) a0 (by omega) (by omega) (by omega) W
  have h2 := fun A c W (h : Rd .u64 W W.heap.size A n (List.replicate n a)) => q9total_c (List.replicate n a) (fun z h => by rw [List.eq_of_mem_replicate h]; omega) A n c (by simp [maxLen]; omega) W h
  have e1 : sumV (List.replicate n a) = mulV a (n : Int) := by unfold sumV mulV; rw [sumL_rep]
  have e2 : sumO (List.replicate n a) = mulO a (n : Int) := by unfold sumO mulO; rw [sumL_rep]
  rw [e1, e2] at h2
  obtain ⟨x, hx⟩ : ∃ x, mulV a (n : Int) = x := ⟨_, rfl⟩
  obtain ⟨p, hp⟩ : ∃ x, mulO a (n : Int) = x := ⟨_, rfl⟩
  rw [hx, hp] at h1 h2
  have H1 := Lib.hid h1
  have H2 := Lib.hid h2
  clear h1 h2 e1 e2 hx hp m0 m1
  go_enter Try.func6, Try.ntmps6
  go_wp2_with (first
    | (go_at_call 7; (with_reducible refine (alive9_c w).mono ?_); rintro e wa ⟨rfl, hba⟩; have HB := Lib.hid hba; clear hba))
  go_loopw [5, 6] (fun v cc wr => ∃ i : Nat, i ≤ n ∧ cc = .int .i64 (i : Int) ∧ OwnI wr w.heap.size 22 .u64 v (List.replicate i a) ∧ Below w.heap.size w wr) (fun _ cc _ => n - (intOf cc).toNat)
  case atStart => exact ⟨0, by omega, rfl, own_nil _ _ _, HB.out⟩
  case round =>
    clear HB
    obtain ⟨i, hi, rfl, hown, hbq⟩ := hrel
    have HOW := Lib.hid hown
    have HBQ := Lib.hid hbq
    have hsz := hbq.size
    by_cases hlt : i < n
    · have hl8 : (List.replicate i a).length = i := List.length_replicate
      have HL8 := Lib.hid hl8
      have hil : i ≤ 255 := by omega
      have hrep : List.replicate i a ++ [a] = List.replicate (i + 1) a := (List.replicate_succ' (n := i) (a := a)).symm
      have HRE := Lib.hid hrep
      clear hown hbq hl8 hrep
      go_wp2_with (first
        | (at_builtin; refine wpList_append_ints _ rfl (.tmp 19) (.tmp 21) 28 rfl w.heap.size 22 i0 _ 8 .u64 Try.underlying28 hi0 hz0 hz1 hzb rfl _ (List.replicate i a) rfl (HOW.out.alloc _) (wr.heap.size + 1) (some ⟨wr.heap.size, 0, none⟩) 1 1 [a] rfl (rd_one wr 22 .u64 a) (by have := HL8.out; simp [maxLen]; omega) (by have := HL8.out; omega) (by simp; omega) ?_; intro v6 w6 hown6 hg6 hat6; have hb6 : Below w.heap.size w w6 := (HOW.out.alloc _).below_ (HBQ.out.alloc hsz _) (by simp; omega) hg6; rw [HRE.out] at hown6; have HO6 := Lib.hid hown6; have HB6 := Lib.hid hb6; clear hown6 hb6 hg6 hat6))
      go_roundw
      case rel => exact ⟨i + 1, by omega, by go_num, HO6.out, HB6.out⟩
      case measure => simp [intOf]; omega
    · obtain rfl : i = n := by omega
      obtain ⟨A, c, hv, hc, hcm⟩ := hown.form
      rw [List.length_replicate] at hv
      subst hv
      have HRD := Lib.hid (hown.rd List.length_replicate)
      clear hown hbq HOW hc hcm
      go_wp2_with (first
        | (go_at_call 12; (with_reducible refine (H1.out _).mono ?_); rintro e _ ⟨rfl, rfl⟩)
        | (go_at_call 15; (with_reducible refine (H2.out _ _ _ HRD.out).mono ?_); rintro e _ ⟨rfl, rfl⟩))
      go_ret
      exact ⟨rfl, HBQ.out⟩


set_option maxRecDepth 100000 in
theorem lifted (os : Os) (started : os.Started) (H : Type) (enc : TypeId × Value → H) :
    ReturnsInHanded {} Try.checked os 6 .any (Rows.safeSumsSpec.pre6 enc Try.prog Try.f6 Rows.safeSumsRow.domain false) (Rows.safeSumsSpec.post enc Try.prog Try.f6 false true false false) := by
  refine returnsInHanded_of_change (C := Try.checked) own started (by kernel_rfl) Try.func6
    (ChangeSpec.witness6 (enc := enc) (C := Try.checked) false ⟨#[], #[.int .u64 0, .int .u8 0], []⟩ 8 (by kernel_rfl) (by kernel_rfl) (by kernel_rfl) (by kernel_rfl)) ?_
  intro W base args ds gs before hval0 hW hcnd _
  have hval : ∀ (j : Nat) t v, Try.f6.params[j]? = some t → args[j]? = some v → Value.okWide Try.prog W .any base t v := hval0
  have hW' := hW
  obtain ⟨p, q, hA0, hV, rfl, hfz, hnd⟩ := hW
  have hA : DataW.TrodAll enc Try.prog W 0 (fun _ => true) true Try.f6.params.toList args.toList ds p := hA0
  rw [Try.params6] at hA hval
  obtain ⟨v0, vs0, d0, ds0, p0, q0, hargs, rfl, rfl, h0, r0⟩ := trodAll_cons hA
  obtain ⟨v1, vs1, d1, ds1, p1, q1, rfl, rfl, rfl, h1, r1⟩ := trodAll_cons r0
  obtain ⟨rfl, rfl, rfl⟩ := trodAll_nil r1
  obtain rfl : args = #[v0, v1] := by cases args; simp_all
  obtain ⟨rfl, rfl⟩ := trodVars_none hV
  obtain ⟨a0, rfl, rfl, rfl, w0⟩ := open_int Try.underlying22 (hval 0 22 v0 rfl rfl) h0
  obtain ⟨a1, rfl, rfl, rfl, w1⟩ := open_int Try.underlying5 (hval 1 5 v1 rfl rfl) h1
  clear hA0 hval0
  refine (walk a0 a1 W w0 w1).mono fun e W' ⟨he, bel⟩ => ?_
  subst he
  exact ⟨_, rfl, _, _, _, [], _, [], hW', trodAll_mk1 (shut_bool Try.underlying4 _), (trodAll_cons_mk (shut_int Try.underlying22 w0) (trodAll_cons_mk (shut_int Try.underlying5 w1) trodAll_mk0)), rfl, bel.frame _, fun h => by cases h⟩

theorem over : Rows.safeSumsRow.holds Try.pinned (OpenSpec.ofChange Rows.safeSumsSpec) :=
  OpenClaim.holds_of_wide 6 Try.f6 rfl rfl rfl rfl rfl rfl rfl ⟨rfl, rfl, rfl, rfl, rfl⟩ rfl rfl rfl rfl rfl (by kernel_rfl) Try.func6 (by kernel_rfl)
    (of_decide_eq_true (by kernel_rfl)) (by unfold Func.isWrapper; first | (rw [if_pos (by decide +kernel)]; kernel_rfl) | (rw [if_neg (by decide +kernel)]; exact ⟨rfl, rfl⟩))
    (fun os started H enc _ => lifted os started H enc)

end Go.Proofs.Ytacoknbibgkpbaa.safeSums
namespace Go.Proofs.Ytacoknbibgkpbaa
theorem safeSums_holds : Rows.SafeSumsSaid := safeSums.over
#print axioms safeSums_holds
end Go.Proofs.Ytacoknbibgkpbaa

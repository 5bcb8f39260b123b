/-
  A padded message is whole blocks, as many as are told; unlike messages are unlike, padded.
  Conditions: none.
-/
import Derived.Test.YtpconmnlppjkfaaLawB
import Derived.Test.YtpconmnlppjkfaaOpenA
import Derived.Deep.RegionWith
import Derived.ShutString
import Derived.ChangeOld
namespace Go.Proofs.Ytpconmnlppjkfaa.padWhole
open Go.ChangeShapes Go.WideShapes Go.ChangeAt Go.RowKit
set_option linter.unusedVariables false

theorem own : ownKnob Try.prog.godebug = none := by kernel_rfl
theorem laidOut : laidOutB Try.prog = true := by kernel_rfl

set_option maxHeartbeats 2000000 in
theorem whole_walk (A : Option Addr) (L c : Nat) (zs : List Int) (A' : Option Addr) (L' c' : Nat) (ys : List Int) (w : World) (hr : Rd .u8 w w.heap.size A L zs) (hc : L ≤ c) (hm : c ≤ maxLen) (hwz : ∀ z ∈ zs, (Lit.int .u8 z).wf = true)
    (hr' : Rd .u8 w w.heap.size A' L' ys) (hc' : L' ≤ c') (hm' : c' ≤ maxLen) (hwy : ∀ z ∈ ys, (Lit.int .u8 z).wf = true) :
    Calls Try.prog 5 #[.slice A L c, .slice A' L' c'] w fun e w' => e = .returned (.bool true) ∧ Below w.heap.size w w' := by
  unfold maxLen at hm hm'
  have HR := Lib.hid hr
  have HLN := Lib.hid hr.len
  have HR' := Lib.hid hr'
  have HLN' := Lib.hid hr'.len
  have HWZ := Lib.hid hwz
  have HWY := Lib.hid hwy
  clear hr hr' hwz hwy
  by_cases hL : 2000 < L
  · have t1 : decide (2000 < (L : Int)) = true := by simp; omega
    go_enter Try.func5, Try.ntmps5
    go_wp2_with (go_at_call 7; (with_reducible refine (alive2_c _).mono ?_); rintro e w1 ⟨rfl, hb1⟩)
    go_ret
    exact ⟨rfl, hb1⟩
  · by_cases hL' : 2000 < L'
    · go_enter Try.func5, Try.ntmps5
      go_wp2_with (go_at_call 7; (with_reducible refine (alive2_c _).mono ?_); rintro e w1 ⟨rfl, hb1⟩)
      go_ret
      exact ⟨rfl, hb1⟩
    · have hpl := padL_len zs
      rw [HLN.out] at hpl
      obtain ⟨P, hP⟩ : ∃ P, padL zs = P := ⟨_, rfl⟩
      obtain ⟨Q, hQ⟩ : ∃ Q, padL ys = Q := ⟨_, rfl⟩
      obtain ⟨K, hK⟩ : ∃ K, (L + 72) / 64 = K := ⟨_, rfl⟩
      have hql := padL_len ys
      have hse : ((strB P).toList == (strB Q).toList) = ((strB zs).toList == (strB ys).toList) := by
        have u8 : ∀ z : Int, (Lit.int .u8 z).wf = true → 0 ≤ z ∧ z < 256 := fun z h => by have := bounds_u8 h; omega
        have b1 := padL_bytes (by rw [HLN.out]; omega) fun z hz => u8 z (HWZ.out z hz)
        have b2 := padL_bytes (by rw [HLN'.out]; omega) fun z hz => u8 z (HWY.out z hz)
        rw [Bool.eq_iff_iff, beq_iff_eq, beq_iff_eq, ← hP, ← hQ, toL_eq, toL_eq, strB_eq b1 b2, strB_eq (fun z hz => u8 z (HWZ.out z hz)) (fun z hz => u8 z (HWY.out z hz))]
        exact ⟨padL_inj (by rw [HLN.out]; omega) (by rw [HLN'.out]; omega), fun h => by rw [h]⟩
      rw [hP, hK] at hpl
      have hk1 : K ≤ 33 := by omega
      have hbl := blocks_small L (by omega)
      rw [hK] at hbl
      have cp := fun W hh => ppad_c A c L zs W hh hc (by omega)
      have cq := fun W hh => ppad_c A' c' L' ys W hh hc' (by omega)
      rw [hP] at cp
      rw [hQ] at cq
      have cc := fun A5 c5 (W : World) hh hc5 => pcut_c A5 c5 (64 * K) P W hh hc5 (by omega)
      simp only [show 64 * K / 64 = K by omega] at cc
      have CC := Lib.hid cc
      clear cc
      have CP := Lib.hid cp
      have CQ := Lib.hid cq
      have HPL := Lib.hid hpl
      have HSE := Lib.hid hse
      clear cp cq hP hQ hql hpl hK hse
      go_enter Try.func5, Try.ntmps5
      go_wp2_with (first
        | (go_at_call 7; (with_reducible refine (alive2_c _).mono ?_); rintro e w1 ⟨rfl, hb1⟩)
        | (go_at_call 14; (with_reducible refine (CP.out _ (by exact (HR.out.below hb1).fit)).mono ?_); rintro e w2 ⟨A2, c2, rfl, hr2, hc2, hb2⟩; rw [HPL.out] at hr2 hc2 ⊢; have H2 := Lib.hid hr2; clear hr2)
        | (go_at_call 14; (with_reducible refine (CQ.out _ (by exact (((HR'.out.below hb1).mono hb1.size).below hb2).fit)).mono ?_); rintro e w3 ⟨A3, c3, rfl, hr3, hc3, hb3⟩; have H3 := Lib.hid hr3; clear hr3)
        | (go_at_call 12; (with_reducible refine (CC.out _ _ _ (by exact (H2.out.below hb3).fit) hc2).mono ?_); rintro e w4 ⟨A4, c4, A5, c5, rfl, hr4, hr5, hc5, hb4⟩; have s2 := str_rd (c := c2) (((H2.out.below hb3).mono hb3.size).below hb4); have s3 := str_rd (c := c3) (H3.out.below hb4); have s4 := str_rd (c := c) (((((((HR.out.below hb1).mono hb1.size).below hb2).mono hb2.size).below hb3).mono hb3.size).below hb4); have s5 := str_rd (c := c') (((((((HR'.out.below hb1).mono hb1.size).below hb2).mono hb2.size).below hb3).mono hb3.size).below hb4); rw [show (cutN P K).length = K by simp [cutN]]; clear hr4 hr5)
        | (go_at_call 10; (with_reducible refine (pblocks_c _ (by omega) (by omega) _).mono ?_); rintro e w5 ⟨rfl, rfl⟩))
      go_ret
      refine ⟨?_, (hb1.trans (hb2.mono hb1.size)).trans ((hb3.mono (Nat.le_trans hb1.size hb2.size)).trans (hb4.mono (Nat.le_trans hb1.size (Nat.le_trans hb2.size hb3.size))))⟩
      show Ending.returned (.bool _) = _
      rw [HSE.out]
      simp
theorem walk (a0 : Option Addr) (n0 c0 : Nat) (z0 : List Int) (a1 : Option Addr) (n1 c1 : Nat) (z1 : List Int) (w : World) (rd0 : Rd .u8 w w.heap.size a0 n0 z0) (lc0 : n0 ≤ c0) (cm0 : c0 ≤ maxLen) (w0 : ∀ z ∈ z0, (Lit.int .u8 z).wf = true)
    (rd1 : Rd .u8 w w.heap.size a1 n1 z1) (lc1 : n1 ≤ c1) (cm1 : c1 ≤ maxLen) (w1 : ∀ z ∈ z1, (Lit.int .u8 z).wf = true) :
    Calls Try.prog 5 #[.slice a0 n0 c0, .slice a1 n1 c1] w fun e w' => e = .returned (.bool true) ∧ Below w.heap.size w w' :=
  whole_walk a0 n0 c0 z0 a1 n1 c1 z1 w rd0 lc0 cm0 w0 rd1 lc1 cm1 w1


set_option maxRecDepth 100000 in
theorem lifted (os : Os) (started : os.Started) (H : Type) (enc : TypeId × Value → H) :
    ReturnsInHanded {} Try.checked os 5 .any (Rows.padWholeSpec.pre6 enc Try.prog Try.f5 Rows.padWholeRow.domain false) (Rows.padWholeSpec.post enc Try.prog Try.f5 false true false false) := by
  refine returnsInHanded_of_change (C := Try.checked) own started (by kernel_rfl) Try.func5
    (ChangeSpec.witness6 (enc := enc) (C := Try.checked) false ⟨#[], #[.slice none 0 0, .slice none 0 0], []⟩ 8 (by kernel_rfl) (by kernel_rfl) (by kernel_rfl) (by kernel_rfl)) ?_
  intro W base args ds gs before hval0 hW hcnd _
  have hval : ∀ (j : Nat) t v, Try.f5.params[j]? = some t → args[j]? = some v → Value.okWide Try.prog W .any base t v := hval0
  have hW' := hW
  obtain ⟨p, q, hA0, hV, rfl, hfz, hnd⟩ := hW
  have hA : DataW.TrodAll enc Try.prog W 0 (fun _ => true) true Try.f5.params.toList args.toList ds p := hA0
  rw [Try.params5] at hA hval
  obtain ⟨v0, vs0, d0, ds0, p0, q0, hargs, rfl, rfl, h0, r0⟩ := trodAll_cons hA
  obtain ⟨v1, vs1, d1, ds1, p1, q1, rfl, rfl, rfl, h1, r1⟩ := trodAll_cons r0
  obtain ⟨rfl, rfl, rfl⟩ := trodAll_nil r1
  obtain rfl : args = #[v0, v1] := by cases args; simp_all
  obtain ⟨rfl, rfl⟩ := trodVars_none hV
  obtain ⟨a0, n0, c0, rfl⟩ := okWide_slice Try.underlying22 (hval 0 22 v0 rfl rfl)
  have k0 := h0
  have lt0 : ∀ x ∈ p0, x.block < W.heap.size := by obtain ⟨m, hm⟩ := k0; exact DataW.trod_lt m _ _ _ hm
  obtain ⟨z0, rd0, lc0, cm0, w0⟩ := open_rd Try.underlying22 Try.underlying5 (by kernel_rfl) h0
  obtain ⟨a1, n1, c1, rfl⟩ := okWide_slice Try.underlying22 (hval 1 22 v1 rfl rfl)
  have k1 := h1
  have lt1 : ∀ x ∈ p1, x.block < W.heap.size := by obtain ⟨m, hm⟩ := k1; exact DataW.trod_lt m _ _ _ hm
  obtain ⟨z1, rd1, lc1, cm1, w1⟩ := open_rd Try.underlying22 Try.underlying5 (by kernel_rfl) h1
  clear hA0 hval0
  refine (walk a0 n0 c0 z0 a1 n1 c1 z1 W rd0 lc0 cm0 w0 rd1 lc1 cm1 w1).mono fun e W' ⟨he, bel⟩ => ?_
  subst he
  exact ⟨_, rfl, _, _, _, [], _, [], hW', trodAll_mk1 (shut_bool Try.underlying4 _), (trodAll_cons_mk (Below.trod laidOut (by kernel_rfl) (of_decide_eq_true (by kernel_rfl)) k0 bel lt0) (trodAll_cons_mk (Below.trod laidOut (by kernel_rfl) (of_decide_eq_true (by kernel_rfl)) k1 bel lt1) trodAll_mk0)), rfl, bel.frame _, fun h => by cases h⟩

theorem over : Rows.padWholeRow.holds Try.pinned (OpenSpec.ofChange Rows.padWholeSpec) :=
  OpenClaim.holds_of_wide 5 Try.f5 rfl rfl rfl rfl rfl rfl rfl ⟨rfl, rfl, rfl, rfl, rfl⟩ rfl rfl rfl rfl rfl (by kernel_rfl) Try.func5 (by kernel_rfl)
    (of_decide_eq_true (by kernel_rfl)) (by unfold Func.isWrapper; first | (rw [if_pos (by decide +kernel)]; kernel_rfl) | (rw [if_neg (by decide +kernel)]; exact ⟨rfl, rfl⟩))
    (fun os started H enc _ => lifted os started H enc)

end Go.Proofs.Ytpconmnlppjkfaa.padWhole
namespace Go.Proofs.Ytpconmnlppjkfaa
theorem padWhole_holds : Rows.PadWholeSaid := padWhole.over
#print axioms padWhole_holds
end Go.Proofs.Ytpconmnlppjkfaa

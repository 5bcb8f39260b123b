/-
  Any rest's tail, and how many blocks any length has, are the document's, or refused.
  Conditions: none.
-/
import Derived.Test.YtpconmnlppjkfaaLawB
import Derived.Test.YtpconmnlppjkfaaOpenA
import Derived.Deep.RegionWith
import Derived.ShutString
import Derived.ChangeOld
namespace Go.Proofs.Ytpconmnlppjkfaa.padTails
open Go.ChangeShapes Go.WideShapes Go.ChangeAt Go.RowKit
set_option linter.unusedVariables false

theorem own : ownKnob Try.prog.godebug = none := by kernel_rfl
theorem laidOut : laidOutB Try.prog = true := by kernel_rfl

set_option maxHeartbeats 1000000 in
theorem tails_walk (A : Option Addr) (c L : Nat) (zs : List Int) (n : Int) (w : World) (hr : Rd .u8 w w.heap.size A L zs) (hc : L ≤ c) (hm : c ≤ maxLen) (n0 : 0 ≤ n) (n1 : n < 18446744073709551616) :
    Calls Try.prog 3 #[.slice A L c, .int .u64 n] w fun e w' => e = .returned (.bool true) ∧ Below w.heap.size w w' := by
  unfold maxLen at hm
  obtain ⟨i0, hi, hz0, hz1, hzb⟩ := info_parts info_u8'
  have HR := Lib.hid hr
  have HLN := Lib.hid hr.len
  clear hr
  by_cases hL : 500 < L
  · go_enter Try.func3, Try.ntmps3
    go_wp2_with (go_at_call 7; (with_reducible refine (alive2_c _).mono ?_); rintro e w1 ⟨rfl, hb1⟩)
    go_ret
    exact ⟨rfl, hb1⟩
  · by_cases hy : n < 2305843009213693952 ∧ (L : Int) = n % 64
    · obtain ⟨hn1, hn2⟩ := hy
      have HN2 := Lib.hid hn2
      clear hn2
      go_enter Try.func3, Try.ntmps3
      go_wp2_with (first
        | (go_at_call 7; (with_reducible refine (alive2_c _).mono ?_); rintro e w1 ⟨rfl, hb1⟩)
        | (at_builtin; refine wpList_append_ints _ rfl (.tmp 15) (.tmp 16) 22 rfl w.heap.size 5 i0 _ 1 .u8 Try.underlying22 hi hz0 hz1 hzb rfl _ [] rfl (own_empty w1 5 .u8 hb1.size) w.heap.size A L c zs rfl ((HR.out.below hb1).alloc hb1.size _) (by simp [maxLen]; omega) (by simp; omega) (by have := hb1.size; simp; omega) ?_; intro v2 w2 hown2 hg2 _; have hb2 : Below w.heap.size w w2 := (own_empty w1 5 .u8 hb1.size).below_ (hb1.alloc hb1.size _) (by have := hb1.size; simp; omega) hg2; simp only [List.nil_append] at hown2; clear hg2; obtain ⟨A2, c2, rfl, hc2, _⟩ := hown2.form; have hrd2 := hown2.rd rfl; rw [HLN.out] at hrd2 hc2 ⊢; have HO2 := Lib.hid hrd2; clear hown2 hrd2)
        | (go_at_call 8; (with_reducible refine (ptail_c _ _ _ _ _ _ HO2.out hc2 n0 hn1 HN2.out).mono ?_); rintro e w3 ⟨A3, c3, rfl, hr3, hc3, hb3⟩; have HR3 := Lib.hid hr3; clear hr3)
        | (go_at_call 9; (with_reducible refine (rtail_c _ _ _ _ _ _ (((HR.out.below hb2).mono hb2.size).below hb3).fit n0 hn1 HN2.out).mono ?_); rintro e w4 ⟨A4, c4, rfl, ho4, hb4⟩; have s3 := str_rd (c := c3) (HR3.out.below hb4); have s4 := str_rd (c := c4) (ho4.rd rfl); have s5 := str_rd (c := c2) (((HO2.out.below hb3).mono hb3.size).below hb4); have s6 := str_rd (c := c) (((((HR.out.below hb2).mono hb2.size).below hb3).mono hb3.size).below hb4); clear ho4)
        | (go_at_call 10; (with_reducible refine (pblocks_c _ n0 n1 _).mono ?_); rintro e w5 ⟨rfl, rfl⟩)
        | (go_at_call 11; (with_reducible refine (rblocks_c _ n0 n1 _).mono ?_); rintro e w5 ⟨rfl, rfl⟩))
      go_ret
      exact ⟨rfl, (hb2.trans (hb3.mono hb2.size)).trans (hb4.mono (Nat.le_trans hb2.size hb3.size))⟩
    · have hno : 2305843009213693952 ≤ n ∨ (L : Int) ≠ n % 64 := by
        by_cases h1 : 2305843009213693952 ≤ n
        · exact .inl h1
        · exact .inr fun h2 => hy ⟨by omega, h2⟩
      have HNO := Lib.hid hno
      clear hy hno
      go_enter Try.func3, Try.ntmps3
      go_wp2_with (first
        | (go_at_call 7; (with_reducible refine (alive2_c _).mono ?_); rintro e w1 ⟨rfl, hb1⟩)
        | (at_builtin; refine wpList_append_ints _ rfl (.tmp 15) (.tmp 16) 22 rfl w.heap.size 5 i0 _ 1 .u8 Try.underlying22 hi hz0 hz1 hzb rfl _ [] rfl (own_empty w1 5 .u8 hb1.size) w.heap.size A L c zs rfl ((HR.out.below hb1).alloc hb1.size _) (by simp [maxLen]; omega) (by simp; omega) (by have := hb1.size; simp; omega) ?_; intro v2 w2 hown2 hg2 _; have hb2 : Below w.heap.size w w2 := (own_empty w1 5 .u8 hb1.size).below_ (hb1.alloc hb1.size _) (by have := hb1.size; simp; omega) hg2; simp only [List.nil_append] at hown2; clear hg2; obtain ⟨A2, c2, rfl, hc2, _⟩ := hown2.form; have hrd2 := hown2.rd rfl; rw [HLN.out] at hrd2 hc2 ⊢; have HO2 := Lib.hid hrd2; clear hown2 hrd2)
        | (go_at_call 8; (with_reducible refine (ptail_no _ _ _ _ _ (by omega) n0 n1 HNO.out).mono ?_); rintro e w3 ⟨A3, c3, rfl, hb3⟩)
        | (go_at_call 9; (with_reducible refine (rtail_no _ _ _ _ _ (by omega) n0 n1 HNO.out).mono ?_); rintro e w4 ⟨rfl, rfl⟩; have s3 := str_rd (w := w3) (A := A3) (c := c3) (Rd.none_ (B := 0)); have s4 := str_rd (w := w3) (A := none) (c := 0) (Rd.none_ (B := 0)); have s5 := str_rd (c := c2) (HO2.out.below hb3); have s6 := str_rd (c := c) (((HR.out.below hb2).mono hb2.size).below hb3))
        | (go_at_call 10; (with_reducible refine (pblocks_c _ n0 n1 _).mono ?_); rintro e w5 ⟨rfl, rfl⟩)
        | (go_at_call 11; (with_reducible refine (rblocks_c _ n0 n1 _).mono ?_); rintro e w5 ⟨rfl, rfl⟩))
      go_ret
      exact ⟨rfl, hb2.trans (hb3.mono hb2.size)⟩
theorem walk (a0 : Option Addr) (n0 c0 : Nat) (z0 : List Int) (a1 : Int) (w : World) (rd0 : Rd .u8 w w.heap.size a0 n0 z0) (lc0 : n0 ≤ c0) (cm0 : c0 ≤ maxLen) (w0 : ∀ z ∈ z0, (Lit.int .u8 z).wf = true) (w1 : (Lit.int .u64 a1).wf = true) :
    Calls Try.prog 3 #[.slice a0 n0 c0, .int .u64 a1] w fun e w' => e = .returned (.bool true) ∧ Below w.heap.size w w' := by
  have := bounds_u64 w1
  exact tails_walk a0 c0 n0 z0 a1 w rd0 lc0 cm0 (by omega) (by omega)


set_option maxRecDepth 100000 in
theorem lifted (os : Os) (started : os.Started) (H : Type) (enc : TypeId × Value → H) :
    ReturnsInHanded {} Try.checked os 3 .any (Rows.padTailsSpec.pre6 enc Try.prog Try.f3 Rows.padTailsRow.domain false) (Rows.padTailsSpec.post enc Try.prog Try.f3 false true false false) := by
  refine returnsInHanded_of_change (C := Try.checked) own started (by kernel_rfl) Try.func3
    (ChangeSpec.witness6 (enc := enc) (C := Try.checked) false ⟨#[], #[.slice none 0 0, .int .u64 0], []⟩ 8 (by kernel_rfl) (by kernel_rfl) (by kernel_rfl) (by kernel_rfl)) ?_
  intro W base args ds gs before hval0 hW hcnd _
  have hval : ∀ (j : Nat) t v, Try.f3.params[j]? = some t → args[j]? = some v → Value.okWide Try.prog W .any base t v := hval0
  have hW' := hW
  obtain ⟨p, q, hA0, hV, rfl, hfz, hnd⟩ := hW
  have hA : DataW.TrodAll enc Try.prog W 0 (fun _ => true) true Try.f3.params.toList args.toList ds p := hA0
  rw [Try.params3] at hA hval
  obtain ⟨v0, vs0, d0, ds0, p0, q0, hargs, rfl, rfl, h0, r0⟩ := trodAll_cons hA
  obtain ⟨v1, vs1, d1, ds1, p1, q1, rfl, rfl, rfl, h1, r1⟩ := trodAll_cons r0
  obtain ⟨rfl, rfl, rfl⟩ := trodAll_nil r1
  obtain rfl : args = #[v0, v1] := by cases args; simp_all
  obtain ⟨rfl, rfl⟩ := trodVars_none hV
  obtain ⟨a0, n0, c0, rfl⟩ := okWide_slice Try.underlying22 (hval 0 22 v0 rfl rfl)
  have k0 := h0
  have lt0 : ∀ x ∈ p0, x.block < W.heap.size := by obtain ⟨m, hm⟩ := k0; exact DataW.trod_lt m _ _ _ hm
  obtain ⟨z0, rd0, lc0, cm0, w0⟩ := open_rd Try.underlying22 Try.underlying5 (by kernel_rfl) h0
  obtain ⟨a1, rfl, rfl, rfl, w1⟩ := open_int Try.underlying23 (hval 1 23 v1 rfl rfl) h1
  clear hA0 hval0
  refine (walk a0 n0 c0 z0 a1 W rd0 lc0 cm0 w0 w1).mono fun e W' ⟨he, bel⟩ => ?_
  subst he
  exact ⟨_, rfl, _, _, _, [], _, [], hW', trodAll_mk1 (shut_bool Try.underlying4 _), (trodAll_cons_mk (Below.trod laidOut (by kernel_rfl) (of_decide_eq_true (by kernel_rfl)) k0 bel lt0) (trodAll_cons_mk (shut_int Try.underlying23 w1) trodAll_mk0)), rfl, bel.frame _, fun h => by cases h⟩

theorem over : Rows.padTailsRow.holds Try.pinned (OpenSpec.ofChange Rows.padTailsSpec) :=
  OpenClaim.holds_of_wide 3 Try.f3 rfl rfl rfl rfl rfl rfl rfl ⟨rfl, rfl, rfl, rfl, rfl⟩ rfl rfl rfl rfl rfl (by kernel_rfl) Try.func3 (by kernel_rfl)
    (of_decide_eq_true (by kernel_rfl)) (by unfold Func.isWrapper; first | (rw [if_pos (by decide +kernel)]; kernel_rfl) | (rw [if_neg (by decide +kernel)]; exact ⟨rfl, rfl⟩))
    (fun os started H enc _ => lifted os started H enc)

end Go.Proofs.Ytpconmnlppjkfaa.padTails
namespace Go.Proofs.Ytpconmnlppjkfaa
theorem padTails_holds : Rows.PadTailsSaid := padTails.over
#print axioms padTails_holds
end Go.Proofs.Ytpconmnlppjkfaa

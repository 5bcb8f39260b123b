/-
  The tail behind a message's whole blocks makes the padded message.
  Conditions: none.
-/
import Derived.Test.YtpconmnlppjkfaaLawB
import Derived.Test.YtpconmnlppjkfaaOpenA
import Derived.Deep.RegionWith
import Derived.Deep.RegionLaw
import Derived.ShutString
import Derived.ChangeOld
namespace Go.Proofs.Ytpconmnlppjkfaa.padSplits
open Go.ChangeShapes Go.WideShapes Go.ChangeAt Go.RowKit
set_option linter.unusedVariables false

theorem own : ownKnob Try.prog.godebug = none := by kernel_rfl
theorem laidOut : laidOutB Try.prog = true := by kernel_rfl

set_option maxHeartbeats 2000000 in
set_option maxRecDepth 100000 in
theorem splits_walk (A : Option Addr) (L c : Nat) (zs : List Int) (w : World) (hr : Rd .u8 w w.heap.size A L zs) (hc : L ≤ c) (hm : c ≤ maxLen) :
    Calls Try.prog 6 #[.slice A L c] w fun e w' => e = .returned (.bool true) ∧ Below w.heap.size w w' := by
  unfold maxLen at hm
  obtain ⟨i0, hi, hz0, hz1, hzb⟩ := info_parts info_u8'
  have HR := Lib.hid hr
  have HLN := Lib.hid hr.len
  clear hr
  by_cases hL : 2000 < L
  · go_enter Try.func6, Try.ntmps6
    go_wp2_with (go_at_call 7; (with_reducible refine (alive2_c _).mono ?_); rintro e w1 ⟨rfl, hb1⟩)
    go_ret
    exact ⟨rfl, hb1⟩
  · obtain ⟨q, hq⟩ : ∃ q, L / 64 = q := ⟨_, rfl⟩
    have hq1 : 64 * q ≤ L := by omega
    have hq2 : L < 64 * q + 64 := by omega
    have hql : (cutN zs q).length = q := by simp [cutN]
    have cc := fun A' c' (W : World) hh hc' => pcut_c A' c' L zs W hh hc' (by omega)
    rw [hq] at cc
    have CC := Lib.hid cc
    have hn : ((L - 64 * q : Nat) : Int) = (L : Int) % 64 := by omega
    have t1 : ((q : Int) != (L : Int) / 64) = false := by rw [bne_eq_false_iff_eq]; omega
    have t2 : (((L - 64 * q : Nat) : Int) != (L : Int) % 64) = false := by rw [hn]; simp
    have HN := Lib.hid hn
    have HQL := Lib.hid hql
    clear cc hql hq hn
    go_enter Try.func6, Try.ntmps6
    go_wp2_with (first
        | (go_at_call 7; (with_reducible refine (alive2_c _).mono ?_); rintro e w1 ⟨rfl, hb1⟩)
        | (go_at_call 12; (with_reducible refine (CC.out _ _ _ (by exact (HR.out.below hb1).fit) hc).mono ?_); rintro e w2 ⟨A2, c2, A3, c3, rfl, hr2, hr3, hc3, hb2⟩; have HR3 := Lib.hid hr3; rw [HQL.out]; clear hr2 hr3)
        | (go_at_call 8; (with_reducible refine (ptail_c _ _ _ _ _ _ HR3.out hc3 (by omega) (by omega) HN.out).mono ?_); rintro e w3 ⟨A4, c4, rfl, hr4, hc4, hb3⟩; have HR4 := Lib.hid hr4; clear hr4))
    have HZ := Lib.hid ((((HR.out.below hb1).mono hb1.size).below hb2).mono hb2.size |>.below hb3 |>.fit)
    have HBW : Hid (Below w.heap.size w w3) := (hb1.trans (hb2.mono hb1.size)).trans (hb3.mono (Nat.le_trans hb1.size hb2.size))
    have hpe : padL zs = zs.take (64 * q) ++ tailL (zs.drop (64 * q)) L := by unfold padL; rw [HLN.out, show L - L % 64 = 64 * q by omega]
    have htl : (tailL (zs.drop (64 * q)) L).length ≤ 256 := by
      rw [tailL_len, List.length_drop, HLN.out]
      have := zer_le (L - 64 * q)
      omega
    have hhl : (zs.take (64 * q)).length = 64 * q := by rw [List.length_take, HLN.out]; omega
    obtain ⟨T, hT⟩ : ∃ T, tailL (zs.drop (64 * q)) L = T := ⟨_, rfl⟩
    obtain ⟨D, hD⟩ : ∃ D, zs.take (64 * q) = D := ⟨_, rfl⟩
    rw [hT, hD] at hpe
    obtain ⟨P, hP⟩ : ∃ P, padL zs = P := ⟨_, rfl⟩
    rw [hP] at hpe
    rw [hT] at HR4 hc4 htl ⊢
    rw [hD] at hhl
    have HU := Lib.hid (HZ.out.upto hq1)
    rw [hD] at HU
    have HPE := Lib.hid hpe
    have HHL := Lib.hid hhl
    have cp := fun (W : World) hh => ppad_c A c L zs W hh hc (by omega)
    rw [hP] at cp
    have CP := Lib.hid cp
    obtain ⟨N, hN⟩ : ∃ N : Nat, 64 * q = N := ⟨_, rfl⟩
    have e64 : IntKind.i64.wrap ((64 : Int) * (q : Int)) = (N : Int) := by rw [IntWalk.i64_in _ (by omega)]; omega
    have n0 : (0 : Int) ≤ (N : Int) := by omega
    have n1 : (N : Int) ≤ (c : Int) := by omega
    have n2 : N ≤ c := by omega
    have n3 : N ≤ 2000 := by omega
    rw [hN] at HU HHL
    clear hN
    clear hb1 hb2 hb3 hpe hhl hT hD hP cp HR HLN hm HR3 hc3 CC HQL HN t1 t2
    have HW := Lib.hid (show w3.heap.size ≤ w3.heap.size from Nat.le_refl _)
    go_region_law (first
      | (go_simp; go_at_call 14; (with_reducible refine (CP.out _ (by exact (HZ.out.below (by go_grown)).fit)).mono ?_); rintro e w5 ⟨A7, c7, rfl, hr7, hc7, hbk⟩; have s7 := str_rd (c := c7) hr7; have s7b := str_rd (c := c7) (hr7.alloc (Nat.le_refl _) (.cells #[] 5)); have HR7 := Lib.hid hr7; have HB5 : Hid (Below w3.heap.size w3 w5) := (Below.trans (b := _) (by go_grown) (hbk.mono (by go_size))); have HBK := Lib.hid hbk; clear hr7 hbk)
      | (refine step_append_ints (w5.alloc (.cells #[] 5)) rfl (.tmp 46) (.tmp 51) 22 rfl w3.heap.size 5 i0 _ 1 .u8 Try.underlying22 hi hz0 hz1 hzb rfl (.slice (some ⟨w5.heap.size, 0, none⟩) 0 0) [] (by rfl) (own_empty w5 5 .u8 HB5.out.size) w3.heap.size A N c D (by rfl) ((HU.out.below HB5.out).alloc HB5.out.size _) (by simp [maxLen]; omega) (by simp; omega) (by have := HB5.out.size; go_size) ?_; intro v6 w6 hown6 hg6 hat6; obtain ⟨r6, ap6⟩ := keep_empty (HR7.out.alloc (Nat.le_refl _) _) (by simp) (own_empty w5 5 .u8 HB5.out.size) hg6 hat6; have HB6 := Lib.hid ((own_empty w5 5 .u8 HB5.out.size).below_ (HB5.out.alloc HB5.out.size _) (by have := HB5.out.size; go_size) hg6); have hz6 := hg6.size; have s7c := str_rd (c := c7) r6; have HR6 := Lib.hid r6; have HA6 := Lib.hid ap6; have HO6 := Lib.hid hown6; simp only [List.nil_append] at HO6; clear r6 ap6 hown6 hg6 hat6)
      | (refine step_append_ints w5 rfl (.tmp 46) (.tmp 51) 22 rfl w3.heap.size 5 i0 _ 1 .u8 Try.underlying22 hi hz0 hz1 hzb rfl (.slice (some ⟨w3.heap.size, 0, none⟩) 0 0) [] (by rfl) ((own_empty w3.drew 5 .u8 (Nat.le_refl _)).below HBK.out) w3.heap.size A N c D (by rfl) (HU.out.below HB5.out) (by simp [maxLen]; omega) (by simp; omega) HB5.out.size ?_; intro v6 w6 hown6 hg6 hat6; obtain ⟨r6, ap6⟩ := keep_empty HR7.out (Nat.le_refl _) ((own_empty (base := w3.heap.size) w3.drew 5 .u8 (Nat.le_refl _)).below HBK.out) hg6 hat6; have HB6 := Lib.hid (((own_empty (base := w3.heap.size) w3.drew 5 .u8 (Nat.le_refl _)).below HBK.out).below_ HB5.out HB5.out.size hg6); have hz6 := hg6.size; have s7c := str_rd (c := c7) r6; have HR6 := Lib.hid r6; have HA6 := Lib.hid ap6; have HO6 := Lib.hid hown6; simp only [List.nil_append] at HO6; clear r6 ap6 hown6 hg6 hat6)
      | (refine step_append_ints w6 rfl (.tmp 52) (.tmp 53) 22 rfl w3.heap.size 5 i0 _ 1 .u8 Try.underlying22 hi hz0 hz1 hzb rfl v6 D (by rfl) HO6.out w3.heap.size A4 T.length c4 T (by rfl) (HR4.out.below HB6.out) (by rw [HHL.out]; simp [maxLen]; omega) (by rw [HHL.out]; omega) HB6.out.size ?_; intro v8 w8 hown8 hg8 _; rw [← HPE.out] at hown8; have s7d := str_rd (c := c7) (HR6.out.grownA HA6.out (by first | exact hz6 | (simp at hz6; omega)) hg8); have HB8 := Lib.hid (HO6.out.below_ HB6.out HB6.out.size hg8); obtain ⟨A8, c8, rfl, _, _⟩ := hown8.form; have s8 := str_rd (c := c8) (hown8.rd rfl); clear hown8 hg8))
    all_goals
      go_wp2
      go_ret
      exact ⟨rfl, HBW.out.trans (HB8.out.mono HBW.out.size)⟩
theorem walk (a0 : Option Addr) (n0 c0 : Nat) (z0 : List Int) (w : World) (rd0 : Rd .u8 w w.heap.size a0 n0 z0) (lc0 : n0 ≤ c0) (cm0 : c0 ≤ maxLen) (w0 : ∀ z ∈ z0, (Lit.int .u8 z).wf = true) :
    Calls Try.prog 6 #[.slice a0 n0 c0] w fun e w' => e = .returned (.bool true) ∧ Below w.heap.size w w' :=
  splits_walk a0 n0 c0 z0 w rd0 lc0 cm0


set_option maxRecDepth 100000 in
theorem lifted (os : Os) (started : os.Started) (H : Type) (enc : TypeId × Value → H) :
    ReturnsInHanded {} Try.checked os 6 .any (Rows.padSplitsSpec.pre6 enc Try.prog Try.f6 Rows.padSplitsRow.domain false) (Rows.padSplitsSpec.post enc Try.prog Try.f6 false true false false) := by
  refine returnsInHanded_of_change (C := Try.checked) own started (by kernel_rfl) Try.func6
    (ChangeSpec.witness6 (enc := enc) (C := Try.checked) false ⟨#[], #[.slice none 0 0], []⟩ 8 (by kernel_rfl) (by kernel_rfl) (by kernel_rfl) (by kernel_rfl)) ?_
  intro W base args ds gs before hval0 hW hcnd _
  have hval : ∀ (j : Nat) t v, Try.f6.params[j]? = some t → args[j]? = some v → Value.okWide Try.prog W .any base t v := hval0
  have hW' := hW
  obtain ⟨p, q, hA0, hV, rfl, hfz, hnd⟩ := hW
  have hA : DataW.TrodAll enc Try.prog W 0 (fun _ => true) true Try.f6.params.toList args.toList ds p := hA0
  rw [Try.params6] at hA hval
  obtain ⟨v0, vs0, d0, ds0, p0, q0, hargs, rfl, rfl, h0, r0⟩ := trodAll_cons hA
  obtain ⟨rfl, rfl, rfl⟩ := trodAll_nil r0
  obtain rfl : args = #[v0] := by cases args; simp_all
  obtain ⟨rfl, rfl⟩ := trodVars_none hV
  obtain ⟨a0, n0, c0, rfl⟩ := okWide_slice Try.underlying22 (hval 0 22 v0 rfl rfl)
  have k0 := h0
  have lt0 : ∀ x ∈ p0, x.block < W.heap.size := by obtain ⟨m, hm⟩ := k0; exact DataW.trod_lt m _ _ _ hm
  obtain ⟨z0, rd0, lc0, cm0, w0⟩ := open_rd Try.underlying22 Try.underlying5 (by kernel_rfl) h0
  clear hA0 hval0
  refine (walk a0 n0 c0 z0 W rd0 lc0 cm0 w0).mono fun e W' ⟨he, bel⟩ => ?_
  subst he
  exact ⟨_, rfl, _, _, _, [], _, [], hW', trodAll_mk1 (shut_bool Try.underlying4 _), (trodAll_cons_mk (Below.trod laidOut (by kernel_rfl) (of_decide_eq_true (by kernel_rfl)) k0 bel lt0) trodAll_mk0), rfl, bel.frame _, fun h => by cases h⟩

theorem over : Rows.padSplitsRow.holds Try.pinned (OpenSpec.ofChange Rows.padSplitsSpec) :=
  OpenClaim.holds_of_wide 6 Try.f6 rfl rfl rfl rfl rfl rfl rfl ⟨rfl, rfl, rfl, rfl, rfl⟩ rfl rfl rfl rfl rfl (by kernel_rfl) Try.func6 (by kernel_rfl)
    (of_decide_eq_true (by kernel_rfl)) (by unfold Func.isWrapper; first | (rw [if_pos (by decide +kernel)]; kernel_rfl) | (rw [if_neg (by decide +kernel)]; exact ⟨rfl, rfl⟩))
    (fun os started H enc _ => lifted os started H enc)

end Go.Proofs.Ytpconmnlppjkfaa.padSplits
namespace Go.Proofs.Ytpconmnlppjkfaa
theorem padSplits_holds : Rows.PadSplitsSaid := padSplits.over
#print axioms padSplits_holds
end Go.Proofs.Ytpconmnlppjkfaa

/-
  Numbers come back of their bytes, bytes of their numbers, and a word that is turned and turned back is as it was.
  Conditions: none.
-/
import Derived.Test.YtaaneoopjjdboaaLawA
import Derived.Deep.RegionHeld3
namespace Go.Proofs.Ytaaneoopjjdboaa.wordBack
open Go.ChangeShapes Go.WideShapes Go.ChangeAt Go.RowKit
set_option linter.unusedVariables false

theorem own : ownKnob Try.prog.godebug = none := by kernel_rfl

theorem get8_bounds (a b c d a' b' c' d' : Int) (a0 : 0 ≤ a) (a1 : a < 256) (b0 : 0 ≤ b) (b1 : b < 256) (c0 : 0 ≤ c) (c1 : c < 256) (d0 : 0 ≤ d) (d1 : d < 256) (a0' : 0 ≤ a') (a1' : a' < 256) (b0' : 0 ≤ b') (b1' : b' < 256) (c0' : 0 ≤ c') (c1' : c' < 256) (d0' : 0 ≤ d') (d1' : d' < 256) : 0 ≤ get8 a b c d a' b' c' d' ∧ get8 a b c d a' b' c' d' < 18446744073709551616 := by
  unfold get8; omega
theorem put_get (a b c d a' b' c' d' : Int) (a0 : 0 ≤ a) (a1 : a < 256) (b0 : 0 ≤ b) (b1 : b < 256) (c0 : 0 ≤ c) (c1 : c < 256) (d0 : 0 ≤ d) (d1 : d < 256) (a0' : 0 ≤ a') (a1' : a' < 256) (b0' : 0 ≤ b') (b1' : b' < 256) (c0' : 0 ≤ c') (c1' : c' < 256) (d0' : 0 ≤ d') (d1' : d' < 256) : put8 (get8 a b c d a' b' c' d') = #[.int .u8 a, .int .u8 b, .int .u8 c, .int .u8 d, .int .u8 a', .int .u8 b', .int .u8 c', .int .u8 d'] := by
  have e0 : get8 a b c d a' b' c' d' % 256 = d' := by unfold get8; omega
  have e1 : get8 a b c d a' b' c' d' / 256 = (((((a * 256 + b) * 256 + c) * 256 + d) * 256 + a') * 256 + b') * 256 + c' := by unfold get8; omega
  unfold put8
  rw [e0, e1]
  have f1 : ((((((a * 256 + b) * 256 + c) * 256 + d) * 256 + a') * 256 + b') * 256 + c') % 256 = c' := by omega
  have e2 : ((((((a * 256 + b) * 256 + c) * 256 + d) * 256 + a') * 256 + b') * 256 + c') / 256 = ((((a * 256 + b) * 256 + c) * 256 + d) * 256 + a') * 256 + b' := by omega
  rw [f1, e2]
  have f2 : (((((a * 256 + b) * 256 + c) * 256 + d) * 256 + a') * 256 + b') % 256 = b' := by omega
  have e3 : (((((a * 256 + b) * 256 + c) * 256 + d) * 256 + a') * 256 + b') / 256 = (((a * 256 + b) * 256 + c) * 256 + d) * 256 + a' := by omega
  rw [f2, e3]
  have f3 : ((((a * 256 + b) * 256 + c) * 256 + d) * 256 + a') % 256 = a' := by omega
  have e4 : ((((a * 256 + b) * 256 + c) * 256 + d) * 256 + a') / 256 = ((a * 256 + b) * 256 + c) * 256 + d := by omega
  rw [f3, e4]
  have f4 : (((a * 256 + b) * 256 + c) * 256 + d) % 256 = d := by omega
  have e5 : (((a * 256 + b) * 256 + c) * 256 + d) / 256 = (a * 256 + b) * 256 + c := by omega
  rw [f4, e5]
  have f5 : ((a * 256 + b) * 256 + c) % 256 = c := by omega
  have e6 : ((a * 256 + b) * 256 + c) / 256 = a * 256 + b := by omega
  rw [f5, e6]
  have f6 : (a * 256 + b) % 256 = b := by omega
  have e7 : (a * 256 + b) / 256 = a := by omega
  rw [f6, e7]
theorem back8 (a b c d a' b' c' d' : Int) (a0 : 0 ≤ a) (a1 : a < 256) (b0 : 0 ≤ b) (b1 : b < 256) (c0 : 0 ≤ c) (c1 : c < 256) (d0 : 0 ≤ d) (d1 : d < 256) (a0' : 0 ≤ a') (a1' : a' < 256) (b0' : 0 ≤ b') (b1' : b' < 256) (c0' : 0 ≤ c') (c1' : c' < 256) (d0' : 0 ≤ d') (d1' : d' < 256) (w : World) : (Op.equalIn 10000 27 (.agg (put8 (get8 a b c d a' b' c' d'))) (.agg #[.int .u8 a, .int .u8 b, .int .u8 c, .int .u8 d, .int .u8 a', .int .u8 b', .int .u8 c', .int .u8 d'])).run Try.prog w = .ok true w := by
  rw [put_get a b c d a' b' c' d' a0 a1 b0 b1 c0 c1 d0 d1 a0' a1' b0' b1' c0' c1' d0' d1']
  have := eq_b8 [a, b, c, d, a', b', c', d'] [a, b, c, d, a', b', c', d'] rfl rfl w
  rw [decide_eq_true rfl] at this
  exact this
theorem get_put (x : Int) (x0 : 0 ≤ x) (x1 : x < 18446744073709551616) (w : World) :
    Calls Try.prog 16 #[.agg (put8 x)] w fun e w' => e = .returned (.int .u64 x) ∧ Below w.heap.size w w' ∧ Grown w w' := by
  have h := get64_c (x / 256 / 256 / 256 / 256 / 256 / 256 / 256) (x / 256 / 256 / 256 / 256 / 256 / 256 % 256) (x / 256 / 256 / 256 / 256 / 256 % 256) (x / 256 / 256 / 256 / 256 % 256) (x / 256 / 256 / 256 % 256) (x / 256 / 256 % 256) (x / 256 % 256) (x % 256)
    (by omega) (by omega) (by omega) (by omega) (by omega) (by omega) (by omega) (by omega) (by omega) (by omega) (by omega) (by omega) (by omega) (by omega) (by omega) (by omega) w
  have e : get8 (x / 256 / 256 / 256 / 256 / 256 / 256 / 256) (x / 256 / 256 / 256 / 256 / 256 / 256 % 256) (x / 256 / 256 / 256 / 256 / 256 % 256) (x / 256 / 256 / 256 / 256 % 256) (x / 256 / 256 / 256 % 256) (x / 256 / 256 % 256) (x / 256 % 256) (x % 256) = x := by
    unfold get8; omega
  rw [e] at h
  exact h
theorem get_put4 (x : Int) (x0 : 0 ≤ x) (x1 : x < 4294967296) (w : World) :
    Calls Try.prog 20 #[.agg (put4 x)] w fun e w' => e = .returned (.int .u32 x) ∧ Below w.heap.size w w' ∧ Grown w w' := by
  have h := get32_c (x / 16777216) (x / 65536 % 256) (x / 256 % 256) (x % 256) (by omega) (by omega) (by omega) (by omega) (by omega) (by omega) (by omega) (by omega) w
  have e : Wd.get4 (x / 16777216) (x / 65536 % 256) (x / 256 % 256) (x % 256) = x := by
    unfold Wd.get4; omega
  rw [e] at h
  exact h
theorem frNext {W w1 w2 : World} (hb : Below w1.heap.size w1 w2) (hg : Grown w1 w2) (h : Fr W w1) : Fr W w2 := h.trans ⟨hb, hg⟩
theorem keepS {W w' : World} {g : Nat} {a b c d a' b' c' d' : Int} (k0 : W.cell? ⟨g, 0, none⟩ = some (.int .u8 a)) (k1 : W.cell? ⟨g, 1, none⟩ = some (.int .u8 b)) (k2 : W.cell? ⟨g, 2, none⟩ = some (.int .u8 c)) (k3 : W.cell? ⟨g, 3, none⟩ = some (.int .u8 d)) (k4 : W.cell? ⟨g, 4, none⟩ = some (.int .u8 a')) (k5 : W.cell? ⟨g, 5, none⟩ = some (.int .u8 b')) (k6 : W.cell? ⟨g, 6, none⟩ = some (.int .u8 c')) (k7 : W.cell? ⟨g, 7, none⟩ = some (.int .u8 d'))
    (z1 : g < W.heap.size) (h : Fr W w') :
    w'.cell? ⟨g, 0, none⟩ = some (.int .u8 a) ∧ w'.cell? ⟨g, 1, none⟩ = some (.int .u8 b) ∧ w'.cell? ⟨g, 2, none⟩ = some (.int .u8 c) ∧ w'.cell? ⟨g, 3, none⟩ = some (.int .u8 d) ∧ w'.cell? ⟨g, 4, none⟩ = some (.int .u8 a') ∧ w'.cell? ⟨g, 5, none⟩ = some (.int .u8 b') ∧ w'.cell? ⟨g, 6, none⟩ = some (.int .u8 c') ∧ w'.cell? ⟨g, 7, none⟩ = some (.int .u8 d') ∧ Fr W w' :=
  have f := fun o => h.1.cell (p := ⟨g, o, none⟩) z1
  ⟨(f 0).trans k0, (f 1).trans k1, (f 2).trans k2, (f 3).trans k3, (f 4).trans k4, (f 5).trans k5, (f 6).trans k6, (f 7).trans k7, h⟩

set_option maxRecDepth 100000 in
set_option maxHeartbeats 4000000 in
theorem walk8 (x a b c d a' b' c' d' k : Int) (x0 : 0 ≤ x) (x1 : x < 18446744073709551616) (a0 : 0 ≤ a) (a1 : a < 256) (b0 : 0 ≤ b) (b1 : b < 256) (c0 : 0 ≤ c) (c1 : c < 256) (d0 : 0 ≤ d) (d1 : d < 256) (a0' : 0 ≤ a') (a1' : a' < 256) (b0' : 0 ≤ b') (b1' : b' < 256) (c0' : 0 ≤ c') (c1' : c' < 256) (d0' : 0 ≤ d') (d1' : d' < 256) (n0 : 0 ≤ k) (n1 : k < 256) (w : World) :
    Calls Try.prog 5 #[.int .u64 x, .agg #[.int .u8 a, .int .u8 b, .int .u8 c, .int .u8 d, .int .u8 a', .int .u8 b', .int .u8 c', .int .u8 d'], .int .u8 k] w fun e w' => e = .returned (.bool true) ∧ Grown w w' := by
  have s8 := back8 a b c d a' b' c' d' a0 a1 b0 b1 c0 c1 d0 d1 a0' a1' b0' b1' c0' c1' d0' d1'
  obtain ⟨y, hy⟩ : ∃ y, x / 4294967296 = y := ⟨_, rfl⟩
  have y0 : 0 ≤ y := by omega
  have y1 : y < 4294967296 := by omega
  obtain ⟨r0, r1⟩ := Wd.rotate_bounds y k y0 y1
  have rb := Wd.rotate_back y k y0 y1
  have rc := rb
  rw [Int.zero_sub] at rc
  obtain ⟨g0, g1⟩ := get8_bounds a b c d a' b' c' d' a0 a1 b0 b1 c0 c1 d0 d1 a0' a1' b0' b1' c0' c1' d0' d1'
  go_enter Try.func5, Try.ntmps5
  go_wp2_with (first
    | (go_at_call 7; (with_reducible refine (alive_c _).mono ?_); rintro e W ⟨rfl, hf1⟩)
    | fail)
  have z1 : w.heap.size < W.heap.size := by have := hf1.1.size; simp at this; omega
  have hcell : ∀ o, W.cell? ⟨w.heap.size, o, none⟩ = (w.alloc (.cells #[.int .u8 a, .int .u8 b, .int .u8 c, .int .u8 d, .int .u8 a', .int .u8 b', .int .u8 c', .int .u8 d'] 27)).cell? ⟨w.heap.size, o, none⟩ := fun o => hf1.1.cell (p := ⟨w.heap.size, o, none⟩) (by simp)
  have k0 := hcell 0
  have k1 := hcell 1
  have k2 := hcell 2
  have k3 := hcell 3
  have k4 := hcell 4
  have k5 := hcell 5
  have k6 := hcell 6
  have k7 := hcell 7
  clear hcell
  simp [go_sem] at k0 k1 k2 k3 k4 k5 k6 k7
  have GW : Grown w W := grown_trans (by go_grown) hf1.2
  obtain ⟨g, hg⟩ : ∃ g, g = w.heap.size := ⟨_, rfl⟩
  rw [← hg] at z1 k0 k1 k2 k3 k4 k5 k6 k7 ⊢
  clear hg hf1 hy
  have hw : IntKind.i64.wrap (-k) = -k := IntWalk.i64_in (-k) (by omega)
  go_region_held3 (fun w' => w'.cell? ⟨g, 0, none⟩ = some (.int .u8 a) ∧ w'.cell? ⟨g, 1, none⟩ = some (.int .u8 b) ∧ w'.cell? ⟨g, 2, none⟩ = some (.int .u8 c) ∧ w'.cell? ⟨g, 3, none⟩ = some (.int .u8 d) ∧ w'.cell? ⟨g, 4, none⟩ = some (.int .u8 a') ∧ w'.cell? ⟨g, 5, none⟩ = some (.int .u8 b') ∧ w'.cell? ⟨g, 6, none⟩ = some (.int .u8 c') ∧ w'.cell? ⟨g, 7, none⟩ = some (.int .u8 d') ∧ Fr W w')
    (first | assumption | exact keepS k0 k1 k2 k3 k4 k5 k6 k7 z1 ⟨(Below.refl _ _).drew, (Grown.refl _).drew⟩ | (go_split_ands; exact keepS k0 k1 k2 k3 k4 k5 k6 k7 z1 (frNext hb hg (by assumption))))
    (first
      | (go_at_call 14; (with_reducible refine (put64_c _ (by omega) (by omega) _).mono ?_); rintro e w2 ⟨rfl, hb, hg⟩)
      | (go_at_call 16; (with_reducible refine (get64_c _ _ _ _ _ _ _ _ a0 a1 b0 b1 c0 c1 d0 d1 a0' a1' b0' b1' c0' c1' d0' d1' _).mono ?_); rintro e w2 ⟨rfl, hb, hg⟩)
      | (go_at_call 16; (with_reducible refine (get_put _ (by omega) (by omega) _).mono ?_); rintro e w2 ⟨rfl, hb, hg⟩)
      | (go_at_call 18; (with_reducible refine (put32_c _ (by omega) (by omega) _).mono ?_); rintro e w2 ⟨rfl, hb, hg⟩)
      | (go_at_call 20; (with_reducible refine (get_put4 _ (by omega) (by omega) _).mono ?_); rintro e w2 ⟨rfl, hb, hg⟩)
      | (go_at_call 12; (with_reducible refine (rotate_c _ _ (by omega) (by omega) (by omega) (by omega) _).mono ?_); rintro e w2 ⟨rfl, rfl⟩))
  go_split_ands
  go_wp2
  go_ret
  exact ⟨rfl, grown_trans GW (‹Fr W w2› : Fr W w2).2⟩

theorem walk (a0 : Int) (w0 : (Lit.int .u64 a0).wf = true) (zs : List Int) (l1 : zs.length = 8) (w1 : ∀ z ∈ zs, (Lit.int .u8 z).wf = true) (k : Int) (w2 : (Lit.int .u8 k).wf = true) (w : World) :
    Calls Try.prog 5 #[.int .u64 a0, .agg (zs.map (Value.int .u8)).toArray, .int .u8 k] w fun e w' => e = .returned (.bool true) ∧ Grown w w' := by
  match zs, l1 with
  | [a, b, c, d, a', b', c', d'], _ =>
    have x := bounds_u64 w0
    have e0 := bounds_u8 (w1 a (by simp))
    have e1 := bounds_u8 (w1 b (by simp))
    have e2 := bounds_u8 (w1 c (by simp))
    have e3 := bounds_u8 (w1 d (by simp))
    have e4 := bounds_u8 (w1 a' (by simp))
    have e5 := bounds_u8 (w1 b' (by simp))
    have e6 := bounds_u8 (w1 c' (by simp))
    have e7 := bounds_u8 (w1 d' (by simp))
    have e8 := bounds_u8 w2
    exact walk8 a0 a b c d a' b' c' d' k (by omega) (by omega) (by omega) (by omega) (by omega) (by omega) (by omega) (by omega) (by omega) (by omega) (by omega) (by omega) (by omega) (by omega) (by omega) (by omega) (by omega) (by omega) (by omega) (by omega) w

set_option maxRecDepth 100000 in
theorem lifted (os : Os) (started : os.Started) (H : Type) (enc : TypeId × Value → H) :
    ReturnsInHanded {} Try.checked os 5 .any (Rows.wordBackSpec.pre6 enc Try.prog Try.f5 Rows.wordBackRow.domain false) (Rows.wordBackSpec.post enc Try.prog Try.f5 false true false false) := by
  refine returnsInHanded_of_change (C := Try.checked) own started (by kernel_rfl) Try.func5
    (ChangeSpec.witness6 (enc := enc) (C := Try.checked) false ⟨#[], #[.int .u64 0, .agg #[.int .u8 0, .int .u8 0, .int .u8 0, .int .u8 0, .int .u8 0, .int .u8 0, .int .u8 0, .int .u8 0], .int .u8 0], []⟩ 8 (by kernel_rfl) (by kernel_rfl) (by kernel_rfl) (by kernel_rfl)) ?_
  intro W base args ds gs before hval0 hW hcnd _
  have hval : ∀ (j : Nat) t v, Try.f5.params[j]? = some t → args[j]? = some v → Value.okWide Try.prog W .any base t v := hval0
  have hW' := hW
  obtain ⟨p, q, hA0, hV, rfl, hfz, hnd⟩ := hW
  have hA : DataW.TrodAll enc Try.prog W 0 (fun _ => true) true Try.f5.params.toList args.toList ds p := hA0
  rw [Try.params5] at hA hval
  obtain ⟨v0, vs0, d0, ds0, p0, q0, hargs, rfl, rfl, h0, r0⟩ := trodAll_cons hA
  obtain ⟨v1, vs1, d1, ds1, p1, q1, rfl, rfl, rfl, h1, r1⟩ := trodAll_cons r0
  obtain ⟨v2, vs2, d2, ds2, p2, q2, rfl, rfl, rfl, h2, r2⟩ := trodAll_cons r1
  obtain ⟨rfl, rfl, rfl⟩ := trodAll_nil r2
  obtain rfl : args = #[v0, v1, v2] := by cases args; simp_all
  obtain ⟨rfl, rfl⟩ := trodVars_none hV
  obtain ⟨a0, rfl, rfl, rfl, w0⟩ := open_int Try.underlying26 (hval 0 26 v0 rfl rfl) h0
  obtain ⟨a1, l1, rfl, rfl, rfl, w1⟩ := open_arr_ints Try.underlying27 Try.underlying5 (by kernel_rfl) (by kernel_rfl) (hval 1 27 v1 rfl rfl) h1
  obtain ⟨a2, rfl, rfl, rfl, w2⟩ := open_int Try.underlying5 (hval 2 5 v2 rfl rfl) h2
  clear hA0 hval0
  simp only [List.append_nil] at hW'
  refine (walk a0 w0 a1 l1 w1 a2 w2 W).mono fun e W' ⟨he, hg⟩ => ?_
  subst he
  exact ⟨_, rfl, post_of_same (pa := []) (pv := []) hW' (fun _ _ _ => (trodAll_cons_mk (shut_bool Try.underlying4 _) trodAll_mk0)) (fun sp _ => (trodAll_cons_mk (shut_int Try.underlying26 w0) (trodAll_cons_mk (shut_arr_ints Try.underlying27 Try.underlying5 (by kernel_rfl) (by kernel_rfl) l1 w1) (trodAll_cons_mk (shut_int Try.underlying5 w2) trodAll_mk0)))) (fun _ _ => rfl) rfl
    (hg.frame _) hg.2.1 (ok_one (by kernel_rfl) rfl (okWide_bool_mk Try.underlying4 _))⟩

theorem over : Rows.wordBackRow.holds Try.pinned (OpenSpec.ofChange Rows.wordBackSpec) :=
  OpenClaim.holds_of_wide 5 Try.f5 rfl rfl rfl rfl rfl rfl rfl ⟨rfl, rfl, rfl, rfl, rfl⟩ rfl rfl rfl rfl rfl (by kernel_rfl) Try.func5 (by kernel_rfl)
    (of_decide_eq_true (by kernel_rfl)) (by unfold Func.isWrapper; first | (rw [if_pos (by decide +kernel)]; kernel_rfl) | (rw [if_neg (by decide +kernel)]; exact ⟨rfl, rfl⟩))
    (fun os started H enc _ => lifted os started H enc)

end Go.Proofs.Ytaaneoopjjdboaa.wordBack
namespace Go.Proofs.Ytaaneoopjjdboaa
theorem wordBack_holds : Rows.WordBackSaid := wordBack.over
#print axioms wordBack_holds
end Go.Proofs.Ytaaneoopjjdboaa

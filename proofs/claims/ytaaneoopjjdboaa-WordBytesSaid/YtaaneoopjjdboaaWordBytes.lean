/-
  For every number and all bytes, package word's bytes, numbers and counts of bits are the document's.
  Conditions: none.
-/
import Derived.Test.YtaaneoopjjdboaaLawA
import Derived.Deep.RegionHeld3
namespace Go.Proofs.Ytaaneoopjjdboaa.wordBytes
open Go.ChangeShapes Go.WideShapes Go.ChangeAt Go.RowKit
set_option linter.unusedVariables false

theorem own : ownKnob Try.prog.godebug = none := by kernel_rfl

def put8L (x : Int) : List Int := [x / 256 / 256 / 256 / 256 / 256 / 256 / 256, x / 256 / 256 / 256 / 256 / 256 / 256 % 256, x / 256 / 256 / 256 / 256 / 256 % 256, x / 256 / 256 / 256 / 256 % 256, x / 256 / 256 / 256 % 256, x / 256 / 256 % 256, x / 256 % 256, x % 256]
def put4L (x : Int) : List Int := [x / 16777216, x / 65536 % 256, x / 256 % 256, x % 256]
theorem same8 (x : Int) (w : World) : (Op.equalIn 10000 27 (.agg (put8 x)) (.agg (put8 x))).run Try.prog w = .ok true w := by
  have := eq_b8 (put8L x) (put8L x) rfl rfl w
  rw [decide_eq_true rfl] at this
  exact this
theorem same4 (x : Int) (w : World) : (Op.equalIn 10000 28 (.agg (put4 x)) (.agg (put4 x))).run Try.prog w = .ok true w := by
  have := eq_b4 (put4L x) (put4L x) rfl rfl w
  rw [decide_eq_true rfl] at this
  exact this

theorem frNext {W w1 w2 : World} (hb : Below w1.heap.size w1 w2) (hg : Grown w1 w2) (h : Fr W w1) : Fr W w2 := h.trans ⟨hb, hg⟩
theorem keepS {W w' : World} {g g2 : Nat} {a b c d a' b' c' d' : Int} (k0 : W.cell? ⟨g, 0, none⟩ = some (.int .u8 a)) (k1 : W.cell? ⟨g, 1, none⟩ = some (.int .u8 b)) (k2 : W.cell? ⟨g, 2, none⟩ = some (.int .u8 c)) (k3 : W.cell? ⟨g, 3, none⟩ = some (.int .u8 d))
    (k4 : W.cell? ⟨g, 4, none⟩ = some (.int .u8 a')) (k5 : W.cell? ⟨g, 5, none⟩ = some (.int .u8 b')) (k6 : W.cell? ⟨g, 6, none⟩ = some (.int .u8 c')) (k7 : W.cell? ⟨g, 7, none⟩ = some (.int .u8 d'))
    (m0 : W.cell? ⟨g2, 0, none⟩ = some (.int .u8 a)) (m1 : W.cell? ⟨g2, 1, none⟩ = some (.int .u8 b)) (m2 : W.cell? ⟨g2, 2, none⟩ = some (.int .u8 c)) (m3 : W.cell? ⟨g2, 3, none⟩ = some (.int .u8 d))
    (z1 : g < W.heap.size) (z2 : g2 < W.heap.size) (h : Fr W w') :
    w'.cell? ⟨g, 0, none⟩ = some (.int .u8 a) ∧ w'.cell? ⟨g, 1, none⟩ = some (.int .u8 b) ∧ w'.cell? ⟨g, 2, none⟩ = some (.int .u8 c) ∧ w'.cell? ⟨g, 3, none⟩ = some (.int .u8 d) ∧
      w'.cell? ⟨g, 4, none⟩ = some (.int .u8 a') ∧ w'.cell? ⟨g, 5, none⟩ = some (.int .u8 b') ∧ w'.cell? ⟨g, 6, none⟩ = some (.int .u8 c') ∧ w'.cell? ⟨g, 7, none⟩ = some (.int .u8 d') ∧
      w'.cell? ⟨g2, 0, none⟩ = some (.int .u8 a) ∧ w'.cell? ⟨g2, 1, none⟩ = some (.int .u8 b) ∧ w'.cell? ⟨g2, 2, none⟩ = some (.int .u8 c) ∧ w'.cell? ⟨g2, 3, none⟩ = some (.int .u8 d) ∧ Fr W w' :=
  have f := fun o => h.1.cell (p := ⟨g, o, none⟩) z1
  have f2 := fun o => h.1.cell (p := ⟨g2, o, none⟩) z2
  ⟨(f 0).trans k0, (f 1).trans k1, (f 2).trans k2, (f 3).trans k3, (f 4).trans k4, (f 5).trans k5, (f 6).trans k6, (f 7).trans k7, (f2 0).trans m0, (f2 1).trans m1, (f2 2).trans m2, (f2 3).trans m3, h⟩

set_option maxRecDepth 100000 in
set_option maxHeartbeats 4000000 in
theorem walk8 (x a b c d a' b' c' d' : Int) (x0 : 0 ≤ x) (x1 : x < 18446744073709551616)
    (a0 : 0 ≤ a) (a1 : a < 256) (b0 : 0 ≤ b) (b1 : b < 256) (c0 : 0 ≤ c) (c1 : c < 256) (d0 : 0 ≤ d) (d1 : d < 256)
    (a0' : 0 ≤ a') (a1' : a' < 256) (b0' : 0 ≤ b') (b1' : b' < 256) (c0' : 0 ≤ c') (c1' : c' < 256) (d0' : 0 ≤ d') (d1' : d' < 256) (w : World) :
    Calls Try.prog 4 #[.int .u64 x, .agg #[.int .u8 a, .int .u8 b, .int .u8 c, .int .u8 d, .int .u8 a', .int .u8 b', .int .u8 c', .int .u8 d']] w fun e w' => e = .returned (.bool true) ∧ Grown w w' := by
  have s8 := same8 x
  have s4 := same4 (x % 4294967296)
  go_enter Try.func4, Try.ntmps4
  go_wp2_with (first
    | (go_at_call 7; (with_reducible refine (alive_c _).mono ?_); rintro e w1 ⟨rfl, hf1⟩)
    | fail)
  have hz : w.heap.size < w1.heap.size := by have := hf1.1.size; simp at this; omega
  have hcell : ∀ o, w1.cell? ⟨w.heap.size, o, none⟩ = (w.alloc (.cells #[.int .u8 a, .int .u8 b, .int .u8 c, .int .u8 d, .int .u8 a', .int .u8 b', .int .u8 c', .int .u8 d'] 27)).cell? ⟨w.heap.size, o, none⟩ := fun o => hf1.1.cell (p := ⟨w.heap.size, o, none⟩) (by simp)
  have k0 := hcell 0
  have k1 := hcell 1
  have k2 := hcell 2
  have k3 := hcell 3
  have k4 := hcell 4
  have k5 := hcell 5
  have k6 := hcell 6
  have k7 := hcell 7
  clear hcell
  simp [go_sem] at k0 k1 k2 k3 k4 k5 k6 k7
  have hf := Lib.hid hf1
  clear hf1
  go_region
  go_wp2
  obtain ⟨W, hW⟩ : ∃ W, W = (w1.alloc (.cells #[.int .u8 a, .int .u8 b, .int .u8 c, .int .u8 d] 28)).drew := ⟨_, rfl⟩
  rw [← hW]
  have FW : Fr (w.alloc (.cells #[.int .u8 a, .int .u8 b, .int .u8 c, .int .u8 d, .int .u8 a', .int .u8 b', .int .u8 c', .int .u8 d'] 27)) W := by
    subst hW
    exact hf.out.trans ⟨by go_grown, by go_grown⟩
  have GW : Grown w W := grown_trans (by go_grown) FW.2
  obtain ⟨g, hg⟩ : ∃ g, g = w.heap.size := ⟨_, rfl⟩
  obtain ⟨g2, hg2⟩ : ∃ g2, g2 = w1.heap.size := ⟨_, rfl⟩
  have m0 : W.cell? ⟨g2, 0, none⟩ = some (.int .u8 a) := by subst hW; subst hg2; simp [go_sem]
  have m1 : W.cell? ⟨g2, 1, none⟩ = some (.int .u8 b) := by subst hW; subst hg2; simp [go_sem]
  have m2 : W.cell? ⟨g2, 2, none⟩ = some (.int .u8 c) := by subst hW; subst hg2; simp [go_sem]
  have m3 : W.cell? ⟨g2, 3, none⟩ = some (.int .u8 d) := by subst hW; subst hg2; simp [go_sem]
  have kk : ∀ o, W.cell? ⟨w.heap.size, o, none⟩ = w1.cell? ⟨w.heap.size, o, none⟩ := by
    intro o
    subst hW
    exact World.cell?_alloc_lt w1 _ ⟨w.heap.size, o, none⟩ hz
  rw [← kk] at k0 k1 k2 k3 k4 k5 k6 k7
  clear kk
  rw [← hg] at k0 k1 k2 k3 k4 k5 k6 k7
  have z1 : g < W.heap.size := by subst hW; subst hg; simp; omega
  have z2 : g2 < W.heap.size := by subst hW; subst hg2; simp
  rw [← hg, ← hg2]
  clear hg hg2 hW hf hz FW
  go_region_held3 (fun w' => w'.cell? ⟨g, 0, none⟩ = some (.int .u8 a) ∧ w'.cell? ⟨g, 1, none⟩ = some (.int .u8 b) ∧ w'.cell? ⟨g, 2, none⟩ = some (.int .u8 c) ∧ w'.cell? ⟨g, 3, none⟩ = some (.int .u8 d) ∧
      w'.cell? ⟨g, 4, none⟩ = some (.int .u8 a') ∧ w'.cell? ⟨g, 5, none⟩ = some (.int .u8 b') ∧ w'.cell? ⟨g, 6, none⟩ = some (.int .u8 c') ∧ w'.cell? ⟨g, 7, none⟩ = some (.int .u8 d') ∧
      w'.cell? ⟨g2, 0, none⟩ = some (.int .u8 a) ∧ w'.cell? ⟨g2, 1, none⟩ = some (.int .u8 b) ∧ w'.cell? ⟨g2, 2, none⟩ = some (.int .u8 c) ∧ w'.cell? ⟨g2, 3, none⟩ = some (.int .u8 d) ∧ Fr W w')
    (first | assumption | exact keepS k0 k1 k2 k3 k4 k5 k6 k7 m0 m1 m2 m3 z1 z2 ⟨(Below.refl _ _).drew, (Grown.refl _).drew⟩ | (go_split_ands; exact keepS k0 k1 k2 k3 k4 k5 k6 k7 m0 m1 m2 m3 z1 z2 (frNext hb hg (by assumption))))
    (first
      | (go_at_call 14; (with_reducible refine (put64_c _ (by omega) (by omega) _).mono ?_); rintro e w2 ⟨rfl, hb, hg⟩)
      | (go_at_call 15; (with_reducible refine (rput64_c _ (by omega) (by omega) _).mono ?_); rintro e w2 ⟨rfl, hb, hg⟩)
      | (go_at_call 16; (with_reducible refine (get64_c _ _ _ _ _ _ _ _ a0 a1 b0 b1 c0 c1 d0 d1 a0' a1' b0' b1' c0' c1' d0' d1' _).mono ?_); rintro e w2 ⟨rfl, hb, hg⟩)
      | (go_at_call 17; (with_reducible refine (rget64_c _ _ _ _ _ _ _ _ a0 a1 b0 b1 c0 c1 d0 d1 a0' a1' b0' b1' c0' c1' d0' d1' _).mono ?_); rintro e w2 ⟨rfl, hb, hg⟩)
      | (go_at_call 18; (with_reducible refine (put32_c _ (by omega) (by omega) _).mono ?_); rintro e w2 ⟨rfl, hb, hg⟩)
      | (go_at_call 19; (with_reducible refine (rput32_c _ (by omega) (by omega) _).mono ?_); rintro e w2 ⟨rfl, hb, hg⟩)
      | (go_at_call 20; (with_reducible refine (get32_c _ _ _ _ a0 a1 b0 b1 c0 c1 d0 d1 _).mono ?_); rintro e w2 ⟨rfl, hb, hg⟩)
      | (go_at_call 21; (with_reducible refine (rget32_c _ _ _ _ a0 a1 b0 b1 c0 c1 d0 d1 _).mono ?_); rintro e w2 ⟨rfl, hb, hg⟩)
      | (go_at_call 22; (with_reducible refine (bits_i _ x0 x1 _).mono ?_); rintro e w2 ⟨rfl, rfl⟩)
      | (go_at_call 23; (with_reducible refine (rbits_i _ x0 x1 _).mono ?_); rintro e w2 ⟨rfl, rfl⟩))
  go_split_ands
  go_wp2
  go_ret
  exact ⟨rfl, grown_trans GW (‹Fr W w2› : Fr W w2).2⟩

theorem walk (a0 : Int) (w0 : (Lit.int .u64 a0).wf = true) (zs : List Int) (l1 : zs.length = 8) (w1 : ∀ z ∈ zs, (Lit.int .u8 z).wf = true) (w : World) :
    Calls Try.prog 4 #[.int .u64 a0, .agg (zs.map (Value.int .u8)).toArray] w fun e w' => e = .returned (.bool true) ∧ Grown w w' := by
  match zs, l1 with
  | [a, b, c, d, a', b', c', d'], _ =>
    have x := bounds_u64 w0
    have e1 := bounds_u8 (w1 a (by simp))
    have e2 := bounds_u8 (w1 b (by simp))
    have e3 := bounds_u8 (w1 c (by simp))
    have e4 := bounds_u8 (w1 d (by simp))
    have e5 := bounds_u8 (w1 a' (by simp))
    have e6 := bounds_u8 (w1 b' (by simp))
    have e7 := bounds_u8 (w1 c' (by simp))
    have e8 := bounds_u8 (w1 d' (by simp))
    exact walk8 a0 a b c d a' b' c' d' (by omega) (by omega) (by omega) (by omega) (by omega) (by omega) (by omega) (by omega) (by omega) (by omega) (by omega) (by omega) (by omega) (by omega) (by omega) (by omega) (by omega) (by omega) w

set_option maxRecDepth 100000 in
theorem lifted (os : Os) (started : os.Started) (H : Type) (enc : TypeId × Value → H) :
    ReturnsInHanded {} Try.checked os 4 .any (Rows.wordBytesSpec.pre6 enc Try.prog Try.f4 Rows.wordBytesRow.domain false) (Rows.wordBytesSpec.post enc Try.prog Try.f4 false true false false) := by
  refine returnsInHanded_of_change (C := Try.checked) own started (by kernel_rfl) Try.func4
    (ChangeSpec.witness6 (enc := enc) (C := Try.checked) false ⟨#[], #[.int .u64 0, .agg #[.int .u8 0, .int .u8 0, .int .u8 0, .int .u8 0, .int .u8 0, .int .u8 0, .int .u8 0, .int .u8 0]], []⟩ 8 (by kernel_rfl) (by kernel_rfl) (by kernel_rfl) (by kernel_rfl)) ?_
  intro W base args ds gs before hval0 hW hcnd _
  have hval : ∀ (j : Nat) t v, Try.f4.params[j]? = some t → args[j]? = some v → Value.okWide Try.prog W .any base t v := hval0
  have hW' := hW
  obtain ⟨p, q, hA0, hV, rfl, hfz, hnd⟩ := hW
  have hA : DataW.TrodAll enc Try.prog W 0 (fun _ => true) true Try.f4.params.toList args.toList ds p := hA0
  rw [Try.params4] at hA hval
  obtain ⟨v0, vs0, d0, ds0, p0, q0, hargs, rfl, rfl, h0, r0⟩ := trodAll_cons hA
  obtain ⟨v1, vs1, d1, ds1, p1, q1, rfl, rfl, rfl, h1, r1⟩ := trodAll_cons r0
  obtain ⟨rfl, rfl, rfl⟩ := trodAll_nil r1
  obtain rfl : args = #[v0, v1] := by cases args; simp_all
  obtain ⟨rfl, rfl⟩ := trodVars_none hV
  obtain ⟨a0, rfl, rfl, rfl, w0⟩ := open_int Try.underlying26 (hval 0 26 v0 rfl rfl) h0
  obtain ⟨a1, l1, rfl, rfl, rfl, w1⟩ := open_arr_ints Try.underlying27 Try.underlying5 (by kernel_rfl) (by kernel_rfl) (hval 1 27 v1 rfl rfl) h1
  clear hA0 hval0
  simp only [List.append_nil] at hW'
  refine (walk a0 w0 a1 l1 w1 W).mono fun e W' ⟨he, hg⟩ => ?_
  subst he
  exact ⟨_, rfl, post_of_same (pa := []) (pv := []) hW' (fun _ _ _ => (trodAll_cons_mk (shut_bool Try.underlying4 _) trodAll_mk0)) (fun sp _ => (trodAll_cons_mk (shut_int Try.underlying26 w0) (trodAll_cons_mk (shut_arr_ints Try.underlying27 Try.underlying5 (by kernel_rfl) (by kernel_rfl) l1 w1) trodAll_mk0))) (fun _ _ => rfl) rfl
    (hg.frame _) hg.2.1 (ok_one (by kernel_rfl) rfl (okWide_bool_mk Try.underlying4 _))⟩

theorem over : Rows.wordBytesRow.holds Try.pinned (OpenSpec.ofChange Rows.wordBytesSpec) :=
  OpenClaim.holds_of_wide 4 Try.f4 rfl rfl rfl rfl rfl rfl rfl ⟨rfl, rfl, rfl, rfl, rfl⟩ rfl rfl rfl rfl rfl (by kernel_rfl) Try.func4 (by kernel_rfl)
    (of_decide_eq_true (by kernel_rfl)) (by unfold Func.isWrapper; first | (rw [if_pos (by decide +kernel)]; kernel_rfl) | (rw [if_neg (by decide +kernel)]; exact ⟨rfl, rfl⟩))
    (fun os started H enc _ => lifted os started H enc)

end Go.Proofs.Ytaaneoopjjdboaa.wordBytes
namespace Go.Proofs.Ytaaneoopjjdboaa
theorem wordBytes_holds : Rows.WordBytesSaid := wordBytes.over
#print axioms wordBytes_holds
end Go.Proofs.Ytaaneoopjjdboaa

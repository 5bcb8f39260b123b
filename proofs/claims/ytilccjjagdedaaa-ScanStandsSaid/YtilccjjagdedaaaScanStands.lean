/-
  The stakes ahead of an owner are no more than the ticket, with its own they are; it has one; of up to 300 stakes.
  Conditions: none.
-/
import Derived.Test.YtilccjjagdedaaaLawQ
import Derived.Test.YtilccjjagdedaaaOpenA
import Derived.ShutString
import Derived.ChangeOld
namespace Go.Proofs.Ytilccjjagdedaaa.scanStands
open Go.ChangeShapes Go.WideShapes Go.ChangeAt Go.RowKit
set_option linter.unusedVariables false
set_option linter.unusedSimpArgs false
set_option maxRecDepth 100000

theorem own : ownKnob Try.prog.godebug = none := by kernel_rfl
theorem laidOut : laidOutB Try.prog = true := by kernel_rfl

set_option maxHeartbeats 8000000 in
theorem walk (t : Int) (a0 : Option Addr) (n c : Nat) (zs : List Int) (w : World) (w0 : (Lit.int .u64 t).wf = true) (hrd : Rd .u64 w w.heap.size a0 n zs) (lc : n ≤ c) (cm : c ≤ maxLen) (hw : ∀ z ∈ zs, (Lit.int .u64 z).wf = true) :
    Calls Try.prog 4 #[.int .u64 t, .slice a0 n c] w fun e w' => e = .returned (.bool true) ∧ Below w.heap.size w w' := by
  have G0 : Hid (Fx [.rdb .u64 w.heap.size a0 n zs, .bel w] w) := Lib.hid ⟨⟨hrd, Nat.le_refl _⟩, Below.refl _ _, trivial⟩
  have hlen := hrd.len
  have hz : ∀ z ∈ zs, 0 ≤ z ∧ z < 18446744073709551616 := fun z h => by
    obtain ⟨h1, h2⟩ := bounds_u64 (hw z h)
    omega
  have t0 : 0 ≤ t := (bounds_u64 w0).1
  have t1 : t < 18446744073709551616 := by have := (bounds_u64 w0).2; omega
  by_cases hg : 300 < n
  · have hg2 : (300 : Int) < (n : Int) := by omega
    clear hrd hw hz hg
    go_enter Try.func4, Try.ntmps4
    go_wp2_with (first
      | (go_at_call 5; (with_reducible refine (alive12_c _).mono ?_); rintro e w1 ⟨rfl, hbw1⟩; have G2 := Lib.hid (Fx.below G0.out hbw1); clear G0; clear hbw1))
    go_ret
    exact ⟨rfl, (Fx.e1 G2.out)⟩
  have hg2 : (n : Int) ≤ 300 := by omega
  have hn5 : n ≤ 100000000 := by omega
  have hn6 : n ≤ 1000000 := by omega
  have hnm : n ≤ maxLen := by simp only [maxLen]; omega
  have hz0 : ∀ z ∈ zs, 0 ≤ z := fun z h => (hz z h).1
  by_cases hs : sumL zs < 9223372036854775808
  · by_cases ht : t < sumL zs
    · obtain ⟨k, e1, e2, e3, e4, e5⟩ := own_at hz0 t0 ht
      have h1 := fun A c W h => calls_val (q12owner_c zs hz A n c hn6 t t0 t1 W h) (tup_ii ((sco_ok t hs).1.trans e2) ((sco_ok t hs).2.trans e3))
      have hk : k < n := by omega
      have HK : Hid (k ≤ n) := Lib.hid (by omega)
      have HK1 : Hid (k + 1 ≤ n) := Lib.hid hk
      have hkn : (k : Int) < (n : Int) := by omega
      have hkc : (k : Int) ≤ (c : Int) := by omega
      have hkc1 : (k : Int) + 1 ≤ (c : Int) := by omega
      have hk0 : (0 : Int) ≤ (k : Int) := by omega
      have hl : ∀ j, sumL (zs.take j) < 9223372036854775808 := fun j => Int.lt_of_le_of_lt (sumL_le hz0 j) hs
      have h2 := fun A c W h => calls_val (q12total_c (zs.take k) (fun z h => hz z (List.mem_of_mem_take h)) A k c (by omega) W h) (tup_ui (tot_ok (hl k)).2 (tot_ok (hl k)).1)
      have h3 := fun A c W h => calls_val (q12total_c (zs.take (k + 1)) (fun z h => hz z (List.mem_of_mem_take h)) A (k + 1) c (by omega) W h) (tup_ui (tot_ok (hl (k + 1))).2 (tot_ok (hl (k + 1))).1)
      have hwt := wit_ok (l := zs) (i := (k : Int)) ⟨by omega, by omega⟩
      rw [Int.toNat_natCast] at hwt
      have hl2 : (zs.set k 0).length = n := by rw [List.length_set]; exact hlen
      have h4 := fun A c W h => calls_lst (q12without_c zs hz A n c hn6 k (by omega) (by omega) W h) hwt.2 hwt.1 hl2
      have hz2 : ∀ z ∈ zs.set k 0, 0 ≤ z ∧ z < 18446744073709551616 := fun z h => by
        rcases List.mem_or_eq_of_mem_set h with h | h
        · exact hz z h
        · rw [h]; exact ⟨by omega, by omega⟩
      have h5 := fun A c W h => q12pos_c (zs.set k 0) hz2 A n c hn6 W h
      have h6 := fun A c W h => q12pos_c zs hz A n c hn6 W h
      have hnx := preL_next (l := zs) (n := k) e1
      have hps := posL_set (l := zs) (k := k) e1 (by omega)
      have hpl := posL_le zs
      have f4 : sumL (zs.take k) ≤ t := e4
      have f5 : t < sumL (zs.take (k + 1)) := e5
      obtain ⟨s1, hs1⟩ : ∃ x, sumL (zs.take k) = x := ⟨_, rfl⟩
      obtain ⟨s2, hs2⟩ : ∃ x, sumL (zs.take (k + 1)) = x := ⟨_, rfl⟩
      obtain ⟨p1, hp1⟩ : ∃ x, posL (zs.set k 0) = x := ⟨_, rfl⟩
      obtain ⟨p2, hp2⟩ : ∃ x, posL zs = x := ⟨_, rfl⟩
      rw [hs1] at h2 f4
      rw [hs2] at h3 f5
      rw [hp1] at h5 hps
      rw [hp2] at h6 hps hpl
      have hpp : (p2 : Int) - 1 = (p1 : Int) := by omega
      have hpb : (p1 : Int) ≤ 300 := by omega
      have H1 := Lib.hid h1
      have H2 := Lib.hid h2
      have H3 := Lib.hid h3
      have H4 := Lib.hid h4
      have H5 := Lib.hid h5
      have H6 := Lib.hid h6
      clear h1 h2 h3 h4 h5 h6 hs1 hs2 hp1 hp2 hps hpl hnx hz2 hl2 hwt hl hk e1 e2 e3 e4 e5 ht
      clear hs hrd hw hz hz0 hg hn5 hn6 hnm lc cm hlen w0
      go_enter Try.func4, Try.ntmps4
      go_wp2_with (first
        | (go_at_call 5; (with_reducible refine (alive12_c _).mono ?_); rintro e w1 ⟨rfl, hbw1⟩; have G2 := Lib.hid (Fx.below G0.out hbw1); clear G0; clear hbw1)
        | (go_at_call 6; (with_reducible refine (H1.out _ _ _ (Fx.r0 G2.out)).mono ?_); rintro e w3 ⟨rfl, hbw3⟩; have G4 := Lib.hid (Fx.below G2.out hbw3); clear G2; clear hbw3)
        | (go_at_call 8; (with_reducible refine (H2.out _ _ _ (Rd.upto (Fx.r0 G4.out) HK.out)).mono ?_); rintro e w5 ⟨rfl, hbw5⟩; have G6 := Lib.hid (Fx.below G4.out hbw5); clear G4; clear hbw5)
        | (go_at_call 8; (with_reducible refine (H3.out _ _ _ (Rd.upto (Fx.r0 G6.out) HK1.out)).mono ?_); rintro e w7 ⟨rfl, hbw7⟩; have G8 := Lib.hid (Fx.below G6.out hbw7); clear G6; clear hbw7)
        | (go_at_call 10; (with_reducible refine (H4.out _ _ _ (Fx.r0 G8.out)).mono ?_); rintro e w9 ⟨A10, c11, rfl, hrw9, hlw9, hmw9, hbw9⟩; have lc11 := Lib.hid hlw9; have mc11 := Lib.hid hmw9; have G12 := Lib.hid (Fx.addR G8.out hbw9 hrw9); clear G8; clear hrw9 hbw9 hlw9 hmw9)
        | (go_at_call 13; (with_reducible refine (H5.out _ _ _ (Fx.r0 G12.out)).mono ?_); rintro e w13 ⟨rfl, hbw13⟩; have G14 := Lib.hid (Fx.below G12.out hbw13); clear G12; clear hbw13)
        | (go_at_call 13; (with_reducible refine (H6.out _ _ _ (Fx.r1 G14.out)).mono ?_); rintro e w15 ⟨rfl, hbw15⟩; have G16 := Lib.hid (Fx.below G14.out hbw15); clear G14; clear hbw15))
      go_ret
      exact ⟨rfl, (Fx.e2 G16.out)⟩
    · have hno := own_no hz0 (t := t) (by omega)
      have H1 := Lib.hid (fun A c W h => calls_val (q12owner_c zs hz A n c hn6 t t0 t1 W h) (tup_ii ((sco_ok t hs).1.trans hno.1) ((sco_ok t hs).2.trans hno.2)))
      clear hno ht
      clear hs hrd hw hz hz0 hg hn5 hn6 hnm lc cm hlen w0 t0 t1
      go_enter Try.func4, Try.ntmps4
      go_wp2_with (first
        | (go_at_call 5; (with_reducible refine (alive12_c _).mono ?_); rintro e w1 ⟨rfl, hbw1⟩; have G2 := Lib.hid (Fx.below G0.out hbw1); clear G0; clear hbw1)
        | (go_at_call 6; (with_reducible refine (H1.out _ _ _ (Fx.r0 G2.out)).mono ?_); rintro e w3 ⟨rfl, hbw3⟩; have G4 := Lib.hid (Fx.below G2.out hbw3); clear G2; clear hbw3))
      go_ret
      exact ⟨rfl, (Fx.e1 G4.out)⟩
  · have H1 := Lib.hid (fun A c W h => calls_val (q12owner_c zs hz A n c hn6 t t0 t1 W h) (tup_ii (sco_no t hs).1 (sco_no t hs).2))
    clear hs hrd hw hz hz0 hg hn5 hn6 hnm lc cm hlen w0 t0 t1
    go_enter Try.func4, Try.ntmps4
    go_wp2_with (first
      | (go_at_call 5; (with_reducible refine (alive12_c _).mono ?_); rintro e w1 ⟨rfl, hbw1⟩; have G2 := Lib.hid (Fx.below G0.out hbw1); clear G0; clear hbw1)
      | (go_at_call 6; (with_reducible refine (H1.out _ _ _ (Fx.r0 G2.out)).mono ?_); rintro e w3 ⟨rfl, hbw3⟩; have G4 := Lib.hid (Fx.below G2.out hbw3); clear G2; clear hbw3))
    go_ret
    exact ⟨rfl, (Fx.e1 G4.out)⟩


set_option maxRecDepth 100000 in
theorem lifted (os : Os) (started : os.Started) (H : Type) (enc : TypeId × Value → H) :
    ReturnsInHanded {} Try.checked os 4 .any (Rows.scanStandsSpec.pre6 enc Try.prog Try.f4 Rows.scanStandsRow.domain false) (Rows.scanStandsSpec.post enc Try.prog Try.f4 false true false false) := by
  refine returnsInHanded_of_change (C := Try.checked) own started (by kernel_rfl) Try.func4
    (ChangeSpec.witness6 (enc := enc) (C := Try.checked) false ⟨#[], #[.int .u64 0, .slice none 0 0], []⟩ 8 (by kernel_rfl) (by kernel_rfl) (by kernel_rfl) (by kernel_rfl)) ?_
  intro W base args ds gs before hval0 hW hcnd _
  have hval : ∀ (j : Nat) t v, Try.f4.params[j]? = some t → args[j]? = some v → Value.okWide Try.prog W .any base t v := hval0
  have hW' := hW
  obtain ⟨p, q, hA0, hV, rfl, hfz, hnd⟩ := hW
  have hA : DataW.TrodAll enc Try.prog W 0 (fun _ => true) true Try.f4.params.toList args.toList ds p := hA0
  rw [Try.params4] at hA hval
  obtain ⟨v0, vs0, d0, ds0, p0, q0, hargs, rfl, rfl, h0, r0⟩ := trodAll_cons hA
  obtain ⟨v1, vs1, d1, ds1, p1, q1, rfl, rfl, rfl, h1, r1⟩ := trodAll_cons r0
  obtain ⟨rfl, rfl, rfl⟩ := trodAll_nil r1
  obtain rfl : args = #[v0, v1] := by cases args; simp_all
  obtain ⟨rfl, rfl⟩ := trodVars_none hV
  obtain ⟨a0, rfl, rfl, rfl, w0⟩ := open_int Try.underlying22 (hval 0 22 v0 rfl rfl) h0
  obtain ⟨a1, n1, c1, rfl⟩ := okWide_slice Try.underlying23 (hval 1 23 v1 rfl rfl)
  have k1 := h1
  have lt1 : ∀ x ∈ p1, x.block < W.heap.size := by obtain ⟨m, hm⟩ := k1; exact DataW.trod_lt m _ _ _ hm
  obtain ⟨z1, rd1, lc1, cm1, w1⟩ := open_rd Try.underlying23 Try.underlying22 (by kernel_rfl) h1
  clear hA0 hval0
  refine (walk a0 a1 n1 c1 z1 W w0 rd1 lc1 cm1 w1).mono fun e W' ⟨he, bel⟩ => ?_
  subst he
  exact ⟨_, rfl, _, _, _, [], _, [], hW', trodAll_mk1 (shut_bool Try.underlying4 _), (trodAll_cons_mk (shut_int Try.underlying22 w0) (trodAll_cons_mk (Below.trod laidOut (by kernel_rfl) (of_decide_eq_true (by kernel_rfl)) k1 bel lt1) trodAll_mk0)), rfl, bel.frame _, fun h => by cases h⟩

theorem over : Rows.scanStandsRow.holds Try.pinned (OpenSpec.ofChange Rows.scanStandsSpec) :=
  OpenClaim.holds_of_wide 4 Try.f4 rfl rfl rfl rfl rfl rfl rfl ⟨rfl, rfl, rfl, rfl, rfl⟩ rfl rfl rfl rfl rfl (by kernel_rfl) Try.func4 (by kernel_rfl)
    (of_decide_eq_true (by kernel_rfl)) (by unfold Func.isWrapper; first | (rw [if_pos (by decide +kernel)]; kernel_rfl) | (rw [if_neg (by decide +kernel)]; exact ⟨rfl, rfl⟩))
    (fun os started H enc _ => lifted os started H enc)

end Go.Proofs.Ytilccjjagdedaaa.scanStands
namespace Go.Proofs.Ytilccjjagdedaaa
theorem scanStands_holds : Rows.ScanStandsSaid := scanStands.over
#print axioms scanStands_holds
end Go.Proofs.Ytilccjjagdedaaa

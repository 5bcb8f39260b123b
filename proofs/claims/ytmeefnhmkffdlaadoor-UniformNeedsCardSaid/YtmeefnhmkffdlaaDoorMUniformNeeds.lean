/-
  An attempt takes as few bits as can say each number below the bound.
  Conditions: the program's table of constants reads, when the call begins, as its text lays it (the card ties that).
-/
import Derived.Test.YtmeefnhmkffdlaaDoorGe
import Derived.ShutString
import Derived.Test.YtmeefnhmkffdlaaDoorTie
import Derived.Test.YtmeefnhmkffdlaaDoorCards
import Derived.SevenTiedAt
import Derived.ChangeOld
namespace Go.Proofs.YtmeefnhmkffdlaaDoor.uniformNeeds
open Go.ChangeShapes Go.WideShapes Go.ChangeAt Go.RowKit
set_option linter.unusedVariables false
set_option linter.unusedSimpArgs false
set_option maxRecDepth 100000

theorem own : ownKnob Tryd.prog.godebug = none := by kernel_rfl
theorem laidOut : laidOutB Tryd.prog = true := by kernel_rfl

theorem need_small (n : Int) (n0 : 0 ≤ n) (h : n < 2) : needN n = 0 := by
  have : n = 0 ∨ n = 1 := by omega
  rcases this with rfl | rfl <;> rfl
/-- As few bits as can say each number below n. -/
theorem need_big (n : Int) (h : 2 ≤ n) : 1 ≤ needN n ∧ ((2 ^ (needN n - 1) : Nat) : Int) < n ∧ n ≤ ((2 ^ needN n : Nat) : Int) := by
  have e : needN n = (n - 1).toNat.log2 + 1 := by
    unfold needN Wd.bitsL
    rw [if_neg (by omega), if_neg (by omega)]
  obtain ⟨x, hx⟩ : ∃ x, (n - 1).toNat = x := ⟨_, rfl⟩
  rw [hx] at e
  have h1 := Nat.log2_self_le (n := x) (by omega)
  have h2 := Nat.lt_log2_self (n := x)
  rw [e, Nat.add_sub_cancel]
  exact ⟨by omega, by omega, by omega⟩
theorem pow2_u64 (i : Nat) (h : i ≤ 63) : 2 ^ i < 18446744073709551616 := Nat.lt_of_le_of_lt (Nat.pow_le_pow_right (by omega) h) (by decide)
set_option maxHeartbeats 4000000 in
theorem walk (n : Int) (w : World) (w1 : (Lit.int .u64 n).wf = true) (hkst : Kst w) :
    Calls Tryd.prog 6 #[.int .u64 n] w fun e w' => e = .returned (.bool true) ∧ Below w.heap.size w w' := by
  obtain ⟨n0, n1⟩ := bounds_u64 w1
  have HKS := Lib.hid hkst
  have hn := fun W => q8need_c n n0 (by omega) W
  by_cases h2 : n < 2
  · rw [need_small n n0 h2] at hn
    have HN := Lib.hid hn
    clear hn hkst w1 n1
    go_enter Tryd.func6, Tryd.ntmps6
    go_wp2_with (first
      | (go_at_call 7; (with_reducible refine (alive8_c w HKS.out).mono ?_); rintro e wa ⟨rfl, hba⟩; have HB := Lib.hid hba; clear hba)
      | (go_at_call 11; (with_reducible refine (HN.out _).mono ?_); rintro e _ ⟨rfl, rfl⟩))
    go_ret
    exact ⟨rfl, HB.out⟩
  · obtain ⟨k1, hlo, hhi⟩ := need_big n (by omega)
    have k64 := needN_le n n0 (by omega)
    obtain ⟨k, hk⟩ : ∃ k, needN n = k := ⟨_, rfl⟩
    rw [hk] at hn k1 hlo hhi k64
    have hp1 := fun W => r8pow_c 2 (k - 1) (fun i hi => pow2_u64 i (by omega)) (by omega) W
    have ek : ((k - 1 : Nat) : Int) = (k : Int) - 1 := by omega
    rw [ek, show ((2 : Nat) : Int) = 2 from rfl] at hp1
    have hn2 : 2 ≤ n := by omega
    have ki1 : (1 : Int) ≤ (k : Int) := by omega
    have ki2 : (k : Int) ≤ 64 := by omega
    obtain ⟨p, hp⟩ : ∃ p, 2 ^ (k - 1) = p := ⟨_, rfl⟩
    rw [hp] at hp1 hlo
    have HP1 := Lib.hid hp1
    have HN := Lib.hid hn
    by_cases h64 : k = 64
    · subst h64
      rw [show ((64 : Nat) : Int) - 1 = 63 from rfl] at hp1
      rw [show ((64 : Nat) : Int) = 64 from rfl] at hn
      have HP1 := Lib.hid hp1
      have HN := Lib.hid hn
      clear hn hp1 hk hp hkst w1 ek hhi
      go_enter Tryd.func6, Tryd.ntmps6
      go_wp2_with (first
        | (go_at_call 7; (with_reducible refine (alive8_c w HKS.out).mono ?_); rintro e wa ⟨rfl, hba⟩; have HB := Lib.hid hba; clear hba)
        | (go_at_call 11; (with_reducible refine (HN.out _).mono ?_); rintro e _ ⟨rfl, rfl⟩)
        | (go_at_call 13; (with_reducible refine (HP1.out _).mono ?_); rintro e _ ⟨rfl, rfl⟩))
      go_ret
      exact ⟨rfl, HB.out⟩
    · have hp2 := fun W => r8pow_c 2 k (fun i hi => pow2_u64 i (by omega)) (by omega) W
      obtain ⟨q, hq⟩ : ∃ q, 2 ^ k = q := ⟨_, rfl⟩
      rw [hq, show ((2 : Nat) : Int) = 2 from rfl] at hp2
      rw [hq] at hhi
      have HP2 := Lib.hid hp2
      have t64 : ((k : Int) == 64) = false := by rw [beq_eq_false_iff_ne]; omega
      clear hn hp1 hp2 hk hp hq hkst w1 ek
      go_enter Tryd.func6, Tryd.ntmps6
      go_wp2_with (first
        | (go_at_call 7; (with_reducible refine (alive8_c w HKS.out).mono ?_); rintro e wa ⟨rfl, hba⟩; have HB := Lib.hid hba; clear hba)
        | (go_at_call 11; (with_reducible refine (HN.out _).mono ?_); rintro e _ ⟨rfl, rfl⟩)
        | (go_at_call 13; (with_reducible refine (HP1.out _).mono ?_); rintro e _ ⟨rfl, rfl⟩)
        | (go_at_call 13; (with_reducible refine (HP2.out _).mono ?_); rintro e _ ⟨rfl, rfl⟩))
      go_ret
      exact ⟨rfl, HB.out⟩


set_option maxRecDepth 100000 in
theorem lifted (os : Os) (started : os.Started) (H : Type) (enc : TypeId × Value → H) :
    ReturnsInHanded {} Tryd.checked os 6 .any (fun w args => (Rows.uniformNeedsSpec.pre enc Tryd.prog Tryd.f6 [] false w args ∧ laidMetH Tryd.prog laidK w) ∧ sizedMet enc Tryd.prog Tryd.f6 (OpenSpec.ofChange Rows.uniformNeedsSpec) false w args) (Rows.uniformNeedsSpec.post enc Tryd.prog Tryd.f6 false true false false) := by
  refine returnsInHanded_of_change_and (C := Tryd.checked) (X := fun w _ => laidMetH Tryd.prog laidK w) (fun _ _ _ hh h => h.of_heap hh) own started (by kernel_rfl) Tryd.func6
    (ChangeSpec.witness_shaped (enc := enc) (C := Tryd.checked) (os := os) (X := fun w _ => laidMetH Tryd.prog laidK w) false (World.doorLaid Tryd.prog 400 os) #[.int .u64 0] 8 rfl (World.shaped_of_RefB (by kernel_rfl) (by kernel_rfl)) (by kernel_rfl) (by kernel_rfl) (by kernel_rfl) (door_met os _)) ?_
  intro W base args ds gs before hval0 hW _ _ hL _
  have hval : ∀ (j : Nat) t v, Tryd.f6.params[j]? = some t → args[j]? = some v → Value.okWide Tryd.prog W .any base t v := hval0
  have hW' := hW
  obtain ⟨p, q, hA0, hV, rfl, hfz, hnd⟩ := hW
  have hA : DataW.TrodAll enc Tryd.prog W 0 (fun _ => true) true Tryd.f6.params.toList args.toList ds p := hA0
  rw [Tryd.params6] at hA hval
  obtain ⟨v0, vs0, d0, ds0, p0, q0, hargs, rfl, rfl, h0, r0⟩ := trodAll_cons hA
  obtain ⟨rfl, rfl, rfl⟩ := trodAll_nil r0
  obtain rfl : args = #[v0] := by cases args; simp_all
  obtain ⟨rfl, rfl⟩ := trodVars_none hV
  obtain ⟨a0, rfl, rfl, rfl, w0⟩ := open_int Tryd.underlying23 (hval 0 23 v0 rfl rfl) h0
  clear hA0 hval0
  refine (walk a0 W w0 (kst_of_laid hL)).mono fun e W' ⟨he, bel⟩ => ?_
  subst he
  exact ⟨_, rfl, _, _, _, [], _, [], hW', trodAll_mk1 (shut_bool Tryd.underlying4 _), (trodAll_cons_mk (shut_int Tryd.underlying23 w0) trodAll_mk0), rfl, bel.frame _, fun h => by cases h⟩

theorem over : Rows.uniformNeedsRow.holds Tryd.pinned (OpenSpec.ofChange Rows.uniformNeedsSpec) :=
  OpenClaim.holds_of_wide 6 Tryd.f6 rfl rfl rfl rfl rfl rfl rfl ⟨rfl, rfl, rfl, rfl, rfl⟩ rfl rfl rfl rfl rfl (by kernel_rfl) Tryd.func6 (by kernel_rfl)
    (of_decide_eq_true (by kernel_rfl)) (by unfold Func.isWrapper; first | (rw [if_pos (by decide +kernel)]; kernel_rfl) | (rw [if_neg (by decide +kernel)]; exact ⟨rfl, rfl⟩))
    (fun os started H enc _ => lifted os started H enc)

end Go.Proofs.YtmeefnhmkffdlaaDoor.uniformNeeds
namespace Go.Proofs.YtmeefnhmkffdlaaDoor
theorem uniformNeeds_holds : Rows.UniformNeedsCardSaid :=
  Claim7.holds_tied_plain_at .later [] [.data] true _ false
    uniformNeeds.over (fun _ h => by cases h) (by kernel_rfl) (fun _ h => by cases h) uniformNeeds_row_tie rfl ⟨rfl, rfl⟩ (by kernel_rfl) rfl
    (fun f fn hf hfn => by
      obtain rfl : f = 6 := Option.some.inj ((show Tryd.prog.funcNamed "drawlot/drawlotlaw08.UniformNeeds" = some 6 by kernel_rfl).symm.trans hf) |>.symm
      obtain rfl : fn = Tryd.f6 := (Option.some.inj (Tryd.func6.symm.trans hfn)).symm
      exact ⟨by kernel_rfl, fun j t ht => by
        rw [Tryd.params6] at ht
        have hm : t ∈ [23] := by simpa using Array.mem_of_getElem? ht
        have hall : ([23].all fun u => !Tryd.prog.wantsStandIn u) = true := by kernel_rfl
        exact (show Tryd.prog.wantsStandIn t = false by simpa using List.all_eq_true.1 hall t hm)⟩)
    (by kernel_rfl)
#print axioms uniformNeeds_holds
end Go.Proofs.YtmeefnhmkffdlaaDoor
